/-
  NatTimes, NatOps, LimbAt, Zeros, EvenImpl, TenImpl, DivImpl, QuoPlain, DecQ2, RatSpec2, Modes, RoundWords, DecWords4, DecSpec5, DecOkI, SignImpl, SignImpl2, SignImpl3, SignImplCmp, DecImpl, TextNatImpl, DecCut
-/
import Derived.Deep.RegionHeld3
import Derived.Laws.EntriesVeiled
import Derived.Deep.DeepCutAuto
import Derived.Deep.Cut
import Derived.Deep.CutBlock
import Derived.Deep.RegionLaw
import Derived.Deep.AppendLies
import Derived.Test.YtofehcpapdlcnaaGreatDoorJP4
namespace Go.Proofs.YtofehcpapdlcnaaGreatDoor
open Go.RowKit

/-- how many limbs addTimes reaches -/
def lenM (x y sh : Nat) : Nat := if y = 0 then x else max x (sh + y)
theorem lenM_succ (x k sh : Nat) : max (lenM x k sh) (sh + k + 1) = lenM x (k + 1) sh := by
  unfold lenM
  rw [if_neg (show ¬ k + 1 = 0 by omega)]
  by_cases h : k = 0
  · rw [if_pos h]; omega
  · rw [if_neg h]; omega
theorem lenM_le (x y sh : Nat) (hx : x ≤ 300000) (hy : y ≤ 300000) (hs : sh ≤ 300000) : lenM x y sh ≤ 600000 := by unfold lenM; split <;> omega
theorem take_val_succ (ys : List Int) (k : Nat) (h : k < ys.length) : nval (ys.take (k + 1)) = nval (ys.take k) + bp k * ys[k] := by
  rw [List.take_succ_eq_append_getElem h, nval_append, List.length_take, show min k ys.length = k by omega]
  show _ + bp k * (ys[k] + 1000000000 * 0) = _
  rw [Int.mul_zero, Int.add_zero]
/-- one step of the first loop -/
def TimesR (xs ys : List Int) (f : Int) (sh k : Nat) (cur : List Int) (cr : Int) : Prop :=
  DigN cur ∧ cur.length = lenM xs.length k sh ∧ nval cur + cr * bp (sh + k) = nval xs + f * bp sh * nval (ys.take k) ∧ (k = 0 → cr = 0)
theorem TimesR.start (xs ys : List Int) (f : Int) (sh : Nat) (hd : DigN xs) : TimesR xs ys f sh 0 xs 0 := by
  refine ⟨hd, rfl, ?_, fun _ => rfl⟩
  rw [List.take_zero]
  show nval xs + 0 * _ = nval xs + f * bp sh * 0
  rw [Int.zero_mul, Int.mul_zero]
theorem TimesR.next {xs ys : List Int} {f : Int} {sh k : Nat} {cur : List Int} {cr : Int} (h : TimesR xs ys f sh k cur cr) (hk : k < ys.length) :
    TimesR xs ys f sh (k + 1) (addAtL cur (sh + k) (ys[k] * f + cr)) (addAtC cur (sh + k) (ys[k] * f + cr)) := by
  obtain ⟨h1, h2, h3, _⟩ := h
  refine ⟨addAt_dig h1 _ _, ?_, ?_, fun h => absurd h (by omega)⟩
  · rw [addAt_length, h2, lenM_succ]
  · have e := addAt_val cur (sh + k) (ys[k] * f + cr)
    have e2 : ys[k] * f * bp (sh + k) = f * bp sh * (bp k * ys[k]) := by
      rw [bp_add]
      simp only [Int.mul_assoc, Int.mul_comm, Int.mul_left_comm]
    rw [show sh + (k + 1) = sh + k + 1 by omega, e, take_val_succ ys k hk, Int.add_mul, Int.mul_add, e2]
    omega
theorem carry_bound {cur : List Int} {p : Nat} {v : Int} (h : DigN cur) (h0 : 0 ≤ v) (h1 : v ≤ 999999999000000000) : 0 ≤ addAtC cur p v ∧ addAtC cur p v ≤ 999999999 := by
  have hd := getD_dig h p
  unfold addAtC
  omega
/-- one step of the second loop -/
def CarryR (M : Nat) (N : Int) (pl : Nat) (cur : List Int) (cr : Int) : Prop :=
  DigN cur ∧ nval cur + cr * bp pl = N ∧ ((cur.length = M ∧ (cr = 0 ∨ pl ≤ M)) ∨ (cr = 0 ∧ cur.length = M + 1 ∧ bp M ≤ N))
theorem CarryR.len {M pl : Nat} {N cr : Int} {cur : List Int} (h : CarryR M N pl cur cr) : cur.length ≤ M + 1 := by
  obtain ⟨_, _, ⟨h, _⟩ | ⟨_, h, _⟩⟩ := h <;> omega
theorem CarryR.place {M pl : Nat} {N cr : Int} {cur : List Int} (h : CarryR M N pl cur cr) (hc : 0 < cr) : pl ≤ M ∧ cur.length = M := by
  obtain ⟨_, _, ⟨h, h2 | h2⟩ | ⟨h, _⟩⟩ := h
  · omega
  · exact ⟨h2, h⟩
  · omega
theorem CarryR.next {M pl : Nat} {N cr : Int} {cur : List Int} (h : CarryR M N pl cur cr) (hc : 0 < cr) (h1 : cr ≤ 999999999) : CarryR M N (pl + 1) (addAtL cur pl cr) (addAtC cur pl cr) := by
  obtain ⟨hp, hl⟩ := h.place hc
  obtain ⟨hd, hv, _⟩ := h
  have e := addAt_val cur pl cr
  refine ⟨addAt_dig hd _ _, by rw [e]; exact hv, ?_⟩
  by_cases he : pl = M
  · subst he
    obtain ⟨e1, e2⟩ := addAt_new cur pl cr hl.symm hc h1
    rw [e1]
    refine .inr ⟨rfl, by rw [addAt_length]; omega, ?_⟩
    rw [e1, e2, Int.zero_mul, Int.add_zero] at e
    rw [← hv, ← e, nval_append, hl]
    have h2 := nval_nonneg cur hd
    have h3 := bp_pos pl
    have h4 : nval [cr] = cr := by show cr + 1000000000 * 0 = cr; omega
    rw [h4]
    have h5 := Int.mul_le_mul_of_nonneg_left (show 1 ≤ cr by omega) (show 0 ≤ bp pl by omega)
    omega
  · exact .inl ⟨by rw [addAt_length]; omega, .inr (by omega)⟩

/-- what addTimes leaves -/
def TimesPost (K : NatK) (B b : Nat) (xs ys : List Int) (f : Int) (sh : Nat) (w w' : World) : Prop :=
  ∃ zs, LeftX K B b zs w w' ∧ DigN zs ∧ nval zs = nval xs + f * bp sh * nval ys ∧ (zs.length = lenM xs.length ys.length sh ∨ (zs.length = lenM xs.length ys.length sh + 1 ∧ bp (lenM xs.length ys.length sh) ≤ nval zs))

theorem addAt_at {K : NatK} (B b : Nat) (xs : List Int) (p : Nat) (pz v : Int) (w : World) (hl : xs.length ≤ 1048576) (hp : p ≤ 1048576) (hv0 : 0 ≤ v) (hv1 : v ≤ 1000000000000000000) (hd : DigN xs) (h : NatX K B b xs w) (hz : pz = p) :
    Calls Tryz.prog 213 #[.pointer (some ⟨b, 0, none⟩), .int .i64 pz, .int .i64 v] w fun e w' => e = .returned (.int .i64 (addAtC xs p v)) ∧ LeftX K B b (addAtL xs p v) w w' := by
  subst hz
  exact addAt_any B b xs p v w hl hp hv0 hv1 hd h

set_option maxHeartbeats 1000000 in
set_option maxRecDepth 100000 in
theorem addTimes_any {K : NatK} (B b : Nat) (xs : List Int) (vy : Value) (ys : List Int) (lo hi : Nat) (f : Int) (sh : Nat) (w : World) (hxl : xs.length ≤ 300000) (hyl : ys.length ≤ 300000) (hsh : sh ≤ 300000) (hf0 : 0 ≤ f) (hf1 : f ≤ 999999999)
    (hdx : DigN xs) (hdy : DigN ys) (hhi : hi ≤ B) (hr : Row w lo hi vy (intsV ys)) (h : NatX K B b xs w) :
    Calls Tryz.prog 181 #[.pointer (some ⟨b, 0, none⟩), vy, .int .i64 f, .int .i64 sh] w fun e w' => e = .returned (.tuple #[]) ∧ TimesPost K B b xs ys f sh w w' := by
  obtain ⟨A, c, rfl, hA⟩ := hr
  rw [intsV_length]
  have HA := Lib.hid hA
  have HDX := Lib.hid hdx
  have HDY := Lib.hid hdy
  clear hA hdx hdy
  go_enter Tryz.func181, Tryz.ntmps181
  go_wp2
  go_loopw [8, 14] (fun a i wr => ∃ (k : Nat) (cur : List Int) (cr : Int), k ≤ ys.length ∧ i = .int .i64 k ∧ a = .int .i64 cr ∧ 0 ≤ cr ∧ cr ≤ 999999999 ∧ Hid (TimesR xs ys f sh k cur cr) ∧ NatX K B b cur wr ∧ Below B w wr) (fun _ i _ => ys.length - (intOf i).toNat)
  case atStart => exact ⟨0, xs, 0, Nat.zero_le _, rfl, rfl, by omega, by omega, Lib.hid (TimesR.start xs ys f sh HDX.out), h, Below.refl _ _⟩
  case round =>
    obtain ⟨k, cur, cr, hk, rfl, rfl, hc0, hc1, HR, hat, hb1⟩ := hrel
    have hcl : cur.length ≤ 600000 := by rw [HR.out.2.1]; exact lenM_le _ _ _ hxl (by omega) hsh
    by_cases hlt : k < ys.length
    · obtain ⟨p, rfl, _, hpb, hca⟩ := HA.out k _ (intsV_at ys k hlt)
      have hca' : wr.cell? (p.add k) = some (.int .i64 ys[k]) := (hb1.cell (by rw [block_add]; omega)).trans hca
      have hdy := HDY.out.at_ k hlt
      have hd0 := hdy.1
      have hd1 := hdy.2
      have hm0 : 0 ≤ ys[k] * f := Int.mul_nonneg hd0 hf0
      have hm1 : ys[k] * f ≤ 999999998000000001 := by
        have := Int.mul_le_mul hd1 hf1 hf0 (by omega)
        omega
      have HN := Lib.hid (HR.out.next hlt)
      have HCB := Lib.hid (carry_bound (p := sh + k) (v := ys[k] * f + cr) HR.out.1 (by omega) (by omega))
      clear hca hdy
      go_wp2_with fail
      refine (addAt_at B b cur (sh + k) _ _ _ (by omega) (by omega) (by omega) (by omega) HR.out.1 hat (by omega)).mono ?_
      rintro e w1 ⟨rfl, hat1, hb2⟩
      clear hm0 hm1 hd0 hd1
      go_wp2
      go_roundw
      case rel => exact ⟨k + 1, _, _, by omega, by go_num, rfl, HCB.out.1, HCB.out.2, HN, hat1, hb1.trans hb2⟩
      case measure => simp [intOf]; omega
    · obtain rfl : k = ys.length := by omega
      have HC : Hid (CarryR (lenM xs.length ys.length sh) (nval xs + f * bp sh * nval ys) (sh + ys.length) cur cr) := Lib.hid (by
        obtain ⟨h1, h2, h3, h4⟩ := HR.out
        rw [List.take_of_length_le (Nat.le_refl _)] at h3
        refine ⟨h1, h3, .inl ⟨h2, ?_⟩⟩
        by_cases hy : ys.length = 0
        · exact .inl (h4 hy)
        · right
          unfold lenM
          rw [if_neg hy]
          omega)
      have hM := lenM_le xs.length ys.length sh hxl hyl hsh
      clear HR
      go_wp2
      go_loopw [8, 11] (fun a i wr => ∃ (pl : Nat) (cur : List Int) (cr : Int), pl ≤ 600001 ∧ i = .int .i64 pl ∧ a = .int .i64 cr ∧ 0 ≤ cr ∧ cr ≤ 999999999 ∧ Hid (CarryR (lenM xs.length ys.length sh) (nval xs + f * bp sh * nval ys) pl cur cr) ∧ NatX K B b cur wr ∧ Below B w wr) (fun _ i _ => lenM xs.length ys.length sh + 1 - (intOf i).toNat)
      case atStart => exact ⟨sh + ys.length, cur, cr, by omega, by go_num, rfl, hc0, hc1, HC, hat, hb1⟩
      case round =>
        clear hat hb1 HC hc0 hc1 hcl
        obtain ⟨pl, cur, cr, hpl, rfl, rfl, hc0, hc1, HC, hat, hb1⟩ := hrel
        have hcl := HC.out.len
        by_cases hpos : 0 < cr
        · have hplm := (HC.out.place hpos).1
          have HN := Lib.hid (HC.out.next hpos hc1)
          have HCB := Lib.hid (carry_bound (p := pl) (v := cr) HC.out.1 hc0 (by omega))
          go_wp2_with fail
          refine (addAt_any B b cur pl cr _ (by omega) (by omega) (by omega) (by omega) HC.out.1 hat).mono ?_
          rintro e w1 ⟨rfl, hat1, hb2⟩
          go_wp2
          go_roundw
          case rel => exact ⟨pl + 1, _, _, by omega, by go_num, rfl, HCB.out.1, HCB.out.2, HN, hat1, hb1.trans hb2⟩
          case measure => simp [intOf]; omega
        · obtain rfl : cr = 0 := by omega
          go_wp2
          go_end0
          refine ⟨rfl, cur, ⟨hat, hb1⟩, HC.out.1, ?_, ?_⟩
          · have := HC.out.2.1
            rw [Int.zero_mul, Int.add_zero] at this
            exact this
          · obtain ⟨_, h2, h3⟩ := HC.out
            rw [Int.zero_mul, Int.add_zero] at h2
            rcases h3 with h3 | h3
            · exact .inl h3.1
            · exact .inr ⟨h3.2.1, by rw [h2]; exact h3.2.2⟩

/-- a row with the blocks on which it leans -/
theorem Row.on {w : World} {lo hi : Nat} {v : Value} {xs : List Value} (h : Row w lo hi v xs) : ∃ S, At S (fun w => Row w lo hi v xs) w ∧ Within S lo hi := by
  have hh := h
  obtain ⟨A, c, rfl, h⟩ := h
  cases xs with
  | nil => exact ⟨[], ⟨hh, fun g hg => absurd hg (by simp), fun w' _ => Row.nil_ A c⟩, fun g hg => absurd hg (by simp)⟩
  | cons x r =>
    obtain ⟨a, rfl, h1, h2, h3⟩ := h 0 x rfl
    have hlt := cell_lt h3
    rw [block_add] at hlt
    refine ⟨[a.block], ⟨hh, fun g hg => by simp at hg; omega, fun w' hk => ⟨_, c, rfl, fun j u hj => ?_⟩⟩, fun g hg => by simp at hg; omega⟩
    obtain ⟨a', e, k1, k2, k3⟩ := h j u hj
    cases e
    refine ⟨a, rfl, k1, k2, ?_⟩
    rw [← k3]
    have hb := hk a.block (by simp)
    unfold World.cell?
    rw [block_add, hb]

/-- one step of takeTimes -/
def TakeR (xs ys : List Int) (f : Int) (sh k pl : Nat) (cur : List Int) (br : Int) : Prop :=
  DigN cur ∧ cur.length = xs.length ∧ nval cur - br * bp pl = nval xs - f * bp sh * nval (ys.take k)
theorem TakeR.start (xs ys : List Int) (f : Int) (sh : Nat) (hd : DigN xs) : TakeR xs ys f sh 0 (sh + 0) xs 0 := by
  refine ⟨hd, rfl, ?_⟩
  rw [List.take_zero, Int.zero_mul]
  show _ = nval xs - f * bp sh * 0
  rw [Int.mul_zero]
theorem TakeR.next {xs ys : List Int} {f : Int} {sh k : Nat} {cur : List Int} {br : Int} (h : TakeR xs ys f sh k (sh + k) cur br) (hk : k < ys.length) (hl : sh + ys.length ≤ xs.length) :
    TakeR xs ys f sh (k + 1) (sh + (k + 1)) (takeAtL cur (sh + k) (ys[k] * f + br)) (takeAtC cur (sh + k) (ys[k] * f + br)) := by
  obtain ⟨a1, a2, a3⟩ := h
  refine ⟨takeAt_dig a1 _ _, by rw [takeAt_length, a2], ?_⟩
  have e2 : ys[k] * f * bp (sh + k) = f * bp sh * (bp k * ys[k]) := by
    rw [bp_add]
    simp only [Int.mul_assoc, Int.mul_comm, Int.mul_left_comm]
  rw [show sh + (k + 1) = sh + k + 1 by omega, takeAt_val cur (sh + k) _ (by omega), take_val_succ ys k hk, Int.add_mul, Int.mul_add, e2]
  omega
theorem TakeR.next2 {xs ys : List Int} {f : Int} {sh k pl : Nat} {cur : List Int} {br : Int} (h : TakeR xs ys f sh k pl cur br) (hl : pl < xs.length) :
    TakeR xs ys f sh k (pl + 1) (takeAtL cur pl br) (takeAtC cur pl br) := by
  obtain ⟨a1, a2, a3⟩ := h
  refine ⟨takeAt_dig a1 _ _, by rw [takeAt_length, a2], ?_⟩
  rw [takeAt_val cur pl _ (by omega)]
  exact a3
/-- the last borrow finds a limb -/
theorem TakeR.room {xs ys : List Int} {f : Int} {sh pl : Nat} {cur : List Int} {br : Int} (h : TakeR xs ys f sh ys.length pl cur br) (hle : f * bp sh * nval ys ≤ nval xs) (hb : 0 < br) : pl < xs.length := by
  obtain ⟨a1, a2, a3⟩ := h
  rw [List.take_of_length_le (Nat.le_refl _)] at a3
  rcases Nat.lt_or_ge pl xs.length with h | h
  · exact h
  · have h1 := nval_lt cur a1
    have h2 := bp_mono (show cur.length ≤ pl by omega)
    have h3 := bp_pos pl
    have h4 := Int.mul_le_mul_of_nonneg_right (show 1 ≤ br by omega) (show 0 ≤ bp pl by omega)
    omega
theorem TakeR.done {xs ys : List Int} {f : Int} {sh pl : Nat} {cur : List Int} (h : TakeR xs ys f sh ys.length pl cur 0) : trimL cur = limbs (nval xs - f * bp sh * nval ys).toNat := by
  obtain ⟨a1, a2, a3⟩ := h
  rw [List.take_of_length_le (Nat.le_refl _), Int.zero_mul] at a3
  rw [trim_limbs cur a1]
  congr 2
  omega

theorem takeAt_onz {K : NatK} (T : List Nat) (b : Nat) (xs : List Int) (p : Nat) (pz v : Int) (w : World) (hl : xs.length ≤ 1048576) (hp : p < xs.length) (hv0 : 0 ≤ v) (hv1 : v ≤ 1000000000000000000) (hd : DigN xs) (h : NatOnX K T b xs w) (hz : pz = p) :
    Calls Tryz.prog 218 #[.pointer (some ⟨b, 0, none⟩), .int .i64 pz, .int .i64 v] w fun e w' => e = .returned (.int .i64 (takeAtC xs p v)) ∧ KeptX K T b (takeAtL xs p v) w w' := by
  subst hz
  exact takeAt_on T b xs p v w hl hp hv0 hv1 hd h

set_option maxHeartbeats 1000000 in
set_option maxRecDepth 100000 in
theorem takeTimes_on {K : NatK} (T S : List Nat) (b : Nat) (xs : List Int) (vy : Value) (ys : List Int) (lo hi : Nat) (f : Int) (sh : Nat) (w : World) (hxl : xs.length ≤ 1048576) (hyl : sh + ys.length ≤ xs.length) (hf0 : 0 ≤ f) (hf1 : f ≤ 999999999)
    (hdx : DigN xs) (hdy : DigN ys) (hle : f * bp sh * nval ys ≤ nval xs) (hST : ∀ g ∈ S, g ∉ T) (hr : At S (fun w => Row w lo hi vy (intsV ys)) w) (h : NatOnX K T b xs w) :
    Calls Tryz.prog 189 #[.pointer (some ⟨b, 0, none⟩), vy, .int .i64 f, .int .i64 sh] w fun e w' => e = .returned (.tuple #[]) ∧ KeptX K T b (limbs (nval xs - f * bp sh * nval ys).toNat) w w' := by
  have HST := Lib.hid hST
  have HR0 := Lib.hid hr
  obtain ⟨A, c, rfl, _⟩ := hr.here
  rw [intsV_length]
  rw [intsV_length] at HR0
  have HDX := Lib.hid hdx
  have HDY := Lib.hid hdy
  have HLE := Lib.hid hle
  clear hdx hdy hr hST hle
  go_enter Tryz.func189, Tryz.ntmps189
  go_wp2
  go_loopw [8, 14] (fun a i wr => ∃ (k : Nat) (cur : List Int) (br : Int), k ≤ ys.length ∧ i = .int .i64 k ∧ a = .int .i64 br ∧ 0 ≤ br ∧ br ≤ 999999999 ∧ Hid (TakeR xs ys f sh k (sh + k) cur br) ∧ KeptX K T b cur w wr) (fun _ i _ => ys.length - (intOf i).toNat)
  case atStart => exact ⟨0, xs, 0, Nat.zero_le _, rfl, rfl, by omega, by omega, Lib.hid (TakeR.start xs ys f sh HDX.out), h, Chg.refl _ _⟩
  case round =>
    obtain ⟨k, cur, br, hk, rfl, rfl, hc0, hc1, HR, hat⟩ := hrel
    have hcl : cur.length ≤ 1048576 := by rw [HR.out.2.1]; exact hxl
    by_cases hlt : k < ys.length
    · obtain ⟨A', c', e, hA⟩ := (HR0.out.chg hat.2 HST.out).here
      injection e with e1 e2 e3
      subst e1 e3
      clear e2
      obtain ⟨p, rfl, _, hpb, hca⟩ := hA k _ (intsV_at ys k hlt)
      clear hA
      have hdy := HDY.out.at_ k hlt
      have hd0 := hdy.1
      have hd1 := hdy.2
      have hm0 : 0 ≤ ys[k] * f := Int.mul_nonneg hd0 hf0
      have hm1 : ys[k] * f ≤ 999999998000000001 := by
        have := Int.mul_le_mul hd1 hf1 hf0 (by omega)
        omega
      have HN := Lib.hid (HR.out.next hlt hyl)
      have HCB := Lib.hid (takeAt_bound HR.out.1 (sh + k) (ys[k] * f + br) (by omega) (by omega))
      clear hdy
      go_wp2_with fail
      refine (takeAt_onz T b cur (sh + k) _ _ _ hcl (by rw [HR.out.2.1]; omega) (by omega) (by omega) HR.out.1 hat.1 (by omega)).mono ?_
      rintro e w1 ⟨rfl, hat1⟩
      clear hm0 hm1 hd0 hd1
      go_wp2
      go_roundw
      case rel => exact ⟨k + 1, _, _, by omega, by go_num, rfl, HCB.out.1, HCB.out.2, HN, hat.trans hat1⟩
      case measure => simp [intOf]; omega
    · obtain rfl : k = ys.length := by omega
      go_wp2
      go_loopw [8, 11] (fun a i wr => ∃ (pl : Nat) (cur : List Int) (br : Int), pl ≤ xs.length ∧ i = .int .i64 pl ∧ a = .int .i64 br ∧ 0 ≤ br ∧ br ≤ 999999999 ∧ Hid (TakeR xs ys f sh ys.length pl cur br) ∧ KeptX K T b cur w wr) (fun _ i _ => xs.length - (intOf i).toNat)
      case atStart => exact ⟨sh + ys.length, cur, br, hyl, by go_num, rfl, hc0, hc1, HR, hat⟩
      case round =>
        clear hat HR hc0 hc1 hcl
        obtain ⟨pl, cur, br, hpl, rfl, rfl, hc0, hc1, HR, hat⟩ := hrel
        have hcl : cur.length ≤ 1048576 := by rw [HR.out.2.1]; exact hxl
        by_cases hpos : 0 < br
        · have hplm := HR.out.room HLE.out hpos
          have HN := Lib.hid (HR.out.next2 hplm)
          have HCB := Lib.hid (takeAt_bound HR.out.1 pl br (by omega) (by omega))
          go_wp2_with fail
          refine (takeAt_on T b cur pl br _ hcl (by rw [HR.out.2.1]; omega) (by omega) (by omega) HR.out.1 hat.1).mono ?_
          rintro e w1 ⟨rfl, hat1⟩
          go_wp2
          go_roundw
          case rel => exact ⟨pl + 1, _, _, by omega, by go_num, rfl, HCB.out.1, HCB.out.2, HN, hat.trans hat1⟩
          case measure => simp [intOf]; omega
        · obtain rfl : br = 0 := by omega
          have HF := Lib.hid HR.out.done
          go_wp2_with fail
          refine (natTrim_on T b cur _ hcl hat.1).mono ?_
          rintro e w1 ⟨rfl, hat1⟩
          go_wp2
          go_end0
          exact ⟨rfl, by rw [← HF.out]; exact hat.trans hat1⟩
end Go.Proofs.YtofehcpapdlcnaaGreatDoor

namespace Go.Proofs.YtofehcpapdlcnaaGreatDoor
open Go.RowKit

theorem add_limbs {a b zs : List Int} (oa : natOkB a = true) (ob : natOkB b = true) (hd : DigN zs) (hv : nval zs = nval a + 1 * bp 0 * nval b)
    (hl : zs.length = lenM a.length b.length 0 ∨ (zs.length = lenM a.length b.length 0 + 1 ∧ bp (lenM a.length b.length 0) ≤ nval zs)) : zs = limbs (nval a + nval b).toNat := by
  have hv2 : nval zs = nval a + nval b := by
    have : bp 0 = 1 := rfl
    rw [this, Int.one_mul, Int.one_mul] at hv
    exact hv
  have na := nval_nonneg a (natOk_parts oa).1
  have nb := nval_nonneg b (natOk_parts ob).1
  rw [← hv2]
  apply limbs_of_ge zs hd
  intro h0
  rcases hl with hl | ⟨hl, hg⟩
  · unfold lenM at hl
    by_cases hb : b.length = 0
    · rw [if_pos hb] at hl
      have := ok_ge oa (by omega)
      rw [hl]
      omega
    · rw [if_neg hb] at hl
      have h2 := ok_ge ob (by omega)
      by_cases hab : b.length ≤ a.length
      · have h1 := ok_ge oa (by omega)
        rw [hl, show max a.length (0 + b.length) = a.length by omega]
        omega
      · rw [hl, show max a.length (0 + b.length) = b.length by omega]
        omega
  · rw [hl, show lenM a.length b.length 0 + 1 - 1 = lenM a.length b.length 0 by omega]
    exact hg
/-- the cases of bad arguments are told by one lemma of the walk: both are right -/
theorem addN_ok {a b : List Int} (oa : natOkB a = true) (ob : natOkB b = true) : addN a b = natRes (nval a + nval b) := by unfold addN; rw [if_pos ⟨oa, ob⟩]
theorem mulN_ok {a b : List Int} (oa : natOkB a = true) (ob : natOkB b = true) : mulN a b = natRes (nval a * nval b) := by unfold mulN; rw [if_pos ⟨oa, ob⟩]

set_option maxHeartbeats 1000000 in
set_option maxRecDepth 100000 in
theorem implNatAdd_any (va vb : Value) (a b : List Int) (la ha lb hb : Nat) (w : World) (hal : a.length ≤ 1048576) (hbl : b.length ≤ 1048576) (_ : ha ≤ w.heap.size) (hhb : hb ≤ w.heap.size)
    (hra : Row w la ha va (intsV a)) (hrb : Row w lb hb vb (intsV b)) :
    Calls Tryz.prog 215 #[va, vb] w (NewInts (addN a b) w) := by
  by_cases oa : natOkB a = true
  · by_cases ob : natOkB b = true
    · have HN := Lib.hid (addN_ok oa ob)
      have OA := Lib.hid oa
      have OB := Lib.hid ob
      have pa := (natOk_parts oa).2.1
      have pb := (natOk_parts ob).2.1
      go_enter Tryz.func215, Tryz.ntmps215
      go_wp2_with fail
      refine (implNatOk_same va a la ha _ (by omega) hra).mono ?_
      rintro e w' ⟨rfl, rfl⟩
      rw [oa]
      go_wp2_with fail
      refine (implNatOk_same vb b lb hb _ (by omega) hrb).mono ?_
      rintro e w' ⟨rfl, rfl⟩
      rw [ob]
      clear oa ob
      go_wp2_with fail
      refine (copyNat_any va a la ha _ hal hra).mono ?_
      rintro e w1 ⟨p, rfl, hat, hb1⟩
      go_wp2_with fail
      refine (addTimes_any w.heap.size p a vb b lb hb 1 0 _ (by omega) (by omega) (by omega) (by omega) (by omega) (natOk_parts OA.out).1 (natOk_parts OB.out).1 hhb (hrb.below hb1 hhb) hat).mono ?_
      rintro e w2 ⟨rfl, zs, ⟨hat2, hb2⟩, hd, hv, hl⟩
      have HZ := Lib.hid (add_limbs OA.out OB.out hd hv hl)
      have hzl : zs.length ≤ 101 := by
        rcases hl with hl | ⟨hl, _⟩
        · rw [hl]; unfold lenM; split <;> omega
        · rw [hl]; unfold lenM; split <;> omega
      clear hv hl hd
      go_wp2_with fail
      refine (natResult_any w.heap.size p zs _ (by omega) hat2).mono ?_
      rintro e w3 hpost
      obtain ⟨rfl, v3, rfl, ho⟩ := hpost
      go_wp2
      go_ret
      exact ⟨_, rfl, by rw [HN.out]; unfold natRes; rw [← HZ.out]; exact ho, hb1.trans hb2⟩
    · have ob' : natOkB b = false := by simpa using ob
      have HN := Lib.hid (show addN a b = [] by unfold addN; rw [if_neg (fun h => ob h.2)])
      clear ob
      go_enter Tryz.func215, Tryz.ntmps215
      go_wp2_with fail
      refine (implNatOk_same va a la ha _ (by omega) hra).mono ?_
      rintro e w' ⟨rfl, rfl⟩
      rw [oa]
      go_wp2_with fail
      refine (implNatOk_same vb b lb hb _ (by omega) hrb).mono ?_
      rintro e w' ⟨rfl, rfl⟩
      rw [ob']
      go_wp2
      go_ret
      rw [HN.out]
      exact new_nil (Below.refl _ _)
  · have oa' : natOkB a = false := by simpa using oa
    have HN := Lib.hid (show addN a b = [] by unfold addN; rw [if_neg (fun h => oa h.1)])
    clear oa
    go_enter Tryz.func215, Tryz.ntmps215
    go_wp2_with fail
    refine (implNatOk_same va a la ha _ (by omega) hra).mono ?_
    rintro e w' ⟨rfl, rfl⟩
    rw [oa']
    go_wp2
    go_ret
    rw [HN.out]
    exact new_nil (Below.refl _ _)

/-- the product so far -/
def MulR (a b : List Int) (i : Nat) (cur : List Int) : Prop :=
  DigN cur ∧ nval cur = nval (a.take i) * nval b ∧ cur.length ≤ i + b.length ∧ (cur.length ≤ i + b.length - 1 ∨ bp (cur.length - 1) ≤ nval cur) ∧ (i = 0 → cur = []) ∧ (b.length = 0 → cur = [])
theorem MulR.start (a b : List Int) : MulR a b 0 [] := by
  refine ⟨(fun d hd => by cases hd), ?_, by simp, .inl (by simp), fun _ => rfl, fun _ => rfl⟩
  rw [List.take_zero]
  show (0 : Int) = 0 * nval b
  rw [Int.zero_mul]
theorem MulR.next {a b cur zs : List Int} {i : Nat} (h : MulR a b i cur) (hi : i < a.length) (hd : DigN zs) (hv : nval zs = nval cur + a[i] * bp i * nval b)
    (hl : zs.length = lenM cur.length b.length i ∨ (zs.length = lenM cur.length b.length i + 1 ∧ bp (lenM cur.length b.length i) ≤ nval zs)) : MulR a b (i + 1) zs := by
  obtain ⟨h1, h2, h3, h4, h5, h6⟩ := h
  have hval : nval zs = nval (a.take (i + 1)) * nval b := by
    rw [hv, h2, take_val_succ a i hi, Int.add_mul, Int.mul_comm a[i]]
  unfold lenM at hl
  by_cases hb : b.length = 0
  · have hb0 : b = [] := List.eq_nil_of_length_eq_zero hb
    have hc0 := h6 hb
    subst hb0
    subst hc0
    rw [if_pos hb] at hl
    have hz : nval zs = 0 := by rw [hval]; exact Int.mul_zero _
    have hzs : zs = [] := by
      rcases hl with hl | ⟨_, hg⟩
      · exact List.eq_nil_of_length_eq_zero hl
      · have := bp_pos (([] : List Int).length)
        omega
    subst hzs
    exact ⟨hd, hval, by simp, .inl (by simp), fun _ => rfl, fun _ => rfl⟩
  · rw [if_neg hb, show max cur.length (i + b.length) = i + b.length by omega] at hl
    refine ⟨hd, hval, by omega, ?_, fun h => absurd h (by omega), fun h => absurd h hb⟩
    rcases hl with hl | ⟨hl, hg⟩
    · exact .inl (by omega)
    · right
      rw [hl, show i + b.length + 1 - 1 = i + b.length by omega]
      exact hg
theorem MulR.done {a b cur : List Int} (h : MulR a b a.length cur) (oa : natOkB a = true) (ob : natOkB b = true) : cur = limbs (nval a * nval b).toNat := by
  obtain ⟨h1, h2, h3, h4, h5, h6⟩ := h
  rw [List.take_of_length_le (Nat.le_refl _)] at h2
  rw [← h2]
  apply limbs_of_ge cur h1
  intro h0
  rcases h4 with h4 | h4
  · have ha : 0 < a.length := by
      rcases Nat.eq_zero_or_pos a.length with e | e
      · rw [h5 e] at h0; simp at h0
      · exact e
    have hb : 0 < b.length := by
      rcases Nat.eq_zero_or_pos b.length with e | e
      · rw [h6 e] at h0; simp at h0
      · exact e
    have ga := ok_ge oa ha
    have gb := ok_ge ob hb
    have pa := bp_pos (a.length - 1)
    have pb := bp_pos (b.length - 1)
    have hm := Int.mul_le_mul ga gb (by omega) (by omega)
    rw [← bp_add, ← h2] at hm
    have := bp_mono (show cur.length - 1 ≤ a.length - 1 + (b.length - 1) by omega)
    omega
  · exact h4

set_option maxHeartbeats 1000000 in
set_option maxRecDepth 100000 in
theorem implNatMul_any (va vb : Value) (a b : List Int) (la ha lb hb : Nat) (w : World) (hal : a.length ≤ 1048576) (hbl : b.length ≤ 1048576) (hha : ha ≤ w.heap.size) (hhb : hb ≤ w.heap.size)
    (hra : Row w la ha va (intsV a)) (hrb : Row w lb hb vb (intsV b)) :
    Calls Tryz.prog 135 #[va, vb] w (NewInts (mulN a b) w) := by
  by_cases oa : natOkB a = true
  · by_cases ob : natOkB b = true
    · have HN := Lib.hid (mulN_ok oa ob)
      have OA := Lib.hid oa
      have OB := Lib.hid ob
      have pa := (natOk_parts oa).2.1
      have pb := (natOk_parts ob).2.1
      have ra := hra
      obtain ⟨A, ca, rfl, hA⟩ := hra
      rw [intsV_length] at ra ⊢
      have HA := Lib.hid hA
      clear hA
      go_enter Tryz.func135, Tryz.ntmps135
      go_wp2_with fail
      refine (implNatOk_same _ a la ha _ (by omega) ra).mono ?_
      rintro e w' ⟨rfl, rfl⟩
      rw [oa]
      go_wp2_with fail
      refine (implNatOk_same vb b lb hb _ (by omega) hrb).mono ?_
      rintro e w' ⟨rfl, rfl⟩
      rw [ob]
      clear oa ob
      go_wp2
      go_loopw [18] (fun i wr => ∃ (k : Nat) (cur : List Int), k ≤ a.length ∧ i = .int .i64 k ∧ Hid (MulR a b k cur) ∧ NatAt w.heap.size w.heap.size cur wr ∧ Below w.heap.size w wr) (fun i _ => a.length - (intOf i).toNat)
      case atStart => exact ⟨0, [], Nat.zero_le _, rfl, Lib.hid (MulR.start a b), NatAt.new (Nat.le_refl _) (World.ownsRow_nil _ _ _ _), (Below.refl _ _).alloc (Nat.le_refl _) _⟩
      case round =>
        obtain ⟨k, cur, hk, rfl, HM, hat, hb1⟩ := hrel
        have hcl : cur.length ≤ 100 := by have := HM.out.2.2.1; omega
        by_cases hlt : k < a.length
        · obtain ⟨p, rfl, _, hpb, hca⟩ := HA.out k _ (intsV_at a k hlt)
          have hca' : wr.cell? (p.add k) = some (.int .i64 a[k]) := (hb1.cell (by rw [block_add]; omega)).trans hca
          have hda := (natOk_parts OA.out).1.at_ k hlt
          have hd0 := hda.1
          have hd1 := hda.2
          clear hca hda
          go_wp2_with fail
          refine (addTimes_any w.heap.size w.heap.size cur vb b lb hb a[k] k _ (by omega) (by omega) (by omega) hd0 hd1 HM.out.1 (natOk_parts OB.out).1 hhb (hrb.below hb1 hhb) hat).mono ?_
          rintro e w2 ⟨rfl, zs, ⟨hat2, hb2⟩, hd, hv, hl⟩
          have HM2 := Lib.hid (HM.out.next hlt hd hv hl)
          clear hd hv hl hd0 hd1
          go_wp2
          go_roundw
          case rel => exact ⟨k + 1, zs, by omega, by go_num, HM2, hat2, hb1.trans hb2⟩
          case measure => simp [intOf]; omega
        · obtain rfl : k = a.length := by omega
          have HZ := Lib.hid (HM.out.done OA.out OB.out)
          go_wp2_with fail
          refine (natResult_any w.heap.size w.heap.size cur _ (by omega) hat).mono ?_
          rintro e w3 hpost
          obtain ⟨rfl, v3, rfl, ho⟩ := hpost
          go_wp2
          go_ret
          exact ⟨_, rfl, by rw [HN.out]; unfold natRes; rw [← HZ.out]; exact ho, hb1⟩
    · have ob' : natOkB b = false := by simpa using ob
      have HN := Lib.hid (show mulN a b = [] by unfold mulN; rw [if_neg (fun h => ob h.2)])
      clear ob
      go_enter Tryz.func135, Tryz.ntmps135
      go_wp2_with fail
      refine (implNatOk_same va a la ha _ (by omega) hra).mono ?_
      rintro e w' ⟨rfl, rfl⟩
      rw [oa]
      go_wp2_with fail
      refine (implNatOk_same vb b lb hb _ (by omega) hrb).mono ?_
      rintro e w' ⟨rfl, rfl⟩
      rw [ob']
      go_wp2
      go_ret
      rw [HN.out]
      exact new_nil (Below.refl _ _)
  · have oa' : natOkB a = false := by simpa using oa
    have HN := Lib.hid (show mulN a b = [] by unfold mulN; rw [if_neg (fun h => oa h.1)])
    clear oa
    go_enter Tryz.func135, Tryz.ntmps135
    go_wp2_with fail
    refine (implNatOk_same va a la ha _ (by omega) hra).mono ?_
    rintro e w' ⟨rfl, rfl⟩
    rw [oa']
    go_wp2
    go_ret
    rw [HN.out]
    exact new_nil (Below.refl _ _)
end Go.Proofs.YtofehcpapdlcnaaGreatDoor

namespace Go.Proofs.YtofehcpapdlcnaaGreatDoor
open Go.RowKit

set_option maxHeartbeats 400000 in
set_option maxRecDepth 100000 in
theorem limbAt_any (v : Value) (xs : List Int) (p : Int) (lo hi : Nat) (w : World) (_hl : xs.length ≤ 1048576) (hr : Row w lo hi v (intsV xs)) :
    Calls Tryz.prog 254 #[v, .int .i64 p] w fun e w' => e = .returned (.int .i64 (if p < 0 then 0 else xs.getD p.toNat 0)) ∧ w = w' := by
  obtain ⟨A, c, rfl, hA⟩ := hr
  rw [intsV_length]
  by_cases h0 : p < 0
  · rw [if_pos h0]
    go_enter Tryz.func254, Tryz.ntmps254
    go_wp2
    go_ret
    exact ⟨rfl, rfl⟩
  · rw [if_neg h0]
    obtain ⟨n, rfl⟩ := Int.eq_ofNat_of_zero_le (show 0 ≤ p by omega)
    rw [Int.toNat_natCast]
    by_cases h1 : n < xs.length
    · obtain ⟨a, rfl, _, _, hca⟩ := hA n _ (intsV_at xs n h1)
      rw [List.getD_eq_getElem?_getD, List.getElem?_eq_getElem h1, Option.getD_some]
      clear h0
      generalize xs[n] = x at *
      go_enter Tryz.func254, Tryz.ntmps254
      go_wp2
      go_ret
      exact ⟨rfl, rfl⟩
    · rw [List.getD_eq_getElem?_getD, List.getElem?_eq_none (by omega)]
      clear h0
      go_enter Tryz.func254, Tryz.ntmps254
      go_wp2
      go_ret
      exact ⟨rfl, rfl⟩
end Go.Proofs.YtofehcpapdlcnaaGreatDoor

namespace Go.Proofs.YtofehcpapdlcnaaGreatDoor
open Go.RowKit

/-- how many zeros stand at the end -/
def zerosL (l : List UInt8) : Nat := (l.reverse.takeWhile (fun c => c == 48)).length
theorem tw_at {α : Type} (p : α → Bool) (l : List α) : ∀ k, k < (l.takeWhile p).length → ∃ h2 : k < l.length, p l[k] = true := by
  induction l with
  | nil => intro k h; simp at h
  | cons x r ih =>
    intro k h
    by_cases hx : p x = true
    · rw [List.takeWhile_cons_of_pos hx] at h
      cases k with
      | zero => exact ⟨by simp, hx⟩
      | succ k => obtain ⟨h1, h2⟩ := ih k (by simpa using h); exact ⟨by simpa using h1, h2⟩
    · rw [List.takeWhile_cons_of_neg hx] at h
      simp at h
theorem zeros_le (l : List UInt8) : zerosL l ≤ l.length := by
  unfold zerosL
  have := (List.takeWhile_sublist (fun c : UInt8 => c == 48) (l := l.reverse)).length_le
  simpa using this
theorem val_zeros (l : List UInt8) (h : ∀ c ∈ l, c = 48) : valL l = 0 := by
  have : ∀ a : Int, List.foldl (fun a (c : UInt8) => a * 10 + ((c.toNat : Int) - 48)) a l = a * 10 ^ l.length := by
    induction l with
    | nil => intro a; simp
    | cons c r ih =>
      intro a
      have hc : (c.toNat : Int) = 48 := by rw [h c (by simp)]; rfl
      rw [List.foldl_cons, ih (fun x hx => h x (by simp [hx])), hc, List.length_cons, Int.pow_succ, Int.mul_comm (10 ^ r.length) 10, ← Int.mul_assoc]
      congr 1
      omega
  have h2 := this 0
  rw [Int.zero_mul] at h2
  exact h2
theorem zeros_lt (l : List UInt8) (h : 0 < valL l) : zerosL l < l.length := by
  have hl := zeros_le l
  rcases Nat.lt_or_ge (zerosL l) l.length with hlt | hge
  · exact hlt
  · exfalso
    have : ∀ c ∈ l, c = 48 := by
      intro c hc
      obtain ⟨i, hi, rfl⟩ := List.getElem_of_mem hc
      have hr : l.length - 1 - i < zerosL l := by omega
      obtain ⟨h2, h3⟩ := tw_at _ _ _ hr
      rw [List.getElem_reverse, beq_iff_eq] at h3
      rw [← h3]
      congr 1
      omega
    rw [val_zeros l this] at h
    omega
/-- what NatZeros answers -/
def zerosN (a : List Int) : Int := if natOkB a = true ∧ 0 < a.length then zerosL (natT a).data.toList else 0
theorem zerosN_ok {a : List Int} (h : natOkB a = true) (h0 : 0 < a.length) : zerosN a = zerosL (natT a).data.toList ∧ zerosL (natT a).data.toList < (natT a).size := by
  refine ⟨by unfold zerosN; rw [if_pos ⟨h, h0⟩], ?_⟩
  apply zeros_lt
  have e : (natT a).data.toList = Lib.decDigits (nval a).toNat := by conv => lhs; rw [natOk_limbs h, natT_dec]
  have h1 := ok_ge h h0
  have h2 := bp_pos (a.length - 1)
  rw [e, valL_dec]
  omega

end Go.Proofs.YtofehcpapdlcnaaGreatDoor

namespace Go.Proofs.YtofehcpapdlcnaaGreatDoor
open Go.RowKit

set_option maxHeartbeats 400000 in
set_option maxRecDepth 100000 in
theorem implNatEven_any (v : Value) (a : List Int) (lo hi : Nat) (w : World) (hl : a.length ≤ 1048576) (hr : Row w lo hi v (intsV a)) :
    Calls Tryz.prog 243 #[v] w fun e w' => e = .returned (.bool (evenB a)) ∧ w = w' := by
  by_cases oa : natOkB a = true
  · have hd := (natOk_parts oa).1
    have hg : a.getD 0 0 = a.headD 0 := by cases a <;> rfl
    have hx : 0 ≤ a.headD 0 ∧ a.headD 0 ≤ 999999999 := by
      cases a with
      | nil => exact ⟨Int.le_refl _, by decide⟩
      | cons x r => exact hd.head
    have HV := Lib.hid (show evenB a = (a.headD 0 % 2 == 0) by unfold evenB; rw [oa, Bool.true_and, Bool.eq_iff_iff, decide_eq_true_eq, beq_iff_eq])
    have hx0 := hx.1
    have hx1 := hx.2
    clear hd hx
    go_enter Tryz.func243, Tryz.ntmps243
    go_wp2_with fail
    refine (implNatOk_same v a lo hi _ (by omega) hr).mono ?_
    rintro e w' ⟨rfl, rfl⟩
    rw [oa]
    go_wp2_with fail
    refine (limbAt_any v a 0 lo hi _ hl hr).mono ?_
    rintro e w' ⟨rfl, rfl⟩
    rw [if_neg (by decide), show (0 : Int).toNat = 0 from rfl, hg]
    generalize a.headD 0 = x at *
    go_wp2
    go_ret
    exact ⟨ret_bool HV.out.symm, rfl⟩
  · have oa' : natOkB a = false := by simpa using oa
    have HV := Lib.hid (show evenB a = false by unfold evenB; rw [oa', Bool.false_and])
    clear oa
    go_enter Tryz.func243, Tryz.ntmps243
    go_wp2_with fail
    refine (implNatOk_same v a lo hi _ (by omega) hr).mono ?_
    rintro e w' ⟨rfl, rfl⟩
    rw [oa']
    go_wp2
    go_ret
    exact ⟨ret_bool HV.out.symm, rfl⟩
end Go.Proofs.YtofehcpapdlcnaaGreatDoor

namespace Go.Proofs.YtofehcpapdlcnaaGreatDoor
open Go.RowKit

set_option maxHeartbeats 1000000 in
set_option maxRecDepth 100000 in
theorem implNatTen_any (k : Int) (w : World) : Calls Tryz.prog 183 #[.int .i64 k] w (NewInts (tenN k) w) := by
  obtain ⟨i0, hi0, hz0, hz1, hz2⟩ := info_parts intInfo
  by_cases h0 : k < 0
  · have HV : Hid (tenN k = []) := Lib.hid (by unfold tenN; rw [if_neg (by omega)])
    go_enter Tryz.func183, Tryz.ntmps183
    go_wp2
    go_ret
    rw [HV.out]
    exact new_nil (Below.refl _ _)
  · by_cases h1 : 450 ≤ k
    · have HV : Hid (tenN k = []) := Lib.hid (by unfold tenN; rw [if_neg (by omega)])
      go_enter Tryz.func183, Tryz.ntmps183
      go_wp2
      go_ret
      rw [HV.out]
      exact new_nil (Below.refl _ _)
    · obtain ⟨n, rfl⟩ := Int.eq_ofNat_of_zero_le (show 0 ≤ k by omega)
      have hn : n ≤ 449 := by omega
      have HV : Hid (tenN n = List.replicate (n / 9) 0 ++ [(10 : Int) ^ (n % 9)]) := Lib.hid (by unfold tenN; rw [if_pos (by omega), Int.toNat_natCast, ten_limbs])
      have hmk := make_ints (n / 9) (by omega)
      rw [show ((n / 9 : Nat) : Int) = (n : Int) / 9 by omega] at hmk
      clear h0 h1
      go_enter Tryz.func183, Tryz.ntmps183
      go_wp2
      go_loop [3, 12] (fun f i => ∃ (j : Nat) (p : Int), j ≤ n % 9 ∧ i = .int .i64 j ∧ f = .int .i64 p ∧ 0 < p ∧ p ≤ 100000000 ∧ Hid (p = 10 ^ j)) (fun _ i => n % 9 - (intOf i).toNat)
      case atStart => exact ⟨0, 1, Nat.zero_le _, rfl, rfl, by omega, by omega, Lib.hid rfl⟩
      case round =>
        obtain ⟨j, p, hj, rfl, rfl, hp0, hp1, HP⟩ := hrel
        by_cases hlt : (j : Int) < (n : Int) % 9
        · have HN : Hid (p * 10 = 10 ^ (j + 1) ∧ p * 10 ≤ 100000000) := Lib.hid (by
            have h1 : p * 10 = (10 : Int) ^ (j + 1) := by rw [HP.out, Int.pow_succ]
            exact ⟨h1, by rw [h1]; exact ten_eight (j + 1) (by omega)⟩)
          go_wp2
          go_round
          case rel => exact ⟨j + 1, p * 10, by omega, by go_num, rfl, by omega, HN.out.2, Lib.hid HN.out.1⟩
          case measure => simp [intOf]; omega
        · have HJ := Lib.hid (show j = n % 9 by omega)
          have hown : (w.alloc (.cells (madeCells #[.int .i64 0] (n / 9)) 3)).ownsRow w.heap.size 3 1 (.slice (some ⟨w.heap.size, 0, none⟩) (n / 9) (n / 9)) (n / 9) (intsV (List.replicate (n / 9) 0)) := by
            have h := World.ownsRow_lit (e := 3) (size := 1) (base := w.heap.size) w (madeCells #[.int .i64 0] (n / 9)) (n / 9) (Nat.le_refl _) (by unfold maxLen; omega) (by rw [size_madeCells, Nat.mul_one])
            rw [toList_madeCells_one] at h
            simpa [intsV] using h
          go_wp2_with (at_builtin; refine wpList_append_own _ rfl _ _ 22 rfl w.heap.size 3 i0 (.int .i64 0) 1 8 Tryz.underlying22 hi0 hz0 hz1 hz2 rfl (by decide) _ _ _ rfl (own_alloc hown _) ⟨w.heap.size + 1, 0, none⟩ 1 1 [.int .i64 p] rfl rfl ?c1 ?c2 ?c3 ?c4 ?c5 ?_)
          case c2 => first | (intro u hu; simp at hu; subst hu; rfl) | rfl
          case c3 => unfold maxLen; omega
          case c4 => omega
          case c5 => first | omega | (simp; omega)
          intro v1 w1 hown1 hg1 _
          have hb2 : Below w.heap.size w w1 := (((Below.refl _ w).alloc (Nat.le_refl _) _).alloc (by simp) _).grown hg1 (by simp; omega) (fun k hk => by cases hk; exact Nat.le_refl _)
          go_wp2
          go_ret
          refine ⟨_, rfl, ?_, hb2⟩
          rw [HV.out, ← HJ.out, ← HP.out]
          simpa [intsV] using hown1
end Go.Proofs.YtofehcpapdlcnaaGreatDoor

namespace Go.Proofs.YtofehcpapdlcnaaGreatDoor
open Go.RowKit

/-! ### zeros at the end of a number -/
def zN (n : Nat) : Nat := zerosL (Lib.decDigits n)
theorem zerosL_snoc (l : List UInt8) (c : UInt8) : zerosL (l ++ [c]) = if c = 48 then zerosL l + 1 else 0 := by
  unfold zerosL
  rw [List.reverse_append, List.reverse_singleton, List.singleton_append]
  by_cases h : c = 48
  · rw [List.takeWhile_cons_of_pos (by simpa using h), if_pos h]; rfl
  · rw [List.takeWhile_cons_of_neg (by simpa using h), if_neg h]; rfl
theorem chr_eq {k : Nat} (h : k < 10) : (UInt8.ofNat (48 + k) = 48) ↔ k = 0 := by
  constructor
  · intro e
    have e2 := congrArg UInt8.toNat e
    rw [UInt8.toNat_ofNat'] at e2
    have : (48 : UInt8).toNat = 48 := rfl
    omega
  · rintro rfl; rfl
theorem zN_end (n : Nat) (h : n % 10 ≠ 0) : zN n = 0 := by
  unfold zN
  by_cases hs : n < 10
  · rw [dec_small n hs]
    have := zerosL_snoc [] (UInt8.ofNat (48 + n))
    rw [List.nil_append] at this
    rw [this, if_neg (by rw [chr_eq hs]; omega)]
  · rw [dec_big n hs, zerosL_snoc, if_neg (by rw [chr_eq (by omega)]; exact h)]
theorem zN_ten (n : Nat) (h : 0 < n) : zN (10 * n) = zN n + 1 := by
  unfold zN
  rw [dec_big (10 * n) (by omega), zerosL_snoc, show 10 * n / 10 = n by omega, show 10 * n % 10 = 0 by omega, if_pos (show UInt8.ofNat (48 + 0) = 48 from rfl)]
theorem zN_pow (k n : Nat) (h : 0 < n) : zN (10 ^ k * n) = zN n + k := by
  induction k with
  | zero => simp
  | succ k ih =>
    have hp : 0 < 10 ^ k * n := Nat.mul_pos (Nat.pow_pos (by omega)) h
    rw [Nat.pow_succ, Nat.mul_comm (10 ^ k) 10, Nat.mul_assoc, zN_ten _ hp, ih]
    omega
theorem zerosN_zN {a : List Int} (h : natOkB a = true) (h0 : 0 < a.length) : zerosN a = zN (nval a).toNat := by
  rw [(zerosN_ok h h0).1]
  unfold zN
  rw [show (natT a).data.toList = Lib.decDigits (nval a).toNat by conv => lhs; rw [natOk_limbs h, natT_dec]]
/-- the first loop of NatZeros: limbs that are zero have been passed -/
def ZerosR (a : List Int) (k : Nat) : Prop := 0 < nval (a.drop k) ∧ zN (nval a).toNat = 9 * k + zN (nval (a.drop k)).toNat
theorem ZerosR.start {a : List Int} (h : natOkB a = true) (h0 : 0 < a.length) : ZerosR a 0 := by
  have h1 := ok_ge h h0
  have h2 := bp_pos (a.length - 1)
  rw [ZerosR, List.drop_zero]
  exact ⟨by omega, by simp⟩
theorem ZerosR.lt {a : List Int} {k : Nat} (h : ZerosR a k) : k < a.length := by
  rcases Nat.lt_or_ge k a.length with hk | hk
  · exact hk
  · have := h.1
    rw [List.drop_of_length_le hk] at this
    exact absurd this (by decide)
theorem ZerosR.next {a : List Int} {k : Nat} (h : ZerosR a k) (hk : k < a.length) (hz : a[k] = 0) : ZerosR a (k + 1) := by
  obtain ⟨h1, h2⟩ := h
  rw [nval_drop a k hk, hz] at h1 h2
  refine ⟨by omega, ?_⟩
  rw [h2]
  have e : (0 + 1000000000 * nval (a.drop (k + 1))).toNat = 10 ^ 9 * (nval (a.drop (k + 1))).toNat := by omega
  rw [e, zN_pow 9 _ (by omega)]
  omega
/-- the second loop: the limb m, with f places left in it, ahead of R -/
def ZeroD (Z : Nat) (z : Int) (m : Int) (f : Nat) (R : Nat) : Prop := m < 10 ^ (f + 1) ∧ (Z : Int) = z + zN (m.toNat + 10 ^ (f + 1) * R)
theorem ZerosR.digits {a : List Int} {k : Nat} (h : ZerosR a k) (hk : k < a.length) (hd : DigN a) : ZeroD (zN (nval a).toNat) (k * 9) a[k] 8 (nval (a.drop (k + 1))).toNat := by
  obtain ⟨h1, h2⟩ := h
  have := hd.at_ k hk
  have h3 := nval_nonneg (a.drop (k + 1)) (hd.drop _)
  rw [nval_drop a k hk] at h1 h2
  refine ⟨by omega, ?_⟩
  rw [h2, show (a[k] + 1000000000 * nval (a.drop (k + 1))).toNat = a[k].toNat + 10 ^ (8 + 1) * (nval (a.drop (k + 1))).toNat by omega]
  simp
  omega
theorem ZeroD.next {Z : Nat} {z m : Int} {f R : Nat} (h : ZeroD Z z m f R) (hm : 0 < m) (h0 : m % 10 = 0) : ∃ g, f = g + 1 ∧ 0 < m / 10 ∧ ZeroD Z (z + 1) (m / 10) g R := by
  obtain ⟨h1, h2⟩ := h
  cases f with
  | zero => exfalso; omega
  | succ g =>
    refine ⟨g, rfl, by omega, ?_, ?_⟩
    · rw [Int.pow_succ] at h1; omega
    · rw [h2]
      have e : m.toNat + 10 ^ (g + 1 + 1) * R = 10 * ((m / 10).toNat + 10 ^ (g + 1) * R) := by
        rw [Nat.mul_add, ← Nat.mul_assoc, Nat.pow_succ 10 (g + 1), Nat.mul_comm (10 ^ (g + 1)) 10]
        omega
      rw [e, zN_ten _ (by omega)]
      omega
theorem ZeroD.done {Z : Nat} {z m : Int} {f R : Nat} (h : ZeroD Z z m f R) (hm : 0 < m) (h0 : m % 10 ≠ 0) : (Z : Int) = z := by
  obtain ⟨h1, h2⟩ := h
  rw [h2, zN_end]
  · simp
  · rw [Nat.pow_succ, Nat.mul_comm (10 ^ f) 10, Nat.mul_assoc]
    omega


set_option maxHeartbeats 1000000 in
set_option maxRecDepth 100000 in
theorem implNatZeros_any (v : Value) (a : List Int) (lo hi : Nat) (w : World) (hl : a.length ≤ 1048576) (hr : Row w lo hi v (intsV a)) :
    Calls Tryz.prog 112 #[v] w fun e w' => e = .returned (.int .i64 (zerosN a)) ∧ w = w' := by
  have hr0 := hr
  obtain ⟨A, c, rfl, hA⟩ := hr
  rw [intsV_length] at hr0 ⊢
  have HA := Lib.hid hA
  clear hA
  by_cases oa : natOkB a = true
  · by_cases h0 : a.length = 0
    · have HV := Lib.hid (show zerosN a = 0 by unfold zerosN; rw [if_neg (fun h => by have := h.2; omega)])
      have hz : ((a.length : Int) == 0) = true := by simp [h0]
      clear h0
      go_enter Tryz.func112, Tryz.ntmps112
      go_wp2_with fail
      refine (implNatOk_same _ a lo hi _ (by omega) hr0).mono ?_
      rintro e w' ⟨rfl, rfl⟩
      rw [oa]
      go_wp2
      go_ret
      exact ⟨ret_int HV.out.symm, rfl⟩
    · have hpos : 0 < a.length := by omega
      have hz : ((a.length : Int) == 0) = false := by rw [beq_eq_false_iff_ne]; omega
      have HV := Lib.hid (zerosN_zN oa hpos)
      have HD := Lib.hid (natOk_parts oa).1
      have hl50 := (natOk_parts oa).2.1
      have HS := Lib.hid (ZerosR.start oa hpos)
      clear h0
      go_enter Tryz.func112, Tryz.ntmps112
      go_wp2_with fail
      refine (implNatOk_same _ a lo hi _ (by omega) hr0).mono ?_
      rintro e w' ⟨rfl, rfl⟩
      rw [oa]
      go_wp2
      go_loop [3] (fun i => ∃ k : Nat, k < a.length ∧ i = .int .i64 k ∧ Hid (ZerosR a k)) (fun i => a.length - (intOf i).toNat)
      case atStart => exact ⟨0, hpos, rfl, HS⟩
      case round =>
        obtain ⟨k, hk, rfl, HR⟩ := hrel
        obtain ⟨p, rfl, _, _, hca⟩ := HA.out k _ (intsV_at a k hk)
        by_cases hx : a[k] = 0
        · have HN := Lib.hid (HR.out.next hk hx)
          have hk2 := HN.out.lt
          rw [hx] at hca
          clear hx
          go_wp2
          go_round
          case rel => exact ⟨k + 1, hk2, by go_num, HN⟩
          case measure => simp [intOf]; omega
        · have hxb : (a[k] == 0) = false := by rw [beq_eq_false_iff_ne]; exact hx
          have HZ := Lib.hid (HR.out.digits hk HD.out)
          have hd := HD.out.at_ k hk
          have hx0 : 0 < a[k] := by omega
          have hx1 := hd.2
          clear hx hd HR
          generalize a[k] = x at *
          generalize (nval (a.drop (k + 1))).toNat = R at *
          generalize zN (nval a).toNat = Z at *
          go_wp2
          go_loop [4, 5] (fun z m => ∃ (f : Nat) (zz mm : Int), f ≤ 8 ∧ z = .int .i64 zz ∧ m = .int .i64 mm ∧ 0 ≤ zz ∧ zz + f ≤ 458 ∧ 0 < mm ∧ mm ≤ 999999999 ∧ Hid (ZeroD Z zz mm f R)) (fun _ m => (intOf m).toNat)
          case atStart => exact ⟨8, _, _, Nat.le_refl _, rfl, rfl, by omega, by omega, hx0, hx1, HZ⟩
          case round =>
            obtain ⟨f, zz, mm, hf, rfl, rfl, hz0, hz1, hm0, hm1, HM⟩ := hrel
            by_cases hm : mm % 10 = 0
            · obtain ⟨g, rfl, hg1, hg2⟩ := HM.out.next hm0 hm
              have HG := Lib.hid hg2
              have hmb : (mm % 10 == 0) = true := by rw [beq_iff_eq]; exact hm
              clear hm hg2
              go_wp2
              go_round
              case rel => exact ⟨g, zz + 1, mm / 10, by omega, rfl, rfl, by omega, by omega, hg1, by omega, HG⟩
              case measure => simp [intOf]; omega
            · have hmb : (mm % 10 == 0) = false := by rw [beq_eq_false_iff_ne]; exact hm
              have HE := Lib.hid (HM.out.done hm0 hm)
              clear hm
              go_wp2
              go_ret
              exact ⟨ret_int (by rw [HV.out]; exact HE.out.symm), rfl⟩
  · have oa' : natOkB a = false := by simpa using oa
    have HV := Lib.hid (show zerosN a = 0 by unfold zerosN; rw [if_neg (fun h => oa h.1)])
    clear oa
    go_enter Tryz.func112, Tryz.ntmps112
    go_wp2_with fail
    refine (implNatOk_same _ a lo hi _ (by omega) hr0).mono ?_
    rintro e w' ⟨rfl, rfl⟩
    rw [oa']
    go_wp2
    go_ret
    exact ⟨ret_int HV.out.symm, rfl⟩
end Go.Proofs.YtofehcpapdlcnaaGreatDoor

namespace Go.Proofs.YtofehcpapdlcnaaGreatDoor
open Go.RowKit

theorem addN_small {X Y : Nat} (h : ((X + Y : Nat) : Int) < bp 50) : addN (limbs X) (limbs Y) = limbs (X + Y) := by
  have hx : (limbs X).length ≤ 50 := limbs_length_le _ 50 (by omega)
  have hy : (limbs Y).length ≤ 50 := limbs_length_le _ 50 (by omega)
  have hs : (limbs (X + Y)).length ≤ 50 := limbs_length_le _ 50 h
  unfold addN
  rw [if_pos ⟨limbs_okL _ hx, limbs_okL _ hy⟩, limbs_val, limbs_val]
  unfold natRes
  rw [show ((X : Int) + (Y : Int)).toNat = X + Y by omega]
  unfold capL
  rw [if_neg (by omega)]
theorem addN_len50 (a b : List Int) : (addN a b).length ≤ 50 := by
  unfold addN
  split
  · unfold natRes capL
    split
    · simp
    · omega
  · simp
/-- the limbs of a rounded quotient -/
def quoL (neg : Bool) (A D : Nat) (m : Int) : List Int := if A % D ≠ 0 ∧ awayB neg (A / D) (A % D) D m = true then addN (limbs (A / D)) (limbs 1) else limbs (A / D)
theorem quoL_is {neg : Bool} {A D : Nat} {m : Int} (h : ((A / D : Nat) : Int) + 1 < bp 50) : quoL neg A D m = limbs (roundN neg A D m) := by
  unfold quoL roundN
  split
  · exact addN_small (by omega)
  · rw [Nat.add_zero]
theorem quoL_plain {neg : Bool} {A D Q R : Nat} {m : Int} (hq : A / D = Q) (hr : A % D = R) (h : R = 0 ∨ awayB neg Q R D m = false) : quoL neg A D m = limbs Q := by
  unfold quoL
  rw [hq, hr, if_neg (fun e => by rcases h with h | h; exact e.1 h; rw [h] at e; exact absurd e.2 (by decide))]
theorem quoL_more {neg : Bool} {A D Q R : Nat} {m : Int} (hq : A / D = Q) (hr : A % D = R) (h : R ≠ 0) (ha : awayB neg Q R D m = true) : quoL neg A D m = addN (limbs Q) (limbs 1) := by
  unfold quoL
  rw [hq, hr, if_pos ⟨h, ha⟩]
theorem mkS_quo {neg : Bool} {xs : List Int} {sg : Bool} (h : xs.length ≤ 50) (hs : (neg && decide (0 < xs.length)) = sg) : mkS neg xs = (sg, xs) := by
  unfold mkS capL
  rw [if_neg (by omega), hs]
end Go.Proofs.YtofehcpapdlcnaaGreatDoor

namespace Go.Proofs.YtofehcpapdlcnaaGreatDoor
open Go.RowKit

/-- a rounded quotient comes as this signed number -/
theorem tenS_fine (k : Int) : okS (tenS k) = true ∧ (tenS k).2.length ≤ 50 := by
  by_cases h : 0 ≤ k ∧ k ≤ 449
  · have hl := tenN_len k
    have e : tenN k = limbs (10 ^ k.toNat) := by unfold tenN; rw [if_pos h]
    refine ⟨?_, hl⟩
    unfold okS tenS
    show (natOkB (tenN k) && (!false || _)) = true
    rw [e, limbs_okL _ (by rw [← e]; exact hl)]
    rfl
  · have e : tenN k = [] := by unfold tenN; rw [if_neg h]
    unfold tenS
    rw [e]
    decide
theorem mulS_ofZ {x : SI} (h : okS x = true) (k : Int) : mulS x (tenS k) = ofZ (valS x * valS (tenS k)) := by
  unfold mulS
  rw [if_pos ⟨h, (tenS_fine k).1⟩]
theorem impl_ratDec {r : QI} {k m : Int} (h : okQ r = true) (hm : modeB m = true) :
    decD (mkS (mulS r.1 (tenS k)).1 (quoL (mulS r.1 (tenS k)).1 (nval (mulS r.1 (tenS k)).2).toNat (denQ r) m)) k = ratDecD r k m := by
  by_cases hk : 0 ≤ k ∧ k ≤ 30
  · have p := parts_of h
    have t := tenS_ok hk.1 hk.2
    have e := mulS_ofZ p.okn k
    have hlt := scaled_lt h hk.2
    have hP := pt_pos k
    have hpn := pt_nat k
    have hab : (valS r.1 * valS (tenS k)).natAbs = topN r * 10 ^ k.toNat := by
      rw [Int.natAbs_mul, t.2.1, ← hpn, Int.natAbs_natCast, ← (valS_abs r.1 (okS_parts p.okn).1).symm]
      rfl
    have h22 : bp 22 ≤ bp 50 := bp_mono (by omega)
    have f := ofZ_few (z := valS r.1 * valS (tenS k)) (k := 50) (by omega) (by omega)
    have hn : (nval (mulS r.1 (tenS k)).2).toNat = topN r * 10 ^ k.toNat := by
      rw [e, ← valS_abs _ (okS_parts f.1).1, f.2, hab]
    have hs : (mulS r.1 (tenS k)).1 = r.1.1 := by
      rw [e, okS_sign f.1, f.2, okS_sign p.okn, t.2.1, decide_eq_decide]
      constructor
      · intro h1
        rcases (by omega : valS r.1 < 0 ∨ 0 ≤ valS r.1) with h2 | h2
        · exact h2
        · have := Int.mul_nonneg h2 (Int.le_of_lt hP); omega
      · intro h1
        exact Int.mul_neg_of_neg_of_pos h1 hP
    rw [hn, hs]
    have h3 := scaledN_lt h m hk.2
    have h4 : ((topN r * 10 ^ k.toNat / denQ r : Nat) : Int) < bp 22 := by
      have := Nat.div_le_self (topN r * 10 ^ k.toNat) (denQ r)
      omega
    have h5 : bp 22 < bp 23 := bp_step 22
    have h6 : bp 23 ≤ bp 50 := bp_mono (by omega)
    rw [quoL_is (by omega)]
    exact ratDec_is h hk.1 hk.2 hm
  · unfold ratDecD
    rw [if_neg (fun e => hk e.2.1)]
    unfold decD
    rw [if_neg]
    intro ho
    have q := partsD ho
    exact hk ⟨q.lo, q.hi⟩
theorem zeroQ_bad : okQ zeroQ = false := by decide
theorem ratDecD_bad {r : QI} {k m : Int} (h : ¬ okQ r = true) : ratDecD r k m = (zeroD, false) := by
  unfold ratDecD
  rw [if_neg (fun e => h e.1)]
/-! ### another scale, by rounding and comparing -/
theorem rat_cross {d : DI} (hd : okD d = true) : numQ (ratD d) * pt d.2 = numD d * denQ (ratD d) := by
  have b := ten_bd hd
  have v := b.2.2
  have n1 := rat_ne (pt_pos d.2)
  have n2 := rat_ne b.2.1.pos
  unfold ratV at v
  have : (numQ (ratD d) : Rat) * (pt d.2 : Rat) = (numD d : Rat) * ((denQ (ratD d) : Int) : Rat) := by grind
  exact_mod_cast this
theorem num_sign {r : QI} (h : okQ r = true) : (r.1.1 = true → numQ r = -(topN r : Int)) ∧ (r.1.1 = false → numQ r = topN r) := by
  have t := (parts_of h).top
  constructor
  · intro e; rw [t, if_pos e]
  · intro e; rw [t, if_neg (by rw [e]; decide)]
/-- cut off towards zero -/
theorem scaled_cut {d : DI} (hd : okD d = true) {k : Int} : scaledN (ratD d) k 0 = (numD d).natAbs * 10 ^ k.toNat / 10 ^ d.2.toNat := by
  have ok := (ten_bd hd).2.1.ok
  have hD := denQ_pos ok
  have hc := rat_cross hd
  have ht := abs_top ok
  have hp : 0 < 10 ^ d.2.toNat := Nat.pow_pos (by omega)
  have hA : topN (ratD d) * 10 ^ d.2.toNat = (numD d).natAbs * denQ (ratD d) := by
    have := congrArg Int.natAbs hc
    rw [Int.natAbs_mul, Int.natAbs_mul, ← ht, ← pt_nat, Int.natAbs_natCast, Int.natAbs_natCast] at this
    exact this
  have e0 : scaledN (ratD d) k 0 = topN (ratD d) * 10 ^ k.toNat / denQ (ratD d) := by
    unfold scaledN roundN
    rw [if_neg (fun h => absurd (show false = true from h.2) (by decide)), Nat.add_zero]
  rw [e0, ← Nat.mul_div_mul_right _ (denQ (ratD d)) hp]
  have e1 : topN (ratD d) * 10 ^ k.toNat * 10 ^ d.2.toNat = (numD d).natAbs * 10 ^ k.toNat * denQ (ratD d) := by
    rw [Nat.mul_right_comm, hA]
    exact Nat.mul_right_comm ..
  rw [e1, Nat.mul_comm (denQ (ratD d)) (10 ^ d.2.toNat)]
  exact Nat.mul_div_mul_right _ _ hD
theorem neg_num {d : DI} (hd : okD d = true) : ((ratD d).1.1 = true → numD d ≤ 0) ∧ ((ratD d).1.1 = false → 0 ≤ numD d) := by
  have ok := (ten_bd hd).2.1.ok
  have hD : (0 : Int) < denQ (ratD d) := by have := denQ_pos ok; omega
  have hc := rat_cross hd
  have hs := num_sign ok
  have hP := pt_pos d.2
  constructor
  · intro e
    rw [hs.1 e] at hc
    rcases (by omega : 0 < numD d ∨ numD d ≤ 0) with h | h
    · have h1 := Int.mul_pos h hD
      have h2 : -(topN (ratD d) : Int) * pt d.2 ≤ 0 := by
        rw [Int.neg_mul]
        have := Int.mul_nonneg (Int.natCast_nonneg (topN (ratD d))) (Int.le_of_lt hP)
        omega
      omega
    · exact h
  · intro e
    rw [hs.2 e] at hc
    rcases (by omega : numD d < 0 ∨ 0 ≤ numD d) with h | h
    · have h1 := Int.mul_neg_of_neg_of_pos h hD
      have h2 := Int.mul_nonneg (Int.natCast_nonneg (topN (ratD d))) (Int.le_of_lt hP)
      omega
    · exact h
theorem pow_split {j k : Int} (h0 : 0 ≤ j) (h1 : j ≤ k) : 10 ^ k.toNat = 10 ^ j.toNat * 10 ^ (k - j).toNat := by
  rw [← Nat.pow_add]
  congr 1
  omega
/-- the way up -/
theorem scaled_up {d : DI} (hd : okD d = true) {k : Int} (hk : d.2 ≤ k) : scaledZ (ratD d) k 0 = liftD d k := by
  have hp := partsD hd
  have hlo := hp.lo
  have e := scaled_cut hd (k := k)
  have hpp : 0 < 10 ^ d.2.toNat := Nat.pow_pos (by omega)
  rw [pow_split hlo hk, Nat.mul_left_comm, Nat.mul_div_cancel_left _ hpp] at e
  have hn := neg_num hd
  unfold scaledZ
  have hc : (((numD d).natAbs * 10 ^ (k - d.2).toNat : Nat) : Int) = ((numD d).natAbs : Int) * pt (k - d.2) := by rw [Int.natCast_mul, pt_nat]
  rw [e, hc]
  unfold liftD
  cases hs : (ratD d).1.1 with
  | true =>
    have h0 := hn.1 hs
    rw [if_pos rfl, show ((numD d).natAbs : Int) = -(numD d) by omega, Int.neg_mul, Int.neg_neg]
  | false =>
    have h0 := hn.2 hs
    rw [if_neg (by decide), show ((numD d).natAbs : Int) = numD d by omega]
/-- and down -/
theorem scaled_down {d : DI} (hd : okD d = true) {k : Int} (h0 : 0 ≤ k) (hk : k < d.2) :
    ((scaledZ (ratD d) k 0).natAbs : Int) < bp 6 ∧ (numD d % pt (d.2 - k) = 0 → scaledZ (ratD d) k 0 = numD d / pt (d.2 - k)) ∧ (scaledZ (ratD d) k 0 * pt (d.2 - k) = numD d → numD d % pt (d.2 - k) = 0) := by
  have hp := partsD hd
  have e := scaled_cut hd (k := k)
  have hpp : 0 < 10 ^ k.toNat := Nat.pow_pos (by omega)
  have hT := pt_pos (d.2 - k)
  rw [pow_split h0 (Int.le_of_lt hk), Nat.mul_comm, Nat.mul_div_mul_left _ _ hpp] at e
  have hn := neg_num hd
  have hle := Nat.div_le_self (numD d).natAbs (10 ^ (d.2 - k).toNat)
  have hlt := num_lt hp
  have hz : scaledZ (ratD d) k 0 = if (ratD d).1.1 = true then -((((numD d).natAbs / 10 ^ (d.2 - k).toNat : Nat)) : Int) else (((numD d).natAbs / 10 ^ (d.2 - k).toNat : Nat) : Int) := by
    unfold scaledZ
    rw [e]
  have hdiv : (((numD d).natAbs / 10 ^ (d.2 - k).toNat : Nat) : Int) = ((numD d).natAbs : Int) / pt (d.2 - k) := by rw [Int.natCast_ediv, pt_nat]
  refine ⟨by rw [hz]; split <;> omega, fun hm => ?_, fun hm => by rw [← hm]; exact Int.mul_emod_left _ _⟩
  have hdv : pt (d.2 - k) ∣ numD d := Int.dvd_of_emod_eq_zero hm
  rw [hz, hdiv]
  cases hs : (ratD d).1.1 with
  | true =>
    have h1 := hn.1 hs
    rw [if_pos rfl, show ((numD d).natAbs : Int) = -(numD d) by omega, Int.neg_ediv_of_dvd hdv, Int.neg_neg]
  | false =>
    have h1 := hn.2 hs
    rw [if_neg (by decide), show ((numD d).natAbs : Int) = numD d by omega]
theorem mode_zero : modeB 0 = true := by decide
theorem cmpI_zero_iff (x y : Int) : cmpI x y = 0 ↔ x = y := by unfold cmpI; split <;> (try split) <;> omega
/-- DecAt as package impl reckons it -/
theorem at_rat (d : DI) (k : Int) : (if (ratDecD (ratD d) k 0).2 = true ∧ cmpD (ratDecD (ratD d) k 0).1 d = 0 then ((ratDecD (ratD d) k 0).1, true) else (zeroD, false)) = atD d k := by
  by_cases hd : okD d = true
  · by_cases hk : 0 ≤ k ∧ k ≤ 30
    · have ok := (ten_bd hd).2.1.ok
      have hp := partsD hd
      have e : ratDecD (ratD d) k 0 = decZ (scaledZ (ratD d) k 0) k := by unfold ratDecD; rw [if_pos ⟨ok, hk, mode_zero⟩]
      have ea : atD d k = if d.2 ≤ k then decZ (liftD d k) k else if numD d % pt (d.2 - k) = 0 then decZ (numD d / pt (d.2 - k)) k else (zeroD, false) := by unfold atD; rw [if_pos ⟨hd, hk.1, hk.2⟩]
      rw [e]
      by_cases hs : d.2 ≤ k
      · rw [if_pos hs] at ea
        rw [ea, scaled_up hd hs]
        by_cases hz : (decZ (liftD d k) k).2 = true
        · have b := decZ_parts hz
          have y := decZ_yes b.1 b.2.1 b.2.2
          have hc : cmpD (ofZ (liftD d k), k) d = 0 := by
            unfold cmpD
            rw [if_pos ⟨y.2.1, hd⟩, cmpI_zero_iff]
            have et : topD (ofZ (liftD d k), k) d = k := by unfold topD; rw [if_neg (by show ¬ k < d.2; omega)]
            rw [et]
            show numD (ofZ (liftD d k), k) * pt (k - k) = _
            rw [y.2.2, Int.sub_self, pt_zero, Int.mul_one]
          rw [y.1]
          exact if_pos ⟨rfl, hc⟩
        · have ef : decZ (liftD d k) k = (zeroD, false) := by
            unfold decZ at hz ⊢
            split at hz
            · exact absurd rfl hz
            · rename_i hn; rw [if_neg hn]
          rw [ef]
          exact if_neg (fun h => absurd h.1 (by decide))
      · rw [if_neg hs] at ea
        rw [ea]
        clear ea
        have sd := scaled_down hd hk.1 (by omega)
        have y := decZ_yes sd.1 hk.1 hk.2
        have et : topD (ofZ (scaledZ (ratD d) k 0), k) d = d.2 := by unfold topD; rw [if_pos (by show k < d.2; omega)]
        have hc : cmpD (ofZ (scaledZ (ratD d) k 0), k) d = 0 ↔ scaledZ (ratD d) k 0 * pt (d.2 - k) = numD d := by
          unfold cmpD
          rw [if_pos ⟨y.2.1, hd⟩, cmpI_zero_iff, et]
          show numD (ofZ (scaledZ (ratD d) k 0), k) * pt (d.2 - k) = numD d * pt (d.2 - d.2) ↔ _
          rw [y.2.2, Int.sub_self, pt_zero, Int.mul_one]
        by_cases hm : numD d % pt (d.2 - k) = 0
        · have e3 := sd.2.1 hm
          have hc0 := hc.2 (by rw [e3]; exact Int.ediv_mul_cancel (Int.dvd_of_emod_eq_zero hm))
          rw [if_pos hm, ← e3, y.1]
          exact if_pos ⟨rfl, hc0⟩
        · rw [if_neg hm, y.1]
          exact if_neg (fun h => hm (sd.2.2 (hc.1 h.2)))
    · have e : ratDecD (ratD d) k 0 = (zeroD, false) := by unfold ratDecD; rw [if_neg (fun h => hk h.2.1)]
      have a1 : ¬ ((zeroD, false).2 = true ∧ cmpD (zeroD, false).1 d = 0) := fun h => absurd h.1 (by decide)
      rw [e, if_neg a1]
      unfold atD
      rw [if_neg (fun h => hk h.2)]
  · have e : ratDecD (ratD d) k 0 = (zeroD, false) := by rw [rat_bad hd]; exact ratDecD_bad (by rw [zeroQ_bad]; decide)
    have a1 : ¬ ((zeroD, false).2 = true ∧ cmpD (zeroD, false).1 d = 0) := fun h => absurd h.1 (by decide)
    rw [e, if_neg a1]
    unfold atD
    rw [if_neg (fun h => hd h.1)]

/-! ### the smallest scale, by counting zeros -/
theorem ten_split (n : Nat) (h : 0 < n) : ∃ X, n = 10 ^ zN n * X ∧ X % 10 ≠ 0 := by
  induction n using Nat.strongRecOn with
  | _ n ih =>
    by_cases h10 : n % 10 = 0
    · have hm : n = 10 * (n / 10) := by omega
      have hm0 : 0 < n / 10 := by omega
      obtain ⟨X, h1, h2⟩ := ih (n / 10) (by omega) hm0
      refine ⟨X, ?_, h2⟩
      have hz := zN_ten (n / 10) hm0
      rw [← hm] at hz
      rw [hz, Nat.pow_succ, Nat.mul_right_comm, ← h1]
      omega
    · refine ⟨n, ?_, h10⟩
      rw [zN_end n h10, Nat.pow_zero, Nat.one_mul]
theorem ten_dvd {n : Nat} (h : 0 < n) (j : Nat) : 10 ^ j ∣ n ↔ j ≤ zN n := by
  obtain ⟨X, h1, h2⟩ := ten_split n h
  constructor
  · intro hd
    rcases Nat.lt_or_ge (zN n) j with hlt | hge
    · exfalso
      have h3 : 10 ^ (zN n + 1) ∣ n := Nat.dvd_trans (Nat.pow_dvd_pow 10 hlt) hd
      have h4 : 10 ^ zN n * 10 ∣ 10 ^ zN n * X := by rw [← Nat.pow_succ, ← h1]; exact h3
      have h5 := Nat.dvd_of_mul_dvd_mul_left (Nat.pow_pos (by omega)) h4
      omega
    · exact hge
  · intro hj
    rw [h1]
    exact Nat.dvd_trans (Nat.pow_dvd_pow 10 hj) (Nat.dvd_mul_right _ _)
theorem at_iff {d : DI} (hd : okD d = true) {j : Int} (h0 : 0 ≤ j) (h1 : j ≤ d.2) : (atD d j).2 = true ↔ numD d % pt (d.2 - j) = 0 := by
  have p := partsD hd
  have hi := p.hi
  by_cases hj : d.2 ≤ j
  · obtain rfl : j = d.2 := by omega
    rw [at_self hd, Int.sub_self, pt_zero, Int.emod_one]
    simp
  · unfold atD
    rw [if_pos ⟨hd, h0, by omega⟩, if_neg hj]
    have hlt := num_lt p
    constructor
    · intro h
      by_cases hm : numD d % pt (d.2 - j) = 0
      · exact hm
      · rw [if_neg hm] at h
        exact absurd (show false = true from h) (by decide)
    · intro hm
      rw [if_pos hm]
      have sd := scaled_down hd h0 (by omega)
      rw [sd.2.1 hm] at sd
      rw [(decZ_yes sd.1 h0 (by omega)).1]
/-- the scale that package impl asks for -/
def lowK (d : DI) : Int := if cmpS d.1 zeroS = 0 then 0 else if d.2 < zerosN d.1.2 then 0 else d.2 - zerosN d.1.2
theorem low_impl (d : DI) : (atD d (lowK d)).1 = lowD d := by
  by_cases hd : okD d = true
  · obtain ⟨j, j0, j1, j2, j3, j4⟩ := low_is_at hd
    have p := partsD hd
    have hp := okS_parts p.ok
    rw [j3]
    congr 1
    rw [show lowK d = j from ?_]
    have hj := (at_iff hd j0 j1).1 j2
    have hmin : ∀ i, 0 ≤ i → i ≤ d.2 → numD d % pt (d.2 - i) = 0 → j ≤ i := fun i i0 i1 hi => by
      rcases (by omega : i < j ∨ j ≤ i) with h | h
      · have := j4 i i0 h
        rw [(at_iff hd i0 i1).2 hi] at this
        exact absurd this (by decide)
      · exact h
    have hc : cmpS d.1 zeroS = 0 ↔ numD d = 0 := by
      unfold cmpS
      rw [if_pos ⟨p.ok, zeroS_ok⟩, cmpI_zero_iff, zeroS_val]
      exact Iff.rfl
    unfold lowK
    by_cases h0 : numD d = 0
    · rw [if_pos (hc.2 h0)]
      have := hmin 0 (Int.le_refl _) p.lo (by rw [h0]; exact Int.zero_emod _)
      omega
    · rw [if_neg (fun h => h0 (hc.1 h))]
      have hab := valS_abs d.1 hp.1
      have hn0 : 0 < (nval d.1.2).toNat := by
        have : (numD d).natAbs = (nval d.1.2).toNat := hab
        omega
      have hl : 0 < d.1.2.length := by
        rcases Nat.eq_zero_or_pos d.1.2.length with h | h
        · have e : d.1.2 = [] := List.eq_nil_of_length_eq_zero h
          rw [e] at hn0
          exact absurd hn0 (by decide)
        · exact h
      rw [zerosN_zN hp.1 hl]
      have key : ∀ t : Int, 0 ≤ t → (numD d % pt t = 0 ↔ t ≤ zN (nval d.1.2).toNat) := fun t ht => by
        have h1 := ten_dvd hn0 t.toNat
        have h2 : numD d % pt t = 0 ↔ 10 ^ t.toNat ∣ (nval d.1.2).toNat := by
          rw [← pt_nat, ← hab]
          constructor
          · intro h
            exact Int.ofNat_dvd_left.1 (Int.dvd_of_emod_eq_zero h)
          · intro h
            exact Int.emod_eq_zero_of_dvd (Int.ofNat_dvd_left.2 h)
        rw [h2, h1]
        omega
      have k1 := (key (d.2 - j) (by omega)).1 hj
      split
      · rename_i hs
        have := hmin 0 (Int.le_refl _) p.lo ((key _ (by have := p.lo; omega)).2 (by omega))
        omega
      · rename_i hs
        have := hmin (d.2 - zN (nval d.1.2).toNat) (by omega) (by omega) ((key _ (by omega)).2 (by omega))
        omega
  · have e : ∀ k, (atD d k).1 = zeroD := fun k => by unfold atD; rw [if_neg (fun h => hd h.1)]
    rw [e]
    unfold lowD
    rw [low_bad hd]
end Go.Proofs.YtofehcpapdlcnaaGreatDoor

namespace Go.Proofs.YtofehcpapdlcnaaGreatDoor
open Go.RowKit

theorem ownS_open {u c : Value} {x : SI} {w : World} (h : OwnS (.agg #[c, u]) x w) : OwnI u x.2 w := by
  obtain ⟨u', e, hu⟩ := h
  injection e with e
  simp at e
  obtain ⟨_, e2⟩ := e
  subst e2
  exact hu
theorem OwnS.below {w W : World} {v : Value} {x : SI} (h : OwnS v x w) (hb : Below w.heap.size w W) : OwnS v x W := by
  obtain ⟨u, rfl, o⟩ := h
  exact ⟨u, rfl, own_below o hb⟩
theorem postn_eq {z z' : Int} (e : z = z') {w w' : World} {n : Ending} (h : Postn z w n w') : Postn z' w n w' := by rw [← e]; exact h
theorem OwnQ.below {w W : World} {v : Value} {x : QI} (h : OwnQ v x w) (hb : Below w.heap.size w W) : OwnQ v x W := by
  obtain ⟨u, d, rfl, o, p, hap⟩ := h
  exact ⟨u, d, rfl, own_below o hb, own_below p hb, hap⟩
end Go.Proofs.YtofehcpapdlcnaaGreatDoor

namespace Go.Proofs.YtofehcpapdlcnaaGreatDoor
open Go.RowKit

/-- impl's table of the modes -/
def modeCells : Array Value := #[.string ⟨#[100, 111, 119, 110]⟩, .func (.func 235) #[] #[], .string ⟨#[117, 112]⟩, .func (.func 236) #[] #[], .string ⟨#[102, 108, 111, 111, 114]⟩, .func (.func 237) #[] #[], .string ⟨#[99, 101, 105, 108]⟩, .func (.func 238) #[] #[], .string ⟨#[104, 97, 108, 102, 100, 111, 119, 110]⟩, .func (.func 239) #[] #[], .string ⟨#[104, 97, 108, 102, 117, 112]⟩, .func (.func 241) #[] #[], .string ⟨#[104, 97, 108, 102, 101, 118, 101, 110]⟩, .func (.func 242) #[] #[]]
set_option maxHeartbeats 1000000 in
set_option maxRecDepth 100000 in
theorem roundings_any (w : World) : Calls Tryz.prog 214 #[] w fun e w' => ∃ b : Nat, e = .returned (.slice (some ⟨b, 0, none⟩) 7 7) ∧ At [b] (BoxAt b modeCells 172) w' ∧ w.heap.size ≤ b ∧ Below w.heap.size w w' := by
  go_enter Tryz.func214, Tryz.ntmps214
  go_wp2
  go_ret
  exact ⟨_, rfl, box_new _ _ _, Nat.le_refl _, below_al (Below.refl _ _) _⟩
theorem below_set2M {W0 W : World} {g : Nat} {a b : Value} (h : Below W0.heap.size W0 W) (hg : W0.heap.size ≤ g) : Below W0.heap.size W0 ((W.setCell ⟨g, 0, none⟩ a).setCell ⟨g, 1, none⟩ b) := (h.setCell (p := ⟨g, 0, none⟩) hg _).setCell (p := ⟨g, 1, none⟩) hg _
/-- the function that impl's table holds for a mode -/
def fnOf (m : Int) : FuncId := if m = 0 then 235 else if m = 1 then 236 else if m = 2 then 237 else if m = 3 then 238 else if m = 4 then 239 else if m = 5 then 241 else 242
def PostRM (s : ByteArray) (f : Value) (b : Bool) (w : World) (e : Ending) (w' : World) : Prop := e = .returned (.tuple #[.agg #[.string s, f], .bool b]) ∧ Below w.heap.size w w'
set_option maxHeartbeats 4000000 in
set_option maxRecDepth 100000 in
theorem roundingOf_mode (m : Int) (hm : modeB m = true) (w : World) : Calls Tryz.prog 184 #[.int .i64 m] w (PostRM (nameB m) (.func (.func (fnOf m)) #[] #[]) true w) := by
  have bb0 : Below w.heap.size w (w.alloc (.cells #[.string ⟨#[]⟩, .nilFunc] 172)) := below_al (Below.refl _ _) _
  have ko := box_new w #[.string ⟨#[]⟩, .nilFunc] 172
  rcases modeB_cases hm with rfl | rfl | rfl | rfl | rfl | rfl | rfl
  · clear hm
    go_enter Tryz.func184, Tryz.ntmps184
    go_wp2_with fail
    refine (roundings_any _).mono ?_
    rintro e w1 ⟨b, rfl, kb, hb, b1⟩
    have bb1 := Below.next bb0 b1
    replace ko := ko.below b1
    have cb0 : w1.cell? ⟨b, 0, none⟩ = some (.string ⟨#[100, 111, 119, 110]⟩) := kb.here.cell 0 _ rfl
    have cb1 : w1.cell? ⟨b, 1, none⟩ = some (.func (.func 235) #[] #[]) := kb.here.cell 1 _ rfl
    have cz0 := ko.here.cell 0 _ rfl
    have cz1 := ko.here.cell 1 _ rfl
    have fz0 := Lib.frozen_of_heap ko.here 0
    have fz1 := Lib.frozen_of_heap ko.here 1
    go_wp2
    refine bodyPost_ret (v := .tuple #[.agg #[.string ⟨#[100, 111, 119, 110]⟩, .func (.func 235) #[] #[]], .bool true]) (by simp [results, Tryz.results184, go_sem, cz0, cz1]) rfl ?_
    exact ⟨rfl, below_set2M bb1 (Nat.le_refl _)⟩
  · clear hm
    go_enter Tryz.func184, Tryz.ntmps184
    go_wp2_with fail
    refine (roundings_any _).mono ?_
    rintro e w1 ⟨b, rfl, kb, hb, b1⟩
    have bb1 := Below.next bb0 b1
    replace ko := ko.below b1
    have cb0 : w1.cell? ⟨b, 2, none⟩ = some (.string ⟨#[117, 112]⟩) := kb.here.cell 2 _ rfl
    have cb1 : w1.cell? ⟨b, 3, none⟩ = some (.func (.func 236) #[] #[]) := kb.here.cell 3 _ rfl
    have cz0 := ko.here.cell 0 _ rfl
    have cz1 := ko.here.cell 1 _ rfl
    have fz0 := Lib.frozen_of_heap ko.here 0
    have fz1 := Lib.frozen_of_heap ko.here 1
    go_wp2
    refine bodyPost_ret (v := .tuple #[.agg #[.string ⟨#[117, 112]⟩, .func (.func 236) #[] #[]], .bool true]) (by simp [results, Tryz.results184, go_sem, cz0, cz1]) rfl ?_
    exact ⟨rfl, below_set2M bb1 (Nat.le_refl _)⟩
  · clear hm
    go_enter Tryz.func184, Tryz.ntmps184
    go_wp2_with fail
    refine (roundings_any _).mono ?_
    rintro e w1 ⟨b, rfl, kb, hb, b1⟩
    have bb1 := Below.next bb0 b1
    replace ko := ko.below b1
    have cb0 : w1.cell? ⟨b, 4, none⟩ = some (.string ⟨#[102, 108, 111, 111, 114]⟩) := kb.here.cell 4 _ rfl
    have cb1 : w1.cell? ⟨b, 5, none⟩ = some (.func (.func 237) #[] #[]) := kb.here.cell 5 _ rfl
    have cz0 := ko.here.cell 0 _ rfl
    have cz1 := ko.here.cell 1 _ rfl
    have fz0 := Lib.frozen_of_heap ko.here 0
    have fz1 := Lib.frozen_of_heap ko.here 1
    go_wp2
    refine bodyPost_ret (v := .tuple #[.agg #[.string ⟨#[102, 108, 111, 111, 114]⟩, .func (.func 237) #[] #[]], .bool true]) (by simp [results, Tryz.results184, go_sem, cz0, cz1]) rfl ?_
    exact ⟨rfl, below_set2M bb1 (Nat.le_refl _)⟩
  · clear hm
    go_enter Tryz.func184, Tryz.ntmps184
    go_wp2_with fail
    refine (roundings_any _).mono ?_
    rintro e w1 ⟨b, rfl, kb, hb, b1⟩
    have bb1 := Below.next bb0 b1
    replace ko := ko.below b1
    have cb0 : w1.cell? ⟨b, 6, none⟩ = some (.string ⟨#[99, 101, 105, 108]⟩) := kb.here.cell 6 _ rfl
    have cb1 : w1.cell? ⟨b, 7, none⟩ = some (.func (.func 238) #[] #[]) := kb.here.cell 7 _ rfl
    have cz0 := ko.here.cell 0 _ rfl
    have cz1 := ko.here.cell 1 _ rfl
    have fz0 := Lib.frozen_of_heap ko.here 0
    have fz1 := Lib.frozen_of_heap ko.here 1
    go_wp2
    refine bodyPost_ret (v := .tuple #[.agg #[.string ⟨#[99, 101, 105, 108]⟩, .func (.func 238) #[] #[]], .bool true]) (by simp [results, Tryz.results184, go_sem, cz0, cz1]) rfl ?_
    exact ⟨rfl, below_set2M bb1 (Nat.le_refl _)⟩
  · clear hm
    go_enter Tryz.func184, Tryz.ntmps184
    go_wp2_with fail
    refine (roundings_any _).mono ?_
    rintro e w1 ⟨b, rfl, kb, hb, b1⟩
    have bb1 := Below.next bb0 b1
    replace ko := ko.below b1
    have cb0 : w1.cell? ⟨b, 8, none⟩ = some (.string ⟨#[104, 97, 108, 102, 100, 111, 119, 110]⟩) := kb.here.cell 8 _ rfl
    have cb1 : w1.cell? ⟨b, 9, none⟩ = some (.func (.func 239) #[] #[]) := kb.here.cell 9 _ rfl
    have cz0 := ko.here.cell 0 _ rfl
    have cz1 := ko.here.cell 1 _ rfl
    have fz0 := Lib.frozen_of_heap ko.here 0
    have fz1 := Lib.frozen_of_heap ko.here 1
    go_wp2
    refine bodyPost_ret (v := .tuple #[.agg #[.string ⟨#[104, 97, 108, 102, 100, 111, 119, 110]⟩, .func (.func 239) #[] #[]], .bool true]) (by simp [results, Tryz.results184, go_sem, cz0, cz1]) rfl ?_
    exact ⟨rfl, below_set2M bb1 (Nat.le_refl _)⟩
  · clear hm
    go_enter Tryz.func184, Tryz.ntmps184
    go_wp2_with fail
    refine (roundings_any _).mono ?_
    rintro e w1 ⟨b, rfl, kb, hb, b1⟩
    have bb1 := Below.next bb0 b1
    replace ko := ko.below b1
    have cb0 : w1.cell? ⟨b, 10, none⟩ = some (.string ⟨#[104, 97, 108, 102, 117, 112]⟩) := kb.here.cell 10 _ rfl
    have cb1 : w1.cell? ⟨b, 11, none⟩ = some (.func (.func 241) #[] #[]) := kb.here.cell 11 _ rfl
    have cz0 := ko.here.cell 0 _ rfl
    have cz1 := ko.here.cell 1 _ rfl
    have fz0 := Lib.frozen_of_heap ko.here 0
    have fz1 := Lib.frozen_of_heap ko.here 1
    go_wp2
    refine bodyPost_ret (v := .tuple #[.agg #[.string ⟨#[104, 97, 108, 102, 117, 112]⟩, .func (.func 241) #[] #[]], .bool true]) (by simp [results, Tryz.results184, go_sem, cz0, cz1]) rfl ?_
    exact ⟨rfl, below_set2M bb1 (Nat.le_refl _)⟩
  · clear hm
    go_enter Tryz.func184, Tryz.ntmps184
    go_wp2_with fail
    refine (roundings_any _).mono ?_
    rintro e w1 ⟨b, rfl, kb, hb, b1⟩
    have bb1 := Below.next bb0 b1
    replace ko := ko.below b1
    have cb0 : w1.cell? ⟨b, 12, none⟩ = some (.string ⟨#[104, 97, 108, 102, 101, 118, 101, 110]⟩) := kb.here.cell 12 _ rfl
    have cb1 : w1.cell? ⟨b, 13, none⟩ = some (.func (.func 242) #[] #[]) := kb.here.cell 13 _ rfl
    have cz0 := ko.here.cell 0 _ rfl
    have cz1 := ko.here.cell 1 _ rfl
    have fz0 := Lib.frozen_of_heap ko.here 0
    have fz1 := Lib.frozen_of_heap ko.here 1
    go_wp2
    refine bodyPost_ret (v := .tuple #[.agg #[.string ⟨#[104, 97, 108, 102, 101, 118, 101, 110]⟩, .func (.func 242) #[] #[]], .bool true]) (by simp [results, Tryz.results184, go_sem, cz0, cz1]) rfl ?_
    exact ⟨rfl, below_set2M bb1 (Nat.le_refl _)⟩
set_option maxHeartbeats 4000000 in
set_option maxRecDepth 100000 in
theorem roundingOf_none (m : Int) (hm : ¬ modeB m = true) (w : World) : Calls Tryz.prog 184 #[.int .i64 m] w (PostRM ⟨#[]⟩ .nilFunc false w) := by
  have bb0 : Below w.heap.size w (w.alloc (.cells #[.string ⟨#[]⟩, .nilFunc] 172)) := below_al (Below.refl _ _) _
  have ko := box_new w #[.string ⟨#[]⟩, .nilFunc] 172
  have h6 := (modeB_false hm).2
  clear hm
  by_cases h0 : m < 0
  · clear h6
    go_enter Tryz.func184, Tryz.ntmps184
    go_wp2_with fail
    refine (roundings_any _).mono ?_
    rintro e w1 ⟨b, rfl, kb, hb, b1⟩
    have bb1 := Below.next bb0 b1
    replace ko := ko.below b1
    have cz0 := ko.here.cell 0 _ rfl
    have cz1 := ko.here.cell 1 _ rfl
    have fz0 := Lib.frozen_of_heap ko.here 0
    have fz1 := Lib.frozen_of_heap ko.here 1
    go_wp2
    refine bodyPost_ret (v := .tuple #[.agg #[.string ⟨#[]⟩, .nilFunc], .bool false]) (by simp [results, Tryz.results184, go_sem, cz0, cz1]) rfl ?_
    exact ⟨rfl, below_set2M bb1 (Nat.le_refl _)⟩
  · have h7 : ((7 : Nat) : Int) ≤ m := by omega
    clear h6
    go_enter Tryz.func184, Tryz.ntmps184
    go_wp2_with fail
    refine (roundings_any _).mono ?_
    rintro e w1 ⟨b, rfl, kb, hb, b1⟩
    have bb1 := Below.next bb0 b1
    replace ko := ko.below b1
    have cz0 := ko.here.cell 0 _ rfl
    have cz1 := ko.here.cell 1 _ rfl
    have fz0 := Lib.frozen_of_heap ko.here 0
    have fz1 := Lib.frozen_of_heap ko.here 1
    go_wp2
    refine bodyPost_ret (v := .tuple #[.agg #[.string ⟨#[]⟩, .nilFunc], .bool false]) (by simp [results, Tryz.results184, go_sem, cz0, cz1]) rfl ?_
    exact ⟨rfl, below_set2M bb1 (Nat.le_refl _)⟩
end Go.Proofs.YtofehcpapdlcnaaGreatDoor

namespace Go.Proofs.YtofehcpapdlcnaaGreatDoor
open Go.RowKit

theorem OwnI.belowI {v : Value} {xs : List Int} {w w' : World} (h : OwnI v xs w) (hb : Below w.heap.size w w') : OwnI v xs w' := own_below h hb
theorem ownI_eq {v : Value} {xs ys : List Int} {w : World} (h : OwnI v xs w) (e : xs = ys) : OwnI v ys w := e ▸ h
theorem roundVS_eq {x y : SI} {w w' : World} {e : Ending} (hxy : x = y) (h : NewV (fun u => OwnS u x) w e w') : NewV (fun u => OwnS u y) w e w' := hxy ▸ h
theorem chg_set2 {r : Nat} {c0 c1 : Value} {W : World} : Chg [r] W ((W.setCell ⟨r, 0, none⟩ c0).setCell ⟨r, 1, none⟩ c1) := ((Chg.refl _ _).setCell (by simp) _).setCell (by simp) _
theorem newS_at {r B : Nat} {S : List Nat} {c0 c1 : Value} {x : SI} {w W : World} (o : At S (OwnS (.agg #[c0, c1]) x) W) (l : Within S B W.heap.size) (hrB : r < B) (hr : w.heap.size ≤ r) (hW : Below w.heap.size w W) :
    NewV (fun v => OwnS v x) w (.returned (.agg #[c0, c1])) ((W.setCell ⟨r, 0, none⟩ c0).setCell ⟨r, 1, none⟩ c1) := by
  have hc : Chg [r] W ((W.setCell ⟨r, 0, none⟩ c0).setCell ⟨r, 1, none⟩ c1) := chg_set2
  have hz := hc.size
  exact ⟨_, S, rfl, o.chg hc (fun i hi hm => by have := l i hi; simp at hm; omega), fun i hi => by have := l i hi; omega, below_set2 hW hr⟩
theorem even_limbs {k : Nat} (h : (limbs k).length ≤ 50) : evenB (limbs k) = decide (k % 2 = 0) := by
  unfold evenB
  rw [limbs_okL _ h, Bool.true_and]
  have e : (limbs k).headD 0 % 2 = ((k % 2 : Nat) : Int) := by
    by_cases h : k = 0
    · subst h; rw [limbs, dif_pos rfl]; rfl
    · rw [limbs, dif_neg h]
      show ((k % 1000000000 : Nat) : Int) % 2 = _
      omega
  rw [e, decide_eq_decide]
  omega
theorem awayB_4 (neg : Bool) (Q R D : Nat) : awayB neg Q R D 4 = decide (D < 2 * R) := rfl
theorem awayB_5 (neg : Bool) (Q R D : Nat) : awayB neg Q R D 5 = decide (D ≤ 2 * R) := rfl
theorem awayB_6 (neg : Bool) (Q R D : Nat) : awayB neg Q R D 6 = (decide (D < 2 * R) || (decide (2 * R = D) && decide (Q % 2 = 1))) := rfl
/-- the modes that look at the half, by how twice the rest compares with the denominator -/
theorem away_cmp (neg : Bool) (Q R D : Nat) {c : Int} (h : cmpI ((R : Int) + R + 0) D = c) : awayB neg Q R D 4 = decide (0 < c) ∧ awayB neg Q R D 5 = decide (0 ≤ c) ∧ awayB neg Q R D 6 = (decide (0 < c) || (decide (c = 0) && decide (Q % 2 = 1))) := by
  have t := twice_cmp R D
  rw [h] at t
  rw [awayB_4, awayB_5, awayB_6, decide_eq_decide.2 t.1, decide_eq_decide.2 t.2.1, decide_eq_decide.2 t.2.2]
  exact ⟨rfl, rfl, rfl⟩
theorem cmp_three (x y : Int) : cmpI x y = -1 ∨ cmpI x y = 0 ∨ cmpI x y = 1 := by unfold cmpI; split; exact .inl rfl; split; exact .inr (.inr rfl); exact .inr (.inl rfl)
end Go.Proofs.YtofehcpapdlcnaaGreatDoor

namespace Go.Proofs.YtofehcpapdlcnaaGreatDoor
open Go.RowKit

theorem postQb_isD {q : QI × Bool} {X : QI} {b : Bool} (e : q = (X, b)) {w w' : World} {n : Ending} (h : PostQb q.1 q.2 w n w') : PostQb X b w n w' := by rw [e] at h; exact h
theorem newQ_zeroD {w W : World} (hW : Below w.heap.size w W) : NewV (fun v => OwnQ v zeroQ) w (.returned (.agg #[.bool false, .slice none 0 0, .slice none 0 0])) W :=
  ⟨_, [], rfl, ⟨ownQ_zero _, fun _ hg => absurd hg List.not_mem_nil, fun w' _ => ownQ_zero w'⟩, fun _ hg => absurd hg List.not_mem_nil, hW⟩
theorem szS_ten (k : Int) : szS (tenS k) ≤ 1048576 := by have := tenN_len k; show ((tenN k).length : Int) ≤ _; omega
end Go.Proofs.YtofehcpapdlcnaaGreatDoor

namespace Go.Proofs.YtofehcpapdlcnaaGreatDoor
open Go.RowKit

theorem twoRows_eqD {a b c d : List Int} {w w' : World} {e : Ending} (h : TwoRows a b w e w') (h1 : a = c) (h2 : b = d) : TwoRows c d w e w' := by subst h1 h2; exact h
theorem cutN_lens (a : List Int) (k : Int) : (cutN a k).1.length ≤ 50 ∧ (cutN a k).2.length ≤ 50 := by
  unfold cutN
  split
  · unfold divN
    split
    · rename_i h
      have ha := natOk_limbs h.1
      have hl := (natOk_parts h.1).2.1
      have hb := natOk_limbs h.2.1
      have hlb := (natOk_parts h.2.1).2.1
      have na := nval_ok h.1
      have nb := nval_ok h.2.1
      have l1 := nval_lt a (natOk_parts h.1).1
      have l2 := nval_lt (tenN k) (natOk_parts h.2.1).1
      have b1 : bp a.length ≤ bp 50 := bp_mono hl
      have b2 : bp (tenN k).length ≤ bp 50 := bp_mono hlb
      have hpos : 0 < nval (tenN k) := by
        have h1 := ok_ge h.2.1 h.2.2
        have h2 := bp_pos ((tenN k).length - 1)
        omega
      have q0 := Int.ediv_nonneg na (Int.le_of_lt hpos)
      have q1 := Int.ediv_le_self (nval (tenN k)) na
      have r0 := Int.emod_nonneg (nval a) (Int.ne_of_gt hpos)
      have r1 := Int.emod_lt_of_pos (nval a) hpos
      exact ⟨limbs_length_le _ 50 (by omega), limbs_length_le _ 50 (by omega)⟩
    · simp
  · simp
set_option maxHeartbeats 4000000 in
set_option maxRecDepth 100000 in
theorem specDecAt_any (va : Value) (a : DI) (k : Int) (w : World) (hla : a.1.2.length ≤ 1048576) (ha : OwnD va a w) :
    Calls Tryz.prog 99 #[va, .int .i64 k] w (PostDb (atD a k).1 (atD a k).2 w) := by
  have Ha := Lib.hid ha
  obtain ⟨Aa, ca, rfl⟩ := ownD_form ha
  have ODa := Lib.hid (show ∀ W, Below w.heap.size w W → OwnD (.agg #[.bool a.1.1, .slice Aa a.1.2.length ca, .int .i64 a.2]) a W from fun W hb => OwnD.below Ha.out hb)
  have OIa := Lib.hid (show ∀ W, Below w.heap.size w W → OwnI (.slice Aa a.1.2.length ca) a.1.2 W from fun W hb => ownD_open (ODa.out W hb))
  have OSa := Lib.hid (show ∀ W, Below w.heap.size w W → OwnS (.agg #[.bool a.1.1, .slice Aa a.1.2.length ca]) a.1 W from fun W hb => OwnS.mk (OIa.out W hb))
  clear ha
  have bb0 : Below w.heap.size w ((w.alloc (.cells #[.bool a.1.1, .slice Aa a.1.2.length ca, .int .i64 a.2] 40)).alloc (.cells #[.bool false, .slice none 0 0, .int .i64 0] 40)) := below_al (below_al (Below.refl _ _) _) _
  have ka := (box_new w #[.bool a.1.1, .slice Aa a.1.2.length ca, .int .i64 a.2] 40).below (below_al (Below.refl _ _) (.cells #[.bool false, .slice none 0 0, .int .i64 0] 40))
  have ko := (box_new (w.alloc (.cells #[.bool a.1.1, .slice Aa a.1.2.length ca, .int .i64 a.2] 40)) #[.bool false, .slice none 0 0, .int .i64 0] 40)
  rw [show (w.alloc (.cells #[.bool a.1.1, .slice Aa a.1.2.length ca, .int .i64 a.2] 40)).heap.size = w.heap.size + 1 by simp] at ko
  have HKO := Lib.hid (ko.lt (w.heap.size + 1) (by simp))
  obtain ⟨Q, hQ⟩ : ∃ Q, atD a k = Q := ⟨_, rfl⟩
  have EQ := Lib.hid hQ
  rw [hQ]
  clear hQ
  go_enter Tryz.func99, Tryz.ntmps99
  have ka_c0 := ka.here.cell 0 _ rfl
  have ka_c1 := ka.here.cell 1 _ rfl
  have ka_c2 := ka.here.cell 2 _ rfl
  go_wp2_with fail
  clear ka_c0 ka_c1 ka_c2
  refine (specDecOk_any _ a _ hla (ODa.out _ bb0)).mono ?_
  rintro e w1 ⟨rfl, b1⟩
  have bb1 := Below.next bb0 b1
  replace ka := ka.below b1
  replace ko := ko.below b1
  by_cases ok : okD a = true
  · rw [ok]
    have HO := Lib.hid ok
    have qa := partsD ok
    have la := qa.len
    have ta := qa.lo
    have ta2 := qa.hi
    clear ok qa
    by_cases hk : 0 ≤ k ∧ k ≤ 30
    · have hk0 := hk.1
      have hk1 := hk.2
      go_wp2_with fail
      refine (specIn_any k 0 30 true _ (decide_eq_true hk)).mono ?_
      rintro e w_ ⟨rfl, rfl⟩
      clear hk
      by_cases hs : a.2 ≤ k
      · have HV := Lib.hid (show Q = Q from rfl)
        obtain ⟨j, hj⟩ : ∃ j, IntKind.i64.wrap (k - a.2) = j := ⟨_, rfl⟩
        have hj2 : j = k - a.2 := by rw [← hj]; exact IntWalk.i64_in _ (by omega)
        have EV := Lib.hid (show decD (mulS a.1 (tenS j)) k = Q by rw [hj2, ← EQ.out]; exact atD_up HO.out hk0 hk1 hs)
        clear hj2
        have hzS : (mulS a.1 (tenS j)).2.length ≤ 1048576 := by unfold mulS; split; (have := ofZ_len (valS a.1 * valS (tenS j)); omega); decide
        have hten := tenS_len j
        have hla2 : a.1.2.length ≤ 1048576 := by omega
        have hlko := ko.lt (w.heap.size + 1) (by simp)
        have hko := HKO.out
        have ka_c0 := ka.here.cell 0 _ rfl
        have ka_c1 := ka.here.cell 1 _ rfl
        have ka_c2 := ka.here.cell 2 _ rfl
        go_wp2_with fail
        have HC0 := Lib.hid (show Chg [w.heap.size + 1] w1 w1.drew from (Chg.refl _ _).drew1)
        have HCr := Lib.hid (show Chg [w.heap.size + 1] w1 w1 from Chg.refl _ _)
        have KL := Lib.hid (show ∀ W, Chg [w.heap.size + 1] w1 W → W.cell? ⟨w.heap.size, 0, none⟩ = some (.bool a.1.1) ∧ W.cell? ⟨w.heap.size, 1, none⟩ = some (.slice Aa a.1.2.length ca) ∧ W.cell? ⟨w.heap.size, 2, none⟩ = some (.int .i64 a.2) ∧ Hid (Chg [w.heap.size + 1] w1 W) from fun W hc => ⟨(ka.chg hc (fun i hi hm => by simp at hi hm; omega)).here.cell 0 _ rfl, (ka.chg hc (fun i hi hm => by simp at hi hm; omega)).here.cell 1 _ rfl, (ka.chg hc (fun i hi hm => by simp at hi hm; omega)).here.cell 2 _ rfl, Lib.hid hc⟩)
        have BBF := Lib.hid (show ∀ W, Chg [w.heap.size + 1] w1 W → Below w.heap.size w W from fun W hc => below_chg bb1 hc bb1.size (fun i hi => by simp at hi; omega))
        clear ka_c0 ka_c1 ka_c2
        go_region_held3 (fun W => W.cell? ⟨w.heap.size, 0, none⟩ = some (.bool a.1.1) ∧ W.cell? ⟨w.heap.size, 1, none⟩ = some (.slice Aa a.1.2.length ca) ∧ W.cell? ⟨w.heap.size, 2, none⟩ = some (.int .i64 a.2) ∧ Hid (Chg [w.heap.size + 1] w1 W))
          ((refine KL.out _ ?_; (first | exact HC4.out | exact HC3.out | exact HC2.out | exact HCr.out | exact HC0.out | exact HC4.out.drew1 | exact HC3.out.drew1 | exact HC2.out.drew1 | exact HCr.out.drew1 | exact HC0.out.drew1 | exact HC4.out.trans (Chg.of_below (below_al (Below.refl _ _) _)) | exact HC3.out.trans (Chg.of_below (below_al (Below.refl _ _) _)) | exact HC2.out.trans (Chg.of_below (below_al (Below.refl _ _) _)) | exact HCr.out.trans (Chg.of_below (below_al (Below.refl _ _) _)) | exact HC0.out.trans (Chg.of_below (below_al (Below.refl _ _) _)) | exact (Chg.setCell HC4.out (by simp) _) | exact (Chg.setCell (Chg.setCell HC4.out (by simp) _) (by simp) _) | exact (Chg.setCell (Chg.setCell (Chg.setCell HC4.out (by simp) _) (by simp) _) (by simp) _) | fail)))
          (first
            | (go_at_call 75; (have hBB := (‹_ ∧ _ ∧ _ ∧ Hid (Chg [w.heap.size + 1] w1 _)›).2.2.2); (with_reducible refine (l07Ten_any j _).mono ?_); rintro e w2 ⟨ut, St, rfl, ot, lt, b2⟩; have HC2 := Lib.hid (hBB.out.trans (Chg.of_below b2)); (have ko_2 := At.below (by first | exact ko | exact At.below ko (below_al (Below.refl _ _) _) | exact At.below (At.below ko (below_al (Below.refl _ _) _)) (below_al (Below.refl _ _) _) | exact At.move ko (fun _ _ => rfl) (Nat.le_refl _)) b2); obtain ⟨At_, ct, rfl⟩ := ownS_form ot.here; have HBZ2 := Lib.hid hBB.out.size; clear hBB)
            | (go_at_call 98; (have hBB := (‹_ ∧ _ ∧ _ ∧ Hid (Chg [w.heap.size + 1] w1 _)›).2.2.2); (with_reducible refine ((specIntMul_any _ _ a.1 (tenS j) _ hla2 hten (OSa.out _ (BBF.out _ hBB.out)) (At.here (by first | exact ot | exact At.below ot (below_al (Below.refl _ _) _) | exact At.below (At.below ot (below_al (Below.refl _ _) _)) (below_al (Below.refl _ _) _) | exact At.move ot (fun _ _ => rfl) (Nat.le_refl _)))).mono fun _ _ h => NewS.newV h).mono ?_); rintro e w3 ⟨us, Ss, rfl, os, ls, b3⟩; have HC3 := Lib.hid (hBB.out.trans (Chg.of_below b3)); (have ko_3 := At.below (by first | exact ko_2 | exact At.below ko_2 (below_al (Below.refl _ _) _) | exact At.below (At.below ko_2 (below_al (Below.refl _ _) _)) (below_al (Below.refl _ _) _) | exact At.move ko_2 (fun _ _ => rfl) (Nat.le_refl _)) b3); (have ot_3 := At.below (by first | exact ot | exact At.below ot (below_al (Below.refl _ _) _) | exact At.below (At.below ot (below_al (Below.refl _ _) _)) (below_al (Below.refl _ _) _) | exact At.move ot (fun _ _ => rfl) (Nat.le_refl _)) b3); obtain ⟨As, cs, rfl⟩ := ownS_form os.here; have HBZ3 := Lib.hid hBB.out.size; clear hBB)
            | (go_at_call 97; (have hBB := (‹_ ∧ _ ∧ _ ∧ Hid (Chg [w.heap.size + 1] w1 _)›).2.2.2); (with_reducible refine ((l07Dec_any _ (mulS a.1 (tenS j)) k _ _ hzS (by first | exact os | exact At.below os (below_al (Below.refl _ _) _) | exact At.below (At.below os (below_al (Below.refl _ _) _)) (below_al (Below.refl _ _) _) | exact At.move os (fun _ _ => rfl) (Nat.le_refl _))).mono fun _ _ h => keptD_eq EV.out h).mono ?_); rintro e w4 ⟨uf, Sf, rfl, of, sf, b4⟩; have HC4 := Lib.hid (hBB.out.trans (Chg.of_below b4)); (have ko_4 := At.below (by first | exact ko_3 | exact At.below ko_3 (below_al (Below.refl _ _) _) | exact At.below (At.below ko_3 (below_al (Below.refl _ _) _)) (below_al (Below.refl _ _) _) | exact At.move ko_3 (fun _ _ => rfl) (Nat.le_refl _)) b4); (have ot_4 := At.below (by first | exact ot_3 | exact At.below ot_3 (below_al (Below.refl _ _) _) | exact At.below (At.below ot_3 (below_al (Below.refl _ _) _)) (below_al (Below.refl _ _) _) | exact At.move ot_3 (fun _ _ => rfl) (Nat.le_refl _)) b4); (have os_4 := At.below (by first | exact os | exact At.below os (below_al (Below.refl _ _) _) | exact At.below (At.below os (below_al (Below.refl _ _) _)) (below_al (Below.refl _ _) _) | exact At.move os (fun _ _ => rfl) (Nat.le_refl _)) b4); obtain ⟨Af, cf, rfl⟩ := ownD_form of.here; have cz0 := ko_4.here.cell 0 _ rfl; have fz0 := Lib.frozen_of_heap ko_4.here 0; have cz1 := ko_4.here.cell 1 _ rfl; have fz1 := Lib.frozen_of_heap ko_4.here 1; have cz2 := ko_4.here.cell 2 _ rfl; have fz2 := Lib.frozen_of_heap ko_4.here 2; have HBZ4 := Lib.hid hBB.out.size; clear hBB))
        all_goals
          have bb4 := BBF.out _ HC4.out
          replace ka := ka.chg HC4.out (fun i hi hm => by simp at hi hm; omega)
          replace ko := ko_4
          have ot := ot_4
          have os := os_4
          have lf : Within Sf _ _ := fun i hi => ⟨(ls i (sf i hi)).1, of.lt i hi⟩
          have HW := Lib.hid (newDb_at (r := w.heap.size + 1) (b := Q.2) of lf (by have := HBZ3.out; omega) (by omega) bb4)
          clear of ko os ka ot
          go_wp2
          refine bodyPost_ret (v := .tuple #[.agg #[.bool _, .slice Af _ cf, .int .i64 _], .bool _]) (by simp [results, Tryz.results99, go_sem, cz0, cz1, cz2]; exact ⟨⟨rfl, rfl, rfl⟩, rfl⟩) rfl ?_
          exact HW.out
      · have hlt : k < a.2 := by omega
        have hlt2 : ¬ (a.2 ≤ k) := hs
        obtain ⟨j, hj⟩ : ∃ j, IntKind.i64.wrap (a.2 - k) = j := ⟨_, rfl⟩
        have hj2 : j = a.2 - k := by rw [← hj]; exact IntWalk.i64_in _ (by omega)
        have dn := atD_down HO.out hk0 hlt
        rw [← hj2, EQ.out] at dn
        obtain ⟨⟨q1, q2⟩, hq⟩ : ∃ q, cutN a.1.2 j = q := ⟨_, rfl⟩
        have EC := Lib.hid hq
        have hl1 : q1.length ≤ 1048576 ∧ q2.length ≤ 1048576 := by
          have h := cutN_lens a.1.2 j
          rw [hq] at h
          exact ⟨by have := h.1; simp only at this; omega, by have := h.2; simp only at this; omega⟩
        have hl11 := hl1.1
        have hl12 := hl1.2
        rw [hq] at dn
        have HDN := Lib.hid dn
        clear hq dn hs hj2 hl1
        have ka_c0 := ka.here.cell 0 _ rfl
        have ka_c1 := ka.here.cell 1 _ rfl
        have ka_c2 := ka.here.cell 2 _ rfl
        go_wp2_with fail
        clear ka_c0 ka_c1 ka_c2
        refine ((specNatCut_any _ a.1.2 j 0 _ _ (by omega) (Nat.le_refl _) (OIa.out _ bb1).row).mono fun _ _ h => twoRows_eqD h (congrArg Prod.fst EC.out) (congrArg Prod.snd EC.out)).mono ?_
        rintro e w2 ⟨vq, vr_, rfl, oq0, or0, hqr, b2⟩
        obtain ⟨Aq, cq, rfl⟩ := own_len oq0
        obtain ⟨As, cs, rfl⟩ := own_len or0
        have oq := own_at' oq0
        have lq := own_within oq0
        clear oq0 or0 hqr
        have bb2 := Below.next bb1 b2
        replace ka := ka.below b2
        replace ko := ko.below b2
        by_cases hr : 0 < q2.length
        · have HV := Lib.hid (HDN.out.1 hr)
          have hr2 : (0 : Int) < (q2.length : Int) := by omega
          clear oq ka hr
          have cz0 := ko.here.cell 0 _ rfl
          have fz0 := Lib.frozen_of_heap ko.here 0
          have cz1 := ko.here.cell 1 _ rfl
          have fz1 := Lib.frozen_of_heap ko.here 1
          have cz2 := ko.here.cell 2 _ rfl
          have fz2 := Lib.frozen_of_heap ko.here 2
          go_wp2
          refine bodyPost_ret (v := .tuple #[.agg #[.bool false, .slice none 0 0, .int .i64 0], .bool false]) (by simp [results, Tryz.results99, go_sem, cz0, cz1, cz2]) rfl ?_
          rw [HV.out]
          first | exact newDb_zero _ bb2 | exact newDb_zero _ (below_set3 bb2 (by omega))
        · have EV := Lib.hid (HDN.out.2 hr)
          have hr2 : ¬ (0 : Int) < (q2.length : Int) := by omega
          clear hr
          have os := oq.imp (fun _ h => (OwnS.mk (x := (a.1.1, q1)) h : OwnS (.agg #[.bool a.1.1, .slice Aq q1.length cq]) (a.1.1, q1) _))
          clear oq
          have HKL := Lib.hid HKO.out
          have ka_c0 := ka.here.cell 0 _ rfl
          have ka_c1 := ka.here.cell 1 _ rfl
          have ka_c2 := ka.here.cell 2 _ rfl
          go_wp2_with fail
          clear ka_c0 ka_c1 ka_c2
          refine ((l07Dec_any _ (a.1.1, q1) k _ _ hl11 os).mono fun _ _ h => keptD_eq EV.out h).mono ?_
          rintro e w3 ⟨uf, Sf, rfl, of, sf, b3⟩
          obtain ⟨Af, cf, rfl⟩ := ownD_form of.here
          have bb3 := Below.next bb2 b3
          replace ka := ka.below b3
          replace ko := ko.below b3
          replace os := os.below b3
          have lf : Within Sf _ _ := fun i hi => ⟨(lq i (sf i hi)).1, of.lt i hi⟩
          clear os ka
          have HW := Lib.hid (newDb_at (r := w.heap.size + 1) (b := Q.2) of lf (by have := HKO.out; have := b1.size; omega) (by omega) bb3)
          have cz0 := ko.here.cell 0 _ rfl
          have fz0 := Lib.frozen_of_heap ko.here 0
          have cz1 := ko.here.cell 1 _ rfl
          have fz1 := Lib.frozen_of_heap ko.here 1
          have cz2 := ko.here.cell 2 _ rfl
          have fz2 := Lib.frozen_of_heap ko.here 2
          clear of ko
          go_wp2
          refine bodyPost_ret (v := .tuple #[.agg #[.bool _, .slice Af _ cf, .int .i64 _], .bool _]) (by simp [results, Tryz.results99, go_sem, cz0, cz1, cz2]; try exact ⟨⟨rfl, rfl, rfl⟩, rfl⟩) rfl ?_
          exact HW.out
    · skip
      have HV := Lib.hid (show Q = (zeroD, false) by rw [← EQ.out]; unfold atD; rw [if_neg (fun h => hk h.2)])
      go_wp2_with fail
      refine (specIn_any k 0 30 false _ (decide_eq_false hk)).mono ?_
      rintro e w_ ⟨rfl, rfl⟩
      clear hk ka
      have cz0 := ko.here.cell 0 _ rfl
      have fz0 := Lib.frozen_of_heap ko.here 0
      have cz1 := ko.here.cell 1 _ rfl
      have fz1 := Lib.frozen_of_heap ko.here 1
      have cz2 := ko.here.cell 2 _ rfl
      have fz2 := Lib.frozen_of_heap ko.here 2
      go_wp2
      refine bodyPost_ret (v := .tuple #[.agg #[.bool false, .slice none 0 0, .int .i64 0], .bool false]) (by simp [results, Tryz.results99, go_sem, cz0, cz1, cz2]) rfl ?_
      rw [HV.out]
      first | exact newDb_zero _ bb1 | exact newDb_zero _ (below_set3 bb1 (by omega))
  · have ok' : okD a = false := by simpa using ok
    have HV := Lib.hid (show Q = (zeroD, false) by rw [← EQ.out]; unfold atD; rw [if_neg (fun h => ok h.1)])
    rw [ok']
    clear ok ok' ka
    have cz0 := ko.here.cell 0 _ rfl
    have fz0 := Lib.frozen_of_heap ko.here 0
    have cz1 := ko.here.cell 1 _ rfl
    have fz1 := Lib.frozen_of_heap ko.here 1
    have cz2 := ko.here.cell 2 _ rfl
    have fz2 := Lib.frozen_of_heap ko.here 2
    go_wp2
    refine bodyPost_ret (v := .tuple #[.agg #[.bool false, .slice none 0 0, .int .i64 0], .bool false]) (by simp [results, Tryz.results99, go_sem, cz0, cz1, cz2]) rfl ?_
    rw [HV.out]
    first | exact newDb_zero _ bb1 | exact newDb_zero _ (below_set3 bb1 (by omega))
set_option maxHeartbeats 4000000 in
set_option maxRecDepth 100000 in
theorem specDecLow_any (va : Value) (a : DI) (w : World) (hla : a.1.2.length ≤ 1048576) (ha : OwnD va a w) :
    Calls Tryz.prog 56 #[va] w (NewV (fun u => OwnD u (lowD a)) w) := by
  have Ha := Lib.hid ha
  obtain ⟨Aa, ca, rfl⟩ := ownD_form ha
  have ODa := Lib.hid (show ∀ W, Below w.heap.size w W → OwnD (.agg #[.bool a.1.1, .slice Aa a.1.2.length ca, .int .i64 a.2]) a W from fun W hb => OwnD.below Ha.out hb)
  have OIa := Lib.hid (show ∀ W, Below w.heap.size w W → OwnI (.slice Aa a.1.2.length ca) a.1.2 W from fun W hb => ownD_open (ODa.out W hb))
  have OSa := Lib.hid (show ∀ W, Below w.heap.size w W → OwnS (.agg #[.bool a.1.1, .slice Aa a.1.2.length ca]) a.1 W from fun W hb => OwnS.mk (OIa.out W hb))
  clear ha
  have bb0 : Below w.heap.size w ((w.alloc (.cells #[.bool a.1.1, .slice Aa a.1.2.length ca, .int .i64 a.2] 40)).alloc (.cells #[.bool false, .slice none 0 0, .int .i64 0] 40)) := below_al (below_al (Below.refl _ _) _) _
  have ka := (box_new w #[.bool a.1.1, .slice Aa a.1.2.length ca, .int .i64 a.2] 40).below (below_al (Below.refl _ _) (.cells #[.bool false, .slice none 0 0, .int .i64 0] 40))
  have ko := (box_new (w.alloc (.cells #[.bool a.1.1, .slice Aa a.1.2.length ca, .int .i64 a.2] 40)) #[.bool false, .slice none 0 0, .int .i64 0] 40)
  rw [show (w.alloc (.cells #[.bool a.1.1, .slice Aa a.1.2.length ca, .int .i64 a.2] 40)).heap.size = w.heap.size + 1 by simp] at ko
  have HKO := Lib.hid (ko.lt (w.heap.size + 1) (by simp))
  obtain ⟨Q, hQ⟩ : ∃ Q, lowD a = Q := ⟨_, rfl⟩
  have EQ := Lib.hid hQ
  rw [hQ]
  clear hQ
  obtain ⟨W0, hW0⟩ : ∃ W0, W0 = ((w.alloc (.cells #[.bool a.1.1, .slice Aa a.1.2.length ca, .int .i64 a.2] 40)).alloc (.cells #[.bool false, .slice none 0 0, .int .i64 0] 40)) := ⟨_, rfl⟩
  rw [← hW0] at bb0 ka ko HKO
  have HW0 := Lib.hid hW0
  clear hW0
  go_enter Tryz.func56, Tryz.ntmps56
  go_wp2_with fail
  rw [← HW0.out]
  go_loopw [3] (fun i wx => ∃ k : Nat, k ≤ 31 ∧ i = .int .i64 k ∧ Hid (lowFrom a (31 - k) k = Q) ∧ At [w.heap.size] (BoxAt w.heap.size #[.bool a.1.1, .slice Aa a.1.2.length ca, .int .i64 a.2] 40) wx ∧ At [w.heap.size + 1] (BoxAt (w.heap.size + 1) #[.bool false, .slice none 0 0, .int .i64 0] 40) wx ∧ W0.heap.size ≤ wx.heap.size ∧ Below w.heap.size w wx) (fun i _ => 31 - (intOf i).toNat)
  case atStart => exact ⟨0, by omega, rfl, Lib.hid (EQ.out : lowFrom a 31 0 = Q), ka, ko, Nat.le_refl _, bb0⟩
  case round =>
    clear ka ko bb0
    obtain ⟨k, hk, rfl, HM, ka, ko, hzr, bbr⟩ := hrel
    by_cases hlt : k < 31
    · have h30 : (k : Int) ≤ 30 := by omega
      obtain ⟨n, hn⟩ : ∃ n, 31 - k = n + 1 := ⟨30 - k, by omega⟩
      have HK := Lib.hid (ko.lt (w.heap.size + 1) (by simp))
      have zX := szD_len (atD_sz a k)
      have HH := Lib.hid (fun h : (atD a k).2 = true => (show Q = (atD a k).1 by rw [← HM.out, hn]; exact low_hit h))
      have HN := Lib.hid (fun h : (atD a k).2 = false => (show lowFrom a (31 - (k + 1)) ((k + 1 : Nat) : Int) = Q by rw [← HM.out, hn, show 31 - (k + 1) = n by omega, Int.natCast_add]; exact (low_miss h).symm))
      have C := specDecAt_any _ a k _ hla (ODa.out _ bbr)
      generalize (atD a k).1 = X at *
      generalize (atD a k).2 = bx at *
      have HC := Lib.hid C
      clear C
      have ka_c0 := ka.here.cell 0 _ rfl
      have ka_c1 := ka.here.cell 1 _ rfl
      have ka_c2 := ka.here.cell 2 _ rfl
      go_wp2_with fail
      clear ka_c0 ka_c1 ka_c2
      refine (HC.out).mono ?_
      rintro e w1 ⟨ux, Sx, rfl, ox, lx, b1⟩
      obtain ⟨Ax, cx, rfl⟩ := ownD_form ox.here
      have bb1 := Below.next bbr b1
      replace ka := ka.below b1
      replace ko := ko.below b1
      have kx := box_new (w1) #[.bool X.1.1, .slice Ax X.1.2.length cx, .int .i64 X.2] 40
      have alx := below_al (Below.refl (w1).heap.size (w1)) (.cells #[.bool X.1.1, .slice Ax X.1.2.length cx, .int .i64 X.2] 40)
      have bbx := Below.next bb1 alx
      replace ka := ka.below alx
      replace ko := ko.below alx
      replace ox := ox.below alx
      have hz1 := b1.size
      have hzx := alx.size
      cases bx with
      | true =>
        have HV := Lib.hid (HH.out rfl)
        have HW := Lib.hid (newV_chg (φ := fun v => OwnD v X) (T := [w.heap.size + 1]) ox (fun i hi hm => by have := lx i hi; have := HK.out; simp at hm; omega) (fun i hi => by simp at hi; omega) (fun i hi => by have := lx i hi; have := HK.out; omega) bbx)
        have kx_c0 := kx.here.cell 0 _ rfl
        have kx_c1 := kx.here.cell 1 _ rfl
        have kx_c2 := kx.here.cell 2 _ rfl
        have cz0 := ko.here.cell 0 _ rfl
        have fz0 := Lib.frozen_of_heap ko.here 0
        have cz1 := ko.here.cell 1 _ rfl
        have fz1 := Lib.frozen_of_heap ko.here 1
        have cz2 := ko.here.cell 2 _ rfl
        have fz2 := Lib.frozen_of_heap ko.here 2
        clear ox kx ko ka
        go_wp2
        refine bodyPost_ret (v := .agg #[.bool _, .slice Ax _ cx, .int .i64 _]) (by simp [results, Tryz.results56, go_sem, cz0, cz1, cz2]; try exact ⟨rfl, rfl, rfl⟩) rfl ?_
        rw [HV.out]
        refine HW.out _ ?_
        repeat (first | exact Chg.refl _ _ | refine Chg.setCell ?_ (by simp) _)
      | false =>
        have HV := Lib.hid (HN.out rfl)
        clear ox kx
        go_wp2
        go_roundw
        case rel => exact ⟨k + 1, by omega, by go_num, HV, ka, ko, by omega, bbx⟩
        case measure => simp [intOf]; omega
    · obtain rfl : k = 31 := by omega
      have HV := Lib.hid (show Q = zeroD from HM.out.symm)
      have cz0 := ko.here.cell 0 _ rfl
      have fz0 := Lib.frozen_of_heap ko.here 0
      have cz1 := ko.here.cell 1 _ rfl
      have fz1 := Lib.frozen_of_heap ko.here 1
      have cz2 := ko.here.cell 2 _ rfl
      have fz2 := Lib.frozen_of_heap ko.here 2
      clear ka ko
      go_wp2
      refine bodyPost_ret (v := .agg #[.bool false, .slice none 0 0, .int .i64 0]) (by simp [results, Tryz.results56, go_sem, cz0, cz1, cz2]) rfl ?_
      rw [HV.out]
      first | exact newD_zero bbr | exact newD_zero (below_set3 bbr (by omega))
end Go.Proofs.YtofehcpapdlcnaaGreatDoor

namespace Go.Proofs.YtofehcpapdlcnaaGreatDoor
open Go.RowKit

set_option maxHeartbeats 1000000 in
set_option maxRecDepth 100000 in
theorem implDecOk_any (vd : Value) (d : DI) (w : World) (hl : d.1.2.length ≤ 1048576) (hd : OwnD vd d w) :
    Calls Tryz.prog 102 #[vd] w (Postb (okD d) w) := by
  have Hd := Lib.hid hd
  obtain ⟨Ad, cd, rfl⟩ := ownD_form hd
  have ODd := Lib.hid (show ∀ W, Below w.heap.size w W → OwnD (.agg #[.bool d.1.1, .slice Ad d.1.2.length cd, .int .i64 d.2]) d W from fun W hb => OwnD.below Hd.out hb)
  have OId := Lib.hid (show ∀ W, Below w.heap.size w W → OwnI (.slice Ad d.1.2.length cd) d.1.2 W from fun W hb => ownD_open (ODd.out W hb))
  have OSd := Lib.hid (show ∀ W, Below w.heap.size w W → OwnS (.agg #[.bool d.1.1, .slice Ad d.1.2.length cd]) d.1 W from fun W hb => OwnS.mk (OId.out W hb))
  clear hd
  have bb0 : Below w.heap.size w (w.alloc (.cells #[.bool d.1.1, .slice Ad d.1.2.length cd, .int .i64 d.2] 40)) := below_al (Below.refl _ _) _
  have kd := (box_new w #[.bool d.1.1, .slice Ad d.1.2.length cd, .int .i64 d.2] 40)
  go_enter Tryz.func102, Tryz.ntmps102
  have kd_c0 := kd.here.cell 0 _ rfl
  have kd_c1 := kd.here.cell 1 _ rfl
  have kd_c2 := kd.here.cell 2 _ rfl
  go_wp2_with fail
  clear kd_c0 kd_c1 kd_c2
  refine (implIntOk_any _ d.1 _ hl (OwnS.rd (OSd.out _ bb0))).mono ?_
  rintro e w1 ⟨rfl, b1⟩
  have bb1 := Below.next bb0 b1
  replace kd := kd.below b1
  by_cases ok1 : okS d.1 = true
  · rw [ok1]
    have HO1 := Lib.hid ok1
    clear ok1
    by_cases hs : d.1.2.length ≤ 6
    · have HV0 := Lib.hid (show okD d = decide (0 ≤ d.2 ∧ d.2 ≤ 30) by unfold okD; rw [HO1.out, decide_eq_true hs]; rfl)
      have hs6 : (d.1.2.length : Int) ≤ 6 := by omega
      have hs7 : ¬ (6 : Int) < (d.1.2.length : Int) := by omega
      clear hs
      have kd_c0 := kd.here.cell 0 _ rfl
      have kd_c1 := kd.here.cell 1 _ rfl
      have kd_c2 := kd.here.cell 2 _ rfl
      by_cases h0 : 0 ≤ d.2
      · have h0n : ¬ d.2 < 0 := by omega
        have HV := Lib.hid (show okD d = decide (d.2 ≤ 30) by rw [HV0.out, decide_eq_decide]; exact ⟨fun h => h.2, fun h => ⟨h0, h⟩⟩)
        go_wp2
        go_ret
        exact ⟨ret_bool HV.out.symm, bb1⟩
      · have h0n : d.2 < 0 := by omega
        have HV := Lib.hid (show okD d = false by rw [HV0.out]; exact decide_eq_false (fun h => h0 h.1))
        go_wp2
        go_ret
        exact ⟨ret_bool HV.out.symm, bb1⟩
    · have HV := Lib.hid (show okD d = false by unfold okD; rw [decide_eq_false hs, Bool.false_and, Bool.and_false])
      have hs6 : ¬ (d.1.2.length : Int) ≤ 6 := by omega
      have hs7 : (6 : Int) < (d.1.2.length : Int) := by omega
      clear hs
      have kd_c0 := kd.here.cell 0 _ rfl
      have kd_c1 := kd.here.cell 1 _ rfl
      have kd_c2 := kd.here.cell 2 _ rfl
      go_wp2
      go_ret
      exact ⟨ret_bool HV.out.symm, bb1⟩
  · have ok1' : okS d.1 = false := by simpa using ok1
    have HV := Lib.hid (show okD d = false by unfold okD; rw [ok1']; rfl)
    rw [ok1']
    clear ok1 ok1'
    go_wp2
    go_ret
    exact ⟨ret_bool HV.out.symm, bb1⟩
end Go.Proofs.YtofehcpapdlcnaaGreatDoor

namespace Go.Proofs.YtofehcpapdlcnaaGreatDoor
open Go.RowKit

/-- an integer under construction: its limbs lie at the head of its block, its sign behind them -/
@[reducible] def intK (n : Bool) : NatK := ⟨[.bool n], 104, by decide⟩
theorem NatX.below {K : NatK} {B b : Nat} {xs : List Int} {w w' : World} (h : NatX K B b xs w) (hb : Below w.heap.size w w') : NatX K B b xs w' := by
  have hlt := h.lt
  obtain ⟨hB, v, hk, ho, hne⟩ := h
  exact ⟨hB, v, (hb.block b hlt).trans hk, own_below ho hb, hne⟩
/-- a new signed number; its limbs lie at B or behind it -/
def NewSB (B : Nat) (x : SI) (w : World) (e : Ending) (w' : World) : Prop := ∃ u, e = .returned (.agg #[.bool x.1, u]) ∧ w'.ownsRow B 3 1 u x.2.length (intsV x.2) ∧ Below w.heap.size w w'
set_option maxHeartbeats 1000000 in
set_option maxRecDepth 100000 in
theorem signed_any (n : Bool) (B b : Nat) (xs : List Int) (w : World) (hl : xs.length ≤ 1048576) (h : NatX (intK n) B b xs w) :
    Calls Tryz.prog 107 #[.pointer (some ⟨b, 0, none⟩)] w (NewSB B (mkS n xs) w) := by
  have hcl : (capL xs).length ≤ 50 := by
    unfold capL
    split
    · simp
    · omega
  have HR := Lib.hid (show mkS n xs = (n && decide (0 < (capL xs).length), capL xs) from rfl)
  have hbb := below_al (Below.refl w.heap.size w) (.cells #[.bool false, .slice none 0 0] 31)
  have kr := box_new w #[.bool false, .slice none 0 0] 31
  have hx : NatX (intK n) B b xs (w.alloc (.cells #[.bool false, .slice none 0 0] 31)) := h.below hbb
  obtain ⟨W0, hW0⟩ : ∃ W0, W0 = w.alloc (.cells #[.bool false, .slice none 0 0] 31) := ⟨_, rfl⟩
  rw [← hW0] at hx hbb kr
  have HW := Lib.hid hW0
  clear hW0
  have cn : W0.cell? ⟨b, 1, none⟩ = some (.bool n) := by
    obtain ⟨_, v, hb, _⟩ := hx
    exact NatX.cell1 hb 0 rfl
  have cz0 := kr.here.cell 0 _ rfl
  have cz1 := kr.here.cell 1 _ rfl
  have fz0 := Lib.frozen_of_heap kr.here 0
  have fz1 := Lib.frozen_of_heap kr.here 1
  have HK := Lib.hid kr
  clear kr h
  cases n
  all_goals
    go_enter Tryz.func107, Tryz.ntmps107
    go_wp2_with fail
    rw [← HW.out]
    refine (natResult_any B b xs _ hl hx).mono ?_
    rintro e w1 ⟨rfl, v1, rfl, o1⟩
    obtain ⟨A1, c1, rfl⟩ := own_len o1
    have HR2 := HR.out
    generalize capL xs = ys at *
    have HO := Lib.hid o1
    have HRR := Lib.hid HR2
    clear o1 hx HR2 HR
    go_wp2
    refine bodyPost_ret (v := .agg #[.bool _, .slice A1 ys.length c1]) (by simp [results, Tryz.results107, go_sem, cz0, cz1]; rfl) rfl ?_
    rw [HRR.out]
    have hne := Lib.ownBlock_ne HO.out HK.out.here (by decide)
    refine ⟨.slice A1 ys.length c1, ?_, own_stays HO.out fun i hi => ?_, below_set2 hbb (Nat.le_refl _)⟩
    · first | rfl | simp
    · have : i ≠ w.heap.size := fun e => hne (by rw [hi, e])
      exact (Below.heap_setCell _ _ _ _ this).trans (Below.heap_setCell _ _ _ _ this)

end Go.Proofs.YtofehcpapdlcnaaGreatDoor

namespace Go.Proofs.YtofehcpapdlcnaaGreatDoor
open Go.RowKit

theorem capL_short {xs : List Int} (h : xs.length ≤ 50) : capL xs = xs := by unfold capL; rw [if_neg (by omega)]
theorem capL_res (b : Bool) (n : Int) : mkS b (natRes n) = mkS b (limbs n.toNat) := by
  have e : capL (natRes n) = capL (limbs n.toNat) := by
    unfold natRes
    by_cases h : (limbs n.toNat).length ≤ 50
    · rw [capL_short h, capL_short h]
    · rw [show capL (limbs n.toNat) = [] by unfold capL; rw [if_pos (by omega)]]; rfl
  unfold mkS
  rw [e]
theorem natRes_short (n : Int) : (natRes n).length ≤ 50 := by
  unfold natRes capL
  split
  · simp
  · omega
theorem mulN_short (a b : List Int) : (mulN a b).length ≤ 50 := by unfold mulN; split; exact natRes_short _; simp
theorem mulS_mk {x y : SI} (okx : okS x = true) (oky : okS y = true) : mkS (x.1 != y.1) (mulN x.2 y.2) = mulS x y := by
  have px := okS_parts okx
  have py := okS_parts oky
  have h0x := nval_ok px.1
  have h0y := nval_ok py.1
  have h0 := Int.mul_nonneg h0x h0y
  unfold mulS
  rw [if_pos ⟨okx, oky⟩, mulN_ok px.1 py.1, capL_res, mkS_limbs]
  congr 1
  unfold valS
  rw [Int.toNat_of_nonneg h0]
  cases x.1 <;> cases y.1 <;> simp [Int.neg_mul, Int.mul_neg]
/-- an integer laid early into its block, which was zero -/
theorem NatX.early {n : Bool} {g : Nat} {u c0 c1 : Value} {xs : List Int} {W : World} {B0 B : Nat} (hb : BoxAt g #[c0, c1] 104 W) (o : W.ownsRow B 3 1 u xs.length (intsV xs)) (hB : B0 ≤ B) (hg : B0 ≤ g) :
    NatX (intK n) B0 g xs ((W.setCell ⟨g, 0, none⟩ u).setCell ⟨g, 1, none⟩ (.bool n)) := by
  have hne := Lib.ownBlock_ne o hb (by decide)
  have hb' : W.heap[g]? = some (.cells #[c0, c1] 104 (0, 0)) := hb
  refine ⟨hg, u, by simp [World.setCell, Array.getElem?_modify, hb'], own_low (own_stays o fun i hi => ?_) hB, hne⟩
  have : i ≠ g := fun e => hne (by rw [hi, e])
  exact (Below.heap_setCell _ _ _ _ this).trans (Below.heap_setCell _ _ _ _ this)
theorem NatX.late {n : Bool} {u : Value} {xs : List Int} {W : World} {B0 B : Nat} (o : W.ownsRow B 3 1 u xs.length (intsV xs)) (hB : B0 ≤ B) (hW : B0 ≤ W.heap.size) : NatX (intK n) B0 W.heap.size xs (W.alloc (.cells #[u, .bool n] 104)) :=
  NatX.new (K := intK n) hW (own_low o hB)

set_option maxHeartbeats 4000000 in
set_option maxRecDepth 100000 in
theorem implIntMul_any (vx vy : Value) (x y : SI) (w : World) (hlx : x.2.length ≤ 1048576) (hly : y.2.length ≤ 1048576) (hx : OwnS vx x w) (hy : OwnS vy y w) :
    Calls Tryz.prog 106 #[vx, vy] w (NewS (mulS x y) w) := by
  obtain ⟨ux, rfl, hox⟩ := hx
  obtain ⟨uy, rfl, hoy⟩ := hy
  obtain ⟨Ax, cx, rfl⟩ := own_len hox
  obtain ⟨Ay, cy, rfl⟩ := own_len hoy
  obtain ⟨W0, hW0⟩ : ∃ W0, W0 = ((w.alloc (.cells #[.bool x.1, .slice Ax x.2.length cx] 31)).alloc (.cells #[.bool y.1, .slice Ay y.2.length cy] 31)).alloc (.cells #[.bool false, .slice none 0 0] 31) := ⟨_, rfl⟩
  have hbb : Below w.heap.size w W0 := by rw [hW0]; exact below_al (below_al (below_al (Below.refl _ _) _) _) _
  have h3 := alloc3 w (.cells #[.bool x.1, .slice Ax x.2.length cx] 31) (.cells #[.bool y.1, .slice Ay y.2.length cy] 31) (.cells #[.bool false, .slice none 0 0] 31)
  rw [← hW0] at h3
  have kx : At [w.heap.size] (BoxAt w.heap.size #[.bool x.1, .slice Ax x.2.length cx] 31) W0 := box_at h3.1
  have ky : At [w.heap.size + 1] (BoxAt (w.heap.size + 1) #[.bool y.1, .slice Ay y.2.length cy] 31) W0 := box_at h3.2.1
  have kr : At [w.heap.size + 1 + 1] (BoxAt (w.heap.size + 1 + 1) #[.bool false, .slice none 0 0] 31) W0 := box_at h3.2.2.1
  have ox := own_below hox hbb
  have oy := own_below hoy hbb
  have rdx := (OwnS.mk (x := x) (ownI_of ox)).rd
  have HW := Lib.hid hW0
  have cx0 := kx.here.cell 0 _ rfl
  have cx1 := kx.here.cell 1 _ rfl
  clear h3 hox hoy hW0
  by_cases okx : okS x = true
  · go_enter Tryz.func106, Tryz.ntmps106
    go_wp2_with fail
    rw [← HW.out]
    refine (implIntOk_any _ x _ hlx rdx).mono ?_
    rintro e w1 ⟨rfl, b1⟩
    rw [okx]
    have bb1 := Below.next hbb b1
    replace kx := kx.below b1
    replace ky := ky.below b1
    replace kr := kr.below b1
    replace ox := own_below ox b1
    replace oy := own_below oy b1
    have cy0 := ky.here.cell 0 _ rfl
    have cy1 := ky.here.cell 1 _ rfl
    clear rdx cx0 cx1
    go_wp2_with fail
    refine (implIntOk_any _ y w1 hly (OwnS.mk (x := y) (ownI_of oy)).rd).mono ?_
    rintro e w2 ⟨rfl, b2⟩
    have bb2 := Below.next bb1 b2
    replace kx := kx.below b2
    replace ky := ky.below b2
    replace kr := kr.below b2
    replace ox := own_below ox b2
    replace oy := own_below oy b2
    clear cy0 cy1
    by_cases oky : okS y = true
    · rw [oky]
      have HV := Lib.hid (mulS_mk okx oky)
      have cx0 := kx.here.cell 0 _ rfl
      have cx1 := kx.here.cell 1 _ rfl
      have cy0 := ky.here.cell 0 _ rfl
      have cy1 := ky.here.cell 1 _ rfl
      have HOX := Lib.hid (show ∀ W, Below w2.heap.size w2 W → Row W 0 W.heap.size (.slice Ax x.2.length cx) (intsV x.2) from fun W hb => (ownI_of (own_below ox hb)).row)
      have HOY := Lib.hid (show ∀ W, Below w2.heap.size w2 W → Row W 0 W.heap.size (.slice Ay y.2.length cy) (intsV y.2) from fun W hb => (ownI_of (own_below oy hb)).row)
      have HKR := Lib.hid kr
      have hlt2 : w.heap.size + 1 + 1 < w2.heap.size := kr.lt _ (by simp)
      clear okx oky ox oy kr
      have HKX := Lib.hid kx
      have HKY := Lib.hid ky
      have HMB := Lib.hid (Lib.hid (show mkS (x.1 != y.1) (mulN x.2 y.2) = mulS x y from HV.out))
      have hml : (mulN x.2 y.2).length ≤ 50 := mulN_short x.2 y.2
      clear kx ky b1 b2 HV
      obtain ⟨n, hn, hm⟩ : ∃ n, (x.1 != y.1) = n ∧ (x.1 == y.1) = !n := ⟨_, rfl, by cases x.1 <;> cases y.1 <;> rfl⟩
      have HN := Lib.hid hn
      cases n
      all_goals
        first | rw [Bool.not_false] at hm | rw [Bool.not_true] at hm
        go_upto_region 3 with fail
        go_cut [5] (fun s wx => ∃ b, s = .pointer (some ⟨b, 0, none⟩) ∧ Hid (NatX (intK (x.1 != y.1)) w2.heap.size b (mulN x.2 y.2) wx) ∧ Below w2.heap.size w2 wx)
        case first =>
          have HB0 := Lib.hid (show Below w2.heap.size w2 w2.drew from (Below.refl _ _).drew)
          have KL := Lib.hid (show ∀ W, Below w2.heap.size w2 W → W.cell? ⟨w.heap.size, 0, none⟩ = some (.bool x.1) ∧ W.cell? ⟨w.heap.size, 1, none⟩ = some (.slice Ax x.2.length cx) ∧ W.cell? ⟨w.heap.size + 1, 0, none⟩ = some (.bool y.1) ∧ W.cell? ⟨w.heap.size + 1, 1, none⟩ = some (.slice Ay y.2.length cy) ∧ Hid (Below w2.heap.size w2 W) from
            fun W hb => ⟨(HKX.out.below hb).here.cell 0 _ rfl, (HKX.out.below hb).here.cell 1 _ rfl, (HKY.out.below hb).here.cell 0 _ rfl, (HKY.out.below hb).here.cell 1 _ rfl, Lib.hid hb⟩)
          clear cx0 cx1 cy0 cy1
          go_region_held3 (fun W => W.cell? ⟨w.heap.size, 0, none⟩ = some (.bool x.1) ∧ W.cell? ⟨w.heap.size, 1, none⟩ = some (.slice Ax x.2.length cx) ∧ W.cell? ⟨w.heap.size + 1, 0, none⟩ = some (.bool y.1) ∧ W.cell? ⟨w.heap.size + 1, 1, none⟩ = some (.slice Ay y.2.length cy) ∧ Hid (Below w2.heap.size w2 W))
            ((refine KL.out _ ?_; (first | exact HBf.out | exact HB0.out | exact below_al HBf.out _ | exact below_al HB0.out _ | exact below_set2 HBf.out HB0.out.size | fail)))
            (first
              | (go_at_call 135; (have hBB := (‹_ ∧ _ ∧ _ ∧ _ ∧ Hid (Below w2.heap.size w2 _)›).2.2.2.2); (with_reducible refine (implNatMul_any _ _ x.2 y.2 0 _ 0 _ _ hlx hly (Nat.le_refl _) (Nat.le_refl _) (HOX.out _ hBB.out) (HOY.out _ hBB.out)).mono ?_); rintro e wf ⟨uf, rfl, of, bf⟩; have HBf := Lib.hid (Below.next hBB.out bf); have HBS := Lib.hid hBB.out.size; (try have hbxf : At [w2.heap.size] (BoxAt w2.heap.size #[.slice none 0 0, .bool false] 104) wf := At.below (box_new w2.drew _ _) bf); obtain ⟨Af, cf, rfl⟩ := own_len of; (try (have cz0 := hbxf.here.cell 0 _ rfl; have cz1 := hbxf.here.cell 1 _ rfl; have fz0 := Lib.frozen_of_heap hbxf.here 0; have fz1 := Lib.frozen_of_heap hbxf.here 1)); clear hBB))
          all_goals (go_wp2_with fail; go_meet; first | exact ⟨_, rfl, Lib.hid (by rw [HN.out]; exact NatX.late of HBS.out HBf.out.size), below_al HBf.out _⟩ | exact ⟨_, rfl, Lib.hid (by rw [HN.out]; exact NatX.early hbxf.here of HBS.out (Nat.le_refl _)), below_set2 HBf.out (Nat.le_refl _)⟩)
        rename World => w3
        obtain ⟨b, rfl, HX, b3⟩ := hcut
        have bb3 := Below.next bb2 b3
        have kr3 := HKR.out.below b3
        clear cx0 cx1 cy0 cy1
        go_wp2_with fail
        refine (signed_any _ _ b _ _ (by omega) HX.out).mono ?_
        rw [HMB.out.out]
        rintro e w4 ⟨u4, rfl, o4, b4⟩
        generalize mulS x y = z at *
        obtain ⟨A4, c4, rfl⟩ := own_len o4
        have bb4 := Below.next bb3 b4
        have kr4 := kr3.below b4
        have cz0 := kr4.here.cell 0 _ rfl
        have cz1 := kr4.here.cell 1 _ rfl
        have fz0 := Lib.frozen_of_heap kr4.here 0
        have fz1 := Lib.frozen_of_heap kr4.here 1
        have HO := Lib.hid o4
        have HK := Lib.hid kr4
        clear o4 kr3 kr4 HX HMB
        go_wp2
        refine bodyPost_ret (v := .agg #[.bool _, .slice A4 _ c4]) (by simp [results, Tryz.results106, go_sem, cz0, cz1]; exact ⟨rfl, rfl⟩) rfl ?_
        exact newS_ret HK.out.here HO.out bb2.size (by omega) bb4
    · have oky' : okS y = false := by simpa using oky
      have HV := Lib.hid (show mulS x y = zeroS by unfold mulS; rw [if_neg (fun h => oky h.2)])
      rw [oky']
      have cz0 := kr.here.cell 0 _ rfl
      have cz1 := kr.here.cell 1 _ rfl
      have fz0 := Lib.frozen_of_heap kr.here 0
      have fz1 := Lib.frozen_of_heap kr.here 1
      clear oky kx ky kr ox oy
      go_wp2
      refine bodyPost_ret (v := .agg #[.bool false, .slice none 0 0]) (by simp [results, Tryz.results106, go_sem, cz0, cz1]) rfl ?_
      rw [HV.out]
      exact newS_zero (below_set2 bb2 (by omega))
  · have okx' : okS x = false := by simpa using okx
    have HV := Lib.hid (show mulS x y = zeroS by unfold mulS; rw [if_neg (fun h => okx h.1)])
    clear okx
    go_enter Tryz.func106, Tryz.ntmps106
    go_wp2_with fail
    rw [← HW.out]
    refine (implIntOk_any _ x _ hlx rdx).mono ?_
    rintro e w1 ⟨rfl, b1⟩
    rw [okx']
    have bb1 := Below.next hbb b1
    replace kr := kr.below b1
    have cz0 := kr.here.cell 0 _ rfl
    have cz1 := kr.here.cell 1 _ rfl
    have fz0 := Lib.frozen_of_heap kr.here 0
    have fz1 := Lib.frozen_of_heap kr.here 1
    clear kx ky kr rdx ox oy cx0 cx1
    go_wp2
    refine bodyPost_ret (v := .agg #[.bool false, .slice none 0 0]) (by simp [results, Tryz.results106, go_sem, cz0, cz1]) rfl ?_
    rw [HV.out]
    exact newS_zero (below_set2 bb1 (by omega))
end Go.Proofs.YtofehcpapdlcnaaGreatDoor

namespace Go.Proofs.YtofehcpapdlcnaaGreatDoor
open Go.RowKit

theorem At.belowB {S : List Nat} {φ : World → Prop} {w w' : World} {B : Nat} (h : At S φ w) (hb : Below B w w') (hS : ∀ g ∈ S, g < B) : At S φ w' := h.move (fun g hg => hb.block g (hS g hg)) hb.size
theorem NatX.drew1 {K : NatK} {B b : Nat} {xs : List Int} {w : World} (h : NatX K B b xs w) : NatX K B b xs w.drew := h
theorem Row.drew1 {w : World} {lo hi : Nat} {v : Value} {xs : List Value} (h : Row w lo hi v xs) : Row w.drew lo hi v xs := h
theorem below_low {B C : Nat} {w w1 w2 : World} (h : Below B w w1) (k : Below C w1 w2) (hB : B ≤ C) : Below B w w2 :=
  ⟨k.os.trans h.os, k.tape.trans h.tape, k.output.trans h.output, Nat.le_trans h.size k.size, fun i hi => (k.block i (by omega)).trans (h.block i hi)⟩
end Go.Proofs.YtofehcpapdlcnaaGreatDoor

namespace Go.Proofs.YtofehcpapdlcnaaGreatDoor
open Go.RowKit


set_option maxHeartbeats 2000000 in
set_option maxRecDepth 100000 in
theorem implIntCmp_any (vx vy : Value) (x y : SI) (w : World) (hlx : x.2.length ≤ 1048576) (hly : y.2.length ≤ 1048576) (hx : OwnS vx x w) (hy : OwnS vy y w) :
    Calls Tryz.prog 150 #[vx, vy] w fun e w' => e = .returned (.int .i64 (cmpS x y)) ∧ Below w.heap.size w w' := by
  obtain ⟨ux, rfl, hox⟩ := hx
  obtain ⟨uy, rfl, hoy⟩ := hy
  obtain ⟨Ax, cx, rfl⟩ := own_len hox
  obtain ⟨Ay, cy, rfl⟩ := own_len hoy
  have hbb : Below w.heap.size w ((w.alloc (.cells #[.bool x.1, .slice Ax x.2.length cx] 31)).alloc (.cells #[.bool y.1, .slice Ay y.2.length cy] 31)) := below_al (below_al (Below.refl _ _) _) _
  have kx := (box_new w #[.bool x.1, .slice Ax x.2.length cx] 31).below (below_al (Below.refl _ _) (.cells #[.bool y.1, .slice Ay y.2.length cy] 31))
  have ky := box_new (w.alloc (.cells #[.bool x.1, .slice Ax x.2.length cx] 31)) #[.bool y.1, .slice Ay y.2.length cy] 31
  rw [show (w.alloc (.cells #[.bool x.1, .slice Ax x.2.length cx] 31)).heap.size = w.heap.size + 1 by simp] at ky
  have ox := own_below hox hbb
  have oy := own_below hoy hbb
  have rdx := (OwnS.mk (x := x) (ownI_of ox)).rd
  clear hox hoy
  by_cases okx : okS x = true
  · go_enter Tryz.func150, Tryz.ntmps150
    go_wp2_with fail
    refine (implIntOk_any _ x _ hlx rdx).mono ?_
    rintro e w1 ⟨rfl, b1⟩
    rw [okx]
    have bb1 := Below.next hbb b1
    replace kx := kx.below b1
    replace ky := ky.below b1
    replace ox := own_below ox b1
    replace oy := own_below oy b1
    have cy0 := ky.here.cell 0 _ rfl
    have cy1 := ky.here.cell 1 _ rfl
    clear rdx
    go_wp2_with fail
    refine (implIntOk_any _ y w1 hly (OwnS.mk (x := y) (ownI_of oy)).rd).mono ?_
    rintro e w2 ⟨rfl, b2⟩
    have bb2 := Below.next bb1 b2
    replace kx := kx.below b2
    replace ky := ky.below b2
    replace ox := own_below ox b2
    replace oy := own_below oy b2
    clear cy0 cy1
    by_cases oky : okS y = true
    · rw [oky]
      have HV := Lib.hid (show cmpS x y = cmpI (valS x) (valS y) by unfold cmpS; rw [if_pos ⟨okx, oky⟩])
      have px := okS_parts okx
      have py := okS_parts oky
      have h0x := nval_ok px.1
      have h0y := nval_ok py.1
      have Dx := Lib.hid (natOk_parts px.1)
      have Dy := Lib.hid (natOk_parts py.1)
      have cx0 := kx.here.cell 0 _ rfl
      have cx1 := kx.here.cell 1 _ rfl
      have cy0 := ky.here.cell 0 _ rfl
      have cy1 := ky.here.cell 1 _ rfl
      have hpx : x.1 = true → 0 < nval x.2 := fun h => okS_pos okx (px.2 h)
      have hpy : y.1 = true → 0 < nval y.2 := fun h => okS_pos oky (py.2 h)
      have HPX := Lib.hid hpx
      have HPY := Lib.hid hpy
      have rx := (ownI_of ox).row
      have ry := (ownI_of oy).row
      clear px py hpx hpy okx oky kx ky
      cases hx1 : x.1 <;> cases hy1 : y.1
      · rw [hx1] at cx0
        rw [hy1] at cy0
        have HC := Lib.hid (show cmpI (valS x) (valS y) = cmpI (nval x.2) (nval y.2) by unfold valS; rw [hx1, hy1]; rfl)
        clear hx1 hy1
        go_wp2_with fail
        refine (compareLimbs_any _ _ x.2 y.2 0 _ 0 _ w2 (by omega) (by omega) ⟨Dx.out.1, Dx.out.2.2⟩ ⟨Dy.out.1, Dy.out.2.2⟩ rx ry).mono ?_
        rintro e w' ⟨rfl, q, rfl⟩
        go_wp2
        go_ret
        exact ⟨ret_int (by rw [HV.out, HC.out]), below_drewN bb2 q⟩
      · rw [hx1] at cx0
        rw [hy1] at cy0
        have HC := Lib.hid (show cmpI (valS x) (valS y) = 1 by have := HPY.out hy1; unfold valS; rw [hx1, hy1]; simp; unfold cmpI; rw [if_neg (by omega), if_pos (by omega)])
        clear hx1 hy1
        go_wp2
        go_ret
        exact ⟨ret_int (by rw [HV.out, HC.out]), bb2⟩
      · rw [hx1] at cx0
        rw [hy1] at cy0
        have HC := Lib.hid (show cmpI (valS x) (valS y) = -1 by have := HPX.out hx1; unfold valS; rw [hx1, hy1]; simp; unfold cmpI; rw [if_pos (by omega)])
        clear hx1 hy1
        go_wp2
        go_ret
        exact ⟨ret_int (by rw [HV.out, HC.out]), bb2⟩
      · rw [hx1] at cx0
        rw [hy1] at cy0
        have HC := Lib.hid (show cmpI (valS x) (valS y) = cmpI (nval y.2) (nval x.2) by unfold valS; rw [hx1, hy1]; simp; unfold cmpI; split <;> split <;> (try split) <;> (try split) <;> omega)
        clear hx1 hy1
        go_wp2_with fail
        refine (compareLimbs_any _ _ y.2 x.2 0 _ 0 _ w2 (by omega) (by omega) ⟨Dy.out.1, Dy.out.2.2⟩ ⟨Dx.out.1, Dx.out.2.2⟩ ry rx).mono ?_
        rintro e w' ⟨rfl, q, rfl⟩
        go_wp2
        go_ret
        exact ⟨ret_int (by rw [HV.out, HC.out]), below_drewN bb2 q⟩
    · have oky' : okS y = false := by simpa using oky
      have HV := Lib.hid (show cmpS x y = 0 by unfold cmpS; rw [if_neg (fun h => oky h.2)])
      rw [oky']
      clear oky kx ky
      go_wp2
      go_ret
      exact ⟨ret_int HV.out.symm, bb2⟩
  · have okx' : okS x = false := by simpa using okx
    have HV := Lib.hid (show cmpS x y = 0 by unfold cmpS; rw [if_neg (fun h => okx h.1)])
    clear okx
    go_enter Tryz.func150, Tryz.ntmps150
    go_wp2_with fail
    refine (implIntOk_any _ x _ hlx rdx).mono ?_
    rintro e w1 ⟨rfl, b1⟩
    rw [okx']
    have bb1 := Below.next hbb b1
    clear kx ky rdx
    go_wp2
    go_ret
    exact ⟨ret_int HV.out.symm, bb1⟩

set_option maxHeartbeats 400000 in
set_option maxRecDepth 100000 in
theorem implIntSign_any (v : Value) (x : SI) (w : World) (hl : x.2.length ≤ 1048576) (h : OwnS v x w) :
    Calls Tryz.prog 103 #[v] w fun e w' => e = .returned (.int .i64 (cmpS x zeroS)) ∧ Below w.heap.size w w' := by
  obtain ⟨u, rfl, ho⟩ := h
  obtain ⟨A, c, rfl⟩ := own_len ho
  have hbb : Below w.heap.size w (w.alloc (.cells #[.bool x.1, .slice A x.2.length c] 31)) := below_al (Below.refl _ _) _
  have hoB := OwnS.mk (x := x) (ownI_of (own_below ho hbb))
  have hz : OwnS (.agg #[.bool false, .slice none 0 0]) zeroS (w.alloc (.cells #[.bool x.1, .slice A x.2.length c] 31)) := ⟨_, rfl, World.ownsRow_nil _ _ _ _⟩
  go_enter Tryz.func103, Tryz.ntmps103
  go_wp2_with fail
  refine (implIntCmp_any _ _ x zeroS _ hl (by decide) hoB hz).mono ?_
  rintro e w1 ⟨rfl, b1⟩
  go_wp2
  go_ret
  exact ⟨rfl, Below.next hbb b1⟩

end Go.Proofs.YtofehcpapdlcnaaGreatDoor

namespace Go.Proofs.YtofehcpapdlcnaaGreatDoor
open Go.RowKit

set_option maxHeartbeats 1000000 in
set_option maxRecDepth 100000 in
theorem validDec_any (vx : Value) (x : SI) (k : Int) (S : List Nat) (w : World) (hl : x.2.length ≤ 1048576) (hx : At S (OwnS vx x) w) :
    Calls Tryz.prog 105 #[vx, .int .i64 k] w (KeptD S (decD x k).1 (decD x k).2 w) := by
  obtain ⟨Ax, cx, rfl⟩ := ownS_form hx.here
  have OX := Lib.hid (show ∀ W, Below w.heap.size w W → At S (OwnD (.agg #[.bool x.1, .slice Ax x.2.length cx, .int .i64 k]) (x, k)) W from fun W hb => (hx.below hb).imp fun _ h => OwnD.mk (q := (x, k)) (ownS_openD h))
  have HLT := Lib.hid hx.lt
  clear hx
  have bb0 : Below w.heap.size w ((w.alloc (.cells #[.bool x.1, .slice Ax x.2.length cx] 31)).alloc (.cells #[.bool false, .slice none 0 0, .int .i64 0] 40)) := below_al (below_al (Below.refl _ _) _) _
  have kx := (box_new w #[.bool x.1, .slice Ax x.2.length cx] 31).below (below_al (Below.refl _ _) (.cells #[.bool false, .slice none 0 0, .int .i64 0] 40))
  have ko := (box_new (w.alloc (.cells #[.bool x.1, .slice Ax x.2.length cx] 31)) #[.bool false, .slice none 0 0, .int .i64 0] 40)
  rw [show (w.alloc (.cells #[.bool x.1, .slice Ax x.2.length cx] 31)).heap.size = w.heap.size + 1 by simp] at ko
  go_enter Tryz.func105, Tryz.ntmps105
  have kx_c0 := kx.here.cell 0 _ rfl
  have kx_c1 := kx.here.cell 1 _ rfl
  have kd := box_new (((w.alloc (.cells #[.bool x.1, .slice Ax x.2.length cx] 31)).alloc (.cells #[.bool false, .slice none 0 0, .int .i64 0] 40))) #[.bool x.1, .slice Ax x.2.length cx, .int .i64 k] 40
  have ald := below_al (Below.refl (((w.alloc (.cells #[.bool x.1, .slice Ax x.2.length cx] 31)).alloc (.cells #[.bool false, .slice none 0 0, .int .i64 0] 40))).heap.size (((w.alloc (.cells #[.bool x.1, .slice Ax x.2.length cx] 31)).alloc (.cells #[.bool false, .slice none 0 0, .int .i64 0] 40)))) (.cells #[.bool x.1, .slice Ax x.2.length cx, .int .i64 k] 40)
  have bbd := Below.next bb0 ald
  replace kx := kx.below ald
  replace ko := ko.below ald
  rw [show ((w.alloc (.cells #[.bool x.1, .slice Ax x.2.length cx] 31)).alloc (.cells #[.bool false, .slice none 0 0, .int .i64 0] 40)).heap.size = w.heap.size + 1 + 1 by simp] at kd
  have kd_c0 := kd.here.cell 0 _ rfl
  have kd_c1 := kd.here.cell 1 _ rfl
  have kd_c2 := kd.here.cell 2 _ rfl
  go_wp2_with fail
  clear kx_c0 kx_c1 kd_c0 kd_c1 kd_c2
  refine (implDecOk_any _ (x, k) _ hl (OX.out _ bbd).here).mono ?_
  rintro e w1 ⟨rfl, b1⟩
  have bb1 := Below.next bbd b1
  replace kx := kx.below b1
  replace ko := ko.below b1
  replace kd := kd.below b1
  by_cases ok : okD (x, k) = true
  · rw [ok]
    have HV := Lib.hid (show decD x k = ((x, k), true) by unfold decD; rw [if_pos ok])
    clear ok kx
    have HW := Lib.hid (keptD_at (r := w.heap.size + 1) (b := true) (OX.out _ bb1) HLT.out (by omega) bb1)
    have kd_c0 := kd.here.cell 0 _ rfl
    have kd_c1 := kd.here.cell 1 _ rfl
    have kd_c2 := kd.here.cell 2 _ rfl
    have cz0 := ko.here.cell 0 _ rfl
    have fz0 := Lib.frozen_of_heap ko.here 0
    have cz1 := ko.here.cell 1 _ rfl
    have fz1 := Lib.frozen_of_heap ko.here 1
    have cz2 := ko.here.cell 2 _ rfl
    have fz2 := Lib.frozen_of_heap ko.here 2
    clear kd ko
    go_wp2
    refine bodyPost_ret (v := .tuple #[.agg #[.bool x.1, .slice Ax x.2.length cx, .int .i64 k], .bool true]) (by simp [results, Tryz.results105, go_sem, cz0, cz1, cz2]) rfl ?_
    rw [HV.out]
    exact HW.out
  · have ok' : okD (x, k) = false := by simpa using ok
    have HV := Lib.hid (show decD x k = (zeroD, false) by unfold decD; rw [if_neg ok])
    rw [ok']
    clear ok ok' kx kd
    have cz0 := ko.here.cell 0 _ rfl
    have fz0 := Lib.frozen_of_heap ko.here 0
    have cz1 := ko.here.cell 1 _ rfl
    have fz1 := Lib.frozen_of_heap ko.here 1
    have cz2 := ko.here.cell 2 _ rfl
    have fz2 := Lib.frozen_of_heap ko.here 2
    go_wp2
    refine bodyPost_ret (v := .tuple #[.agg #[.bool false, .slice none 0 0, .int .i64 0], .bool false]) (by simp [results, Tryz.results105, go_sem, cz0, cz1, cz2]) rfl ?_
    rw [HV.out]
    first | exact keptD_zero bb1 | exact keptD_zero (below_set3 bb1 (by omega))
set_option maxHeartbeats 1000000 in
set_option maxRecDepth 100000 in
theorem tenTo_any (k : Int) (w : World) : Calls Tryz.prog 138 #[.int .i64 k] w (NewV (fun u => OwnS u (tenS k)) w) := by
  have bb0 : Below w.heap.size w (w.alloc (.cells #[.bool false, .slice none 0 0] 31)) := below_al (Below.refl _ _) _
  have ko := (box_new w #[.bool false, .slice none 0 0] 31)
  have HKO := Lib.hid (ko.lt w.heap.size (by simp))
  go_enter Tryz.func138, Tryz.ntmps138
  go_wp2_with fail
  refine (implNatTen_any k _).mono ?_
  rintro e w1 ⟨v, rfl, o0, b1⟩
  obtain ⟨Af, cf, rfl⟩ := own_len o0
  have bb1 := Below.next bb0 b1
  replace ko := ko.below b1
  have of := (own_at' o0).imp (fun _ h => (OwnS.mk h : OwnS (.agg #[.bool (tenS k).1, .slice Af (tenN k).length cf]) (tenS k) _))
  have lf := own_within o0
  clear o0
  have HR := Lib.hid (newV_chg (φ := fun u => OwnS u (tenS k)) (v := .agg #[.bool false, .slice Af (tenN k).length cf]) (T := [w.heap.size]) of (fun i hi hm => by have := lf i hi; have := HKO.out; simp at hm; omega) (fun i hi => by simp at hi; omega) (fun i hi => by have := lf i hi; have := HKO.out; omega) bb1)
  have cz0 := ko.here.cell 0 _ rfl
  have fz0 := Lib.frozen_of_heap ko.here 0
  have cz1 := ko.here.cell 1 _ rfl
  have fz1 := Lib.frozen_of_heap ko.here 1
  clear of ko
  go_wp2
  refine bodyPost_ret (v := .agg #[.bool false, .slice Af (tenN k).length cf]) (by simp [results, Tryz.results138, go_sem, cz0, cz1]) rfl ?_
  refine HR.out _ ?_
  repeat (first | exact Chg.refl _ _ | refine Chg.setCell ?_ (by simp) _)
end Go.Proofs.YtofehcpapdlcnaaGreatDoor

namespace Go.Proofs.YtofehcpapdlcnaaGreatDoor
open Go.RowKit

theorem digitsValue_nine (s : ByteArray) (w : World) (hd : DigL s.data.toList) (hl : s.size ≤ 9) :
    Calls Tryz.prog 165 #[.string s] w fun e w' => e = .returned (.int .i64 (valL s.data.toList)) ∧ Below w.heap.size w w' := by
  refine (digitsValue_any s w hd).mono ?_
  rintro e w' ⟨rfl, hb⟩
  have h1 := valL_nine s.data.toList hd hl
  have h0 := valL_nonneg s.data.toList hd
  exact ⟨ret_int (by unfold wrap64; omega), hb⟩
/-- the value of the digits from m to k -/
def partV (s : ByteArray) (m k : Nat) : Int := valL ((s.data.toList.take k).drop m)
theorem digitsValue_part (s : ByteArray) (m k : Nat) (w : World) (hd : DigL s.data.toList) (hl : k ≤ m + 9) :
    Calls Tryz.prog 165 #[.string (s.extract m k)] w fun e w' => e = .returned (.int .i64 (partV s m k)) ∧ Below w.heap.size w w' := by
  refine (digitsValue_nine (s.extract m k) w (by rw [extract_listD]; exact dig_part _ hd _ _) (by rw [ByteArray.size_extract]; omega)).mono ?_
  rintro e w' ⟨rfl, hb⟩
  exact ⟨ret_int (by rw [extract_listD]; rfl), hb⟩

theorem part_next {s : ByteArray} {k m : Nat} {out : List Int} (hk : 0 < k) (hm : m = k - 9) (h : out ++ groups s.data.toList k = groups s.data.toList s.size) :
    out ++ [partV s m k] ++ groups s.data.toList m = groups s.data.toList s.size := by
  rw [groups_pos _ k (by omega)] at h
  rw [← h, hm, List.append_assoc]
  rfl
/-- what is known at the head of the loop -/
def ReadRel (s : ByteArray) (B H : Nat) (w : World) (e : Value) (wr : World) : Prop :=
  ∃ (en : Int) (out : List Int), -9 ≤ en ∧ en ≤ s.size ∧ e = .int .i64 en ∧ out.length + en.toNat ≤ s.size ∧ out ++ groups s.data.toList en.toNat = groups s.data.toList s.size ∧ NatAt B H out wr ∧ Below B w wr

set_option maxHeartbeats 2000000 in
set_option maxRecDepth 100000 in
theorem implTextNat_any (s : ByteArray) (w : World) (hs : s.size ≤ 9223372036854775807) (ht : Tab w) : Calls Tryz.prog 118 #[.string s] w (TNNew s w) := by
  obtain ⟨i0, hi0, hz0, hz1, hz2⟩ := info_parts intInfo
  by_cases h450 : s.size ≤ 450
  · by_cases hd : digitsB s = true
    · have HD := Lib.hid ((digitsB_iff s).1 hd).1
      have HRT := Lib.hid (read_text s hd h450)
      have HRL := Lib.hid (read_len s HD.out h450)
      go_enter Tryz.func118, Tryz.ntmps118
      go_wp2_with fail
      refine (implIsDigits_any s _).mono ?_
      rintro e w1 ⟨rfl, b1⟩
      rw [hd]
      clear hd
      go_wp2
      go_loopw [5] (fun e wr => ReadRel s w.heap.size w1.heap.size w e wr) (fun e _ => (intOf e).toNat)
      case atStart => exact ⟨s.size, [], by omega, by omega, rfl, by simp, by rw [Int.toNat_natCast]; rfl, NatAt.new b1.size (World.ownsRow_nil _ _ _ _), b1.alloc b1.size _⟩
      case round =>
        obtain ⟨en, out, h0, h1, rfl, hol, hg, hat, hb⟩ := hrel
        have HG := Lib.hid hg
        clear hg
        by_cases hpos : 0 < en
        · obtain ⟨k, rfl⟩ := Int.eq_ofNat_of_zero_le (show 0 ≤ en by omega)
          obtain ⟨m, hmk, HM⟩ : ∃ m : Nat, m ≤ k ∧ Hid (m = k - 9) := ⟨k - 9, by omega, Lib.hid rfl⟩
          have hmx : max 0 ((k : Int) - 9) = (m : Int) := by have := HM.out; omega
          have hmi : (m : Int) ≤ (k : Int) := by omega
          have hks : (k : Int) ≤ (s.size : Int) := by omega
          have hol2 : out.length + 1 ≤ 450 := by omega
          obtain ⟨hB, u, hbk, hown, hne⟩ := hat
          obtain ⟨A, c, rfl⟩ := own_len hown
          have c1 : wr.cell? ⟨w1.heap.size, 0, none⟩ = some (.slice A out.length c) := by rw [Lib.cell_of_heap hbk]; rfl
          have f1 : wr.frozen? ⟨w1.heap.size, 0, none⟩ = false := Lib.frozen_of_heap hbk 0
          have hlt := (Array.getElem?_eq_some_iff.1 hbk).1
          have HB := Lib.hid hbk
          have HE := Lib.hid hne
          have HO := Lib.hid hown
          clear hbk hne hown
          go_wp2
          clear hmx
          go_region_law (first
              | (refine step_append_lies _ (by rfl) _ _ _ (by rfl) w.heap.size 3 i0 _ 1 8 Tryz.underlying22 hi0 hz0 hz1 hz2 rfl (by omega) (.slice A out.length c) out.length (intsV out) (by rfl) (own_alloc (own_below HO.out.drew b2) _) ⟨w2.heap.size, 0, none⟩ 1 1 [.int .i64 (partV s m k)] (by rfl) (by rfl) (one_new _ _ _) (by simp [Value.oneCell']) (by omega) (by unfold maxLen; omega) (by omega) (by have h1 := hb.size; have h2 := b2.size; simp at h2 ⊢; omega) (w2.heap.size + 1) (by simp) ?_; intro gg cap w3 hown3 hg3 hat3 hlt3; have hb3 : w3.heap[w1.heap.size]? = some (.cells #[.slice A out.length c] 102 (0, 0)) := ((hg3.block w1.heap.size (by simp; omega) (fun e => HE.out e.symm)).trans (Below.heap_alloc _ _ _ hlt2)).trans ((b2.block _ hlt).trans HB.out); have hc3 : w3.cell? ⟨w1.heap.size, 0, none⟩ = some (.slice A out.length c) := (by rw [Lib.cell_of_heap hb3]; rfl); have hf3 : w3.frozen? ⟨w1.heap.size, 0, none⟩ = false := Lib.frozen_of_heap hb3 0; have HB3 := Lib.hid hb3; clear hb3)
              | (go_simp; go_at_call 165; refine (digitsValue_part s m k _ HD.out (by have := HM.out; omega)).mono ?_; rintro e w2 ⟨rfl, b2⟩; have hlt2 : w1.heap.size < w2.heap.size := Nat.lt_of_lt_of_le hlt b2.size; have hc2 : w2.cell? ⟨w1.heap.size, 0, none⟩ = some (.slice A out.length c) := (b2.cell (p := ⟨w1.heap.size, 0, none⟩) hlt).trans c1; have hf2 : w2.frozen? ⟨w1.heap.size, 0, none⟩ = false := (b2.frozen (p := ⟨w1.heap.size, 0, none⟩) hlt).trans f1))
          all_goals
            have hput := NatAt.put (ys := out ++ [partV s m k]) hB HB3.out (by rw [List.length_append, List.length_singleton, intsV_append]; exact hown3)
            have hbe : Below w.heap.size w w3 := ((Below.next hb.drew b2).alloc (by have h1 := hb.size; have h2 := b2.size; simp at h2; omega) _).grown hg3 (by have h1 := hb.size; have h2 := b2.size; simp at h2 ⊢; omega) (fun j hj => (own_lt HO.out hj).1)
            clear HB3 hc3 hf3 hc2 hf2 hown3
            go_wp2
            refine ⟨⟨(k : Int) - 9, out ++ [partV s m k], by omega, by omega, rfl, ?_, ?_, hput, hbe.setCell (p := ⟨w1.heap.size, 0, none⟩) hB _⟩, by simp [intOf]; omega⟩
            · rw [List.length_append, List.length_singleton]; omega
            · rw [show ((k : Int) - 9).toNat = m by have := HM.out; omega]
              exact part_next (by omega) HM.out (by have := HG.out; rwa [Int.toNat_natCast] at this)
        · have HT : Hid (trimL out = limbs (valL s.data.toList).toNat) := Lib.hid (by
            have := HG.out
            rw [show en.toNat = 0 by omega, groups_zero, List.append_nil] at this
            rw [this]
            exact read_limbs s HD.out)
          go_wp2_with fail
          refine (natTrim_any w.heap.size w1.heap.size out _ (by omega) hat).mono ?_
          rintro e w2 ⟨rfl, hat2, hb2⟩
          rw [HT.out] at hat2
          clear hat HT HG
          obtain ⟨hB, u, hbk, hown, hne⟩ := hat2
          obtain ⟨A, c, rfl⟩ := own_len hown
          have c2 : w2.cell? ⟨w1.heap.size, 0, none⟩ = some (.slice A (limbs (valL s.data.toList).toNat).length c) := by rw [Lib.cell_of_heap hbk]; rfl
          have hlt := (Array.getElem?_eq_some_iff.1 hbk).1
          have HO := Lib.hid hown
          have bb2 : Below w.heap.size w w2 := hb.trans hb2
          have HR : Hid (decOk s = true → tnR s = limbs (valL s.data.toList).toNat) := Lib.hid (fun h => by unfold tnR; rw [if_pos h])
          have HR2 : Hid (decOk s = false → tnR s = []) := Lib.hid (fun h => by unfold tnR; rw [h]; rfl)
          clear hbk hown hne
          have hrl := HRL.out
          generalize limbs (valL s.data.toList).toNat = L at *
          go_wp2_with fail
          refine (implNatText_any _ L _ _ _ (by omega) (Nat.le_refl _) (Row.of_own HO.out) (ht.below bb2)).mono ?_
          rintro e w3 ⟨rfl, b3⟩
          have c3 : w3.cell? ⟨w1.heap.size, 0, none⟩ = some (.slice A L.length c) := (b3.cell (p := ⟨w1.heap.size, 0, none⟩) hlt).trans c2
          have HO3 := Lib.hid (own_below HO.out b3)
          have bb3 : Below w.heap.size w w3 := Below.next bb2 b3
          by_cases hsame : natTextB L = s
          · have HOK := Lib.hid (HRT.out.1 hsame)
            go_wp2
            go_ret2
            exact ⟨_, by rw [HOK.out]; rfl, by rw [HR.out HOK.out]; exact HO3.out, bb3⟩
          · have HOK : Hid (decOk s = false) := Lib.hid (by
              cases h : decOk s with
              | false => rfl
              | true => exact absurd (HRT.out.2 h) hsame)
            have hne := bytes_ne' hsame
            go_wp2
            go_ret2
            exact ⟨_, by rw [HOK.out]; rfl, by rw [HR2.out HOK.out]; exact World.ownsRow_nil _ _ _ _, bb3⟩
    · have hd' : digitsB s = false := by simpa using hd
      have HOK := Lib.hid (decOk_dig s hd')
      have HR : Hid (tnR s = []) := Lib.hid (by unfold tnR; rw [HOK.out]; rfl)
      clear hd
      go_enter Tryz.func118, Tryz.ntmps118
      go_wp2_with fail
      refine (implIsDigits_any s _).mono ?_
      rintro e w1 ⟨rfl, b1⟩
      rw [hd']
      go_wp2
      go_ret2
      exact ⟨_, by rw [HOK.out]; rfl, by rw [HR.out]; exact World.ownsRow_nil _ _ _ _, b1⟩
  · have HOK := Lib.hid (decOk_long s h450)
    have HR : Hid (tnR s = []) := Lib.hid (by unfold tnR; rw [HOK.out]; rfl)
    go_enter Tryz.func118, Tryz.ntmps118
    go_wp2
    go_ret2
    exact ⟨_, by rw [HOK.out]; rfl, by rw [HR.out]; exact World.ownsRow_nil _ _ _ _, Below.refl _ _⟩
end Go.Proofs.YtofehcpapdlcnaaGreatDoor

namespace Go.Proofs.YtofehcpapdlcnaaGreatDoor
open Go.RowKit

theorem emptyP_ne {s : ByteArray} (h : ¬ s = ⟨#[]⟩) : s.toList.isEmpty = false := by
  rcases Bool.eq_false_or_eq_true s.toList.isEmpty with e | e
  · rw [List.isEmpty_iff, Lib.toList_data] at e
    exact absurd (WideShapes.bytes_inj (by rw [e])) h
  · exact e
theorem bytes_neP {a b : ByteArray} (h : ¬ a = b) : (a.toList == b.toList) = false := by
  rw [beq_eq_false_iff_ne, ByteArray.toList_eq, ByteArray.toList_eq]
  exact fun e => h (WideShapes.bytes_inj e)
theorem bytes_eqP {a b : ByteArray} (h : a = b) : (a.toList == b.toList) = true := by subst h; exact beq_self_eq_true _
theorem point_lt {s : ByteArray} {o : Nat} (h : pointAt s = o) : o < s.size := by
  obtain ⟨h1, _⟩ := Lib.indexByte_some h
  have := (List.getElem?_eq_some_iff.1 h1).1
  rw [listB_len] at this
  exact this
theorem point_casesD (s : ByteArray) : pointAt s = -1 ∨ ∃ o : Nat, pointAt s = o ∧ o < s.size := by
  have h := Lib.indexByte_ge s.data.toList 46
  by_cases e : pointAt s = -1
  · exact .inl e
  · have ho : pointAt s = ((pointAt s).toNat : Nat) := by unfold pointAt at *; omega
    exact .inr ⟨_, ho, point_lt ho⟩
set_option maxHeartbeats 400000 in
set_option maxRecDepth 100000 in
theorem liteCutP_none (s : ByteArray) (w : World) (h : pointAt s = -1) :
    Calls Tryz.prog 163 #[.string s, .string ⟨#[46]⟩] w fun e w' => e = .returned (.tuple #[.string (preB s), .string ⟨#[]⟩, .bool false]) ∧ w = w' := by
  have eh : preB s = s := by unfold preB; rw [if_pos (by omega)]
  rw [eh]
  go_enter Tryz.func163, Tryz.ntmps163
  go_wp2_with fail
  refine (Tryz.stringslite_Index_one s 46 _).mono ?_
  rintro e w1 ⟨rfl, rfl⟩
  rw [show Lib.indexByte s.data.toList 46 = -1 from h]
  go_wp2
  go_ret3
  exact ⟨rfl, rfl⟩
set_option maxHeartbeats 400000 in
set_option maxRecDepth 100000 in
theorem liteCutP_some (s : ByteArray) (o : Nat) (w : World) (hs : s.size ≤ 1048576) (h : pointAt s = o) :
    Calls Tryz.prog 163 #[.string s, .string ⟨#[46]⟩] w fun e w' => e = .returned (.tuple #[.string (preB s), .string (postB s), .bool true]) ∧ Below w.heap.size w w' := by
  have hl := point_lt h
  have eh : preB s = s.extract 0 o := by unfold preB; rw [if_neg (by omega), h, Int.toNat_natCast]
  have et : postB s = s.extract (o + 1) s.size := by unfold postB; rw [if_neg (by omega), h, Int.toNat_natCast]
  rw [eh, et]
  have c1 : (0 : Int) ≤ ↑o := by omega
  have c2 : (↑o : Int) ≤ ↑s.size := by omega
  have c3 : (0 : Int) ≤ ↑o + 1 := by omega
  have c4 : (↑o + 1 : Int) ≤ ↑s.size := by omega
  have c5 : (s.size : Int) ≤ 1048576 := by omega
  go_enter Tryz.func163, Tryz.ntmps163
  go_wp2_with fail
  refine (Tryz.stringslite_Index_one s 46 _).mono ?_
  rintro e w1 ⟨rfl, rfl⟩
  rw [show Lib.indexByte s.data.toList 46 = (o : Int) from h]
  go_wp2
  go_quiet (fail)
  go_wp2
  go_ret3
  exact ⟨rfl, below_drewN (Below.refl _ _) _⟩
set_option maxHeartbeats 400000 in
set_option maxRecDepth 100000 in
theorem cutP_none (s : ByteArray) (w : World) (h : pointAt s = -1) :
    Calls Tryz.prog 117 #[.string s, .string ⟨#[46]⟩] w fun e w' => e = .returned (.tuple #[.string (preB s), .string ⟨#[]⟩, .bool false]) ∧ Below w.heap.size w w' := by
  go_enter Tryz.func117, Tryz.ntmps117
  go_wp2_with fail
  refine (liteCutP_none s _ h).mono ?_
  rintro e w1 ⟨rfl, rfl⟩
  go_wp2
  go_ret3
  exact ⟨rfl, Below.refl _ _⟩
set_option maxHeartbeats 400000 in
set_option maxRecDepth 100000 in
theorem cutP_some (s : ByteArray) (o : Nat) (w : World) (hs : s.size ≤ 1048576) (h : pointAt s = o) :
    Calls Tryz.prog 117 #[.string s, .string ⟨#[46]⟩] w fun e w' => e = .returned (.tuple #[.string (preB s), .string (postB s), .bool true]) ∧ Below w.heap.size w w' := by
  go_enter Tryz.func117, Tryz.ntmps117
  go_wp2_with fail
  refine (liteCutP_some s o _ hs h).mono ?_
  rintro e w1 ⟨rfl, b1⟩
  go_wp2
  go_ret3
  exact ⟨rfl, b1⟩
theorem cutP_any (s : ByteArray) (w : World) (hs : s.size ≤ 1048576) :
    Calls Tryz.prog 117 #[.string s, .string ⟨#[46]⟩] w fun e w' => ∃ b : Bool, e = .returned (.tuple #[.string (preB s), .string (postB s), .bool b]) ∧ Below w.heap.size w w' := by
  rcases point_casesD s with h | ⟨o, h, _⟩
  · refine (cutP_none s w h).mono ?_
    rintro e w' ⟨rfl, b⟩
    have e2 : postB s = ⟨#[]⟩ := by unfold postB; rw [if_pos (by omega)]
    exact ⟨false, by rw [e2], b⟩
  · refine (cutP_some s o w hs h).mono ?_
    rintro e w' ⟨rfl, b⟩
    exact ⟨true, rfl, b⟩
set_option maxHeartbeats 1000000 in
set_option maxRecDepth 100000 in
theorem trimLeft_any (s : ByteArray) (w : World) :
    Calls Tryz.prog 119 #[.string s, .string ⟨#[48]⟩] w fun e w' => e = .returned (.string ⟨(Lib.trimLeftB s.data.toList 48).toArray⟩) ∧ Below w.heap.size w w' := by
  by_cases h0 : s = ⟨#[]⟩
  · subst h0
    go_enter Tryz.func119, Tryz.ntmps119
    go_wp2
    go_ret
    exact ⟨rfl, Below.refl _ _⟩
  · have hne := emptyP_ne h0
    have hne2 := bytes_neP h0
    clear h0
    go_enter Tryz.func119, Tryz.ntmps119
    go_wp2_with fail
    refine (Tryz.strings_trimLeftByte s 48 _).mono ?_
    rintro e w1 ⟨rfl, rfl⟩
    go_wp2
    go_ret
    exact ⟨rfl, Below.refl _ _⟩
theorem pre_post_size (s : ByteArray) : (preB s).size ≤ s.size ∧ (postB s).size ≤ s.size ∧ (preB s).size + (postB s).size ≤ s.size := by
  unfold preB postB
  split
  · exact ⟨Nat.le_refl _, Nat.zero_le _, Nat.le_refl _⟩
  · rw [ByteArray.size_extract, ByteArray.size_extract]
    omega
theorem trim_size (l : List UInt8) (c : UInt8) : (Lib.trimLeftB l c).length ≤ l.length := (List.dropWhile_sublist _).length_le
end Go.Proofs.YtofehcpapdlcnaaGreatDoor
