/-
  What addTimes and take of impl.nat do to a number of the call's own.
-/
import Derived.Test.YtofehcpapdlcnaaNatBuf2
namespace Go.Proofs.Ytofehcpapdlcnaa
open Go.RowKit

/-- how many limbs addTimes reaches -/
def lenM (x y sh : Nat) : Nat := if y = 0 then x else max x (sh + y)
theorem lenM_succ (x k sh : Nat) : max (lenM x k sh) (sh + k + 1) = lenM x (k + 1) sh := by
  unfold lenM
  rw [if_neg (show ¬ k + 1 = 0 by omega)]
  by_cases h : k = 0
  · rw [if_pos h]; omega
  · rw [if_neg h]; omega
theorem lenM_le (x y sh : Nat) (hx : x ≤ 300000) (hy : y ≤ 300000) (hs : sh ≤ 300000) : lenM x y sh ≤ 600000 := by unfold lenM; split <;> omega
theorem take_val_succ (ys : List Int) (k : Nat) (h : k < ys.length) : nval (ys.take (k + 1)) = nval (ys.take k) + bp k * ys[k] := by
  rw [List.take_succ_eq_append_getElem h, nval_append, List.length_take, show min k ys.length = k by omega]
  show _ + bp k * (ys[k] + 1000000000 * 0) = _
  rw [Int.mul_zero, Int.add_zero]
/-- one step of the first loop -/
def TimesR (xs ys : List Int) (f : Int) (sh k : Nat) (cur : List Int) (cr : Int) : Prop :=
  DigN cur ∧ cur.length = lenM xs.length k sh ∧ nval cur + cr * bp (sh + k) = nval xs + f * bp sh * nval (ys.take k) ∧ (k = 0 → cr = 0)
theorem TimesR.start (xs ys : List Int) (f : Int) (sh : Nat) (hd : DigN xs) : TimesR xs ys f sh 0 xs 0 := by
  refine ⟨hd, rfl, ?_, fun _ => rfl⟩
  rw [List.take_zero]
  show nval xs + 0 * _ = nval xs + f * bp sh * 0
  rw [Int.zero_mul, Int.mul_zero]
theorem TimesR.next {xs ys : List Int} {f : Int} {sh k : Nat} {cur : List Int} {cr : Int} (h : TimesR xs ys f sh k cur cr) (hk : k < ys.length) :
    TimesR xs ys f sh (k + 1) (addAtL cur (sh + k) (ys[k] * f + cr)) (addAtC cur (sh + k) (ys[k] * f + cr)) := by
  obtain ⟨h1, h2, h3, _⟩ := h
  refine ⟨addAt_dig h1 _ _, ?_, ?_, fun h => absurd h (by omega)⟩
  · rw [addAt_length, h2, lenM_succ]
  · have e := addAt_val cur (sh + k) (ys[k] * f + cr)
    have e2 : ys[k] * f * bp (sh + k) = f * bp sh * (bp k * ys[k]) := by
      rw [bp_add]
      simp only [Int.mul_assoc, Int.mul_comm, Int.mul_left_comm]
    rw [show sh + (k + 1) = sh + k + 1 by omega, e, take_val_succ ys k hk, Int.add_mul, Int.mul_add, e2]
    omega
theorem carry_bound {cur : List Int} {p : Nat} {v : Int} (h : DigN cur) (h0 : 0 ≤ v) (h1 : v ≤ 999999999000000000) : 0 ≤ addAtC cur p v ∧ addAtC cur p v ≤ 999999999 := by
  have hd := getD_dig h p
  unfold addAtC
  omega
/-- one step of the second loop -/
def CarryR (M : Nat) (N : Int) (pl : Nat) (cur : List Int) (cr : Int) : Prop :=
  DigN cur ∧ nval cur + cr * bp pl = N ∧ ((cur.length = M ∧ (cr = 0 ∨ pl ≤ M)) ∨ (cr = 0 ∧ cur.length = M + 1 ∧ bp M ≤ N))
theorem CarryR.len {M pl : Nat} {N cr : Int} {cur : List Int} (h : CarryR M N pl cur cr) : cur.length ≤ M + 1 := by
  obtain ⟨_, _, ⟨h, _⟩ | ⟨_, h, _⟩⟩ := h <;> omega
theorem CarryR.place {M pl : Nat} {N cr : Int} {cur : List Int} (h : CarryR M N pl cur cr) (hc : 0 < cr) : pl ≤ M ∧ cur.length = M := by
  obtain ⟨_, _, ⟨h, h2 | h2⟩ | ⟨h, _⟩⟩ := h
  · omega
  · exact ⟨h2, h⟩
  · omega
theorem CarryR.next {M pl : Nat} {N cr : Int} {cur : List Int} (h : CarryR M N pl cur cr) (hc : 0 < cr) (h1 : cr ≤ 999999999) : CarryR M N (pl + 1) (addAtL cur pl cr) (addAtC cur pl cr) := by
  obtain ⟨hp, hl⟩ := h.place hc
  obtain ⟨hd, hv, _⟩ := h
  have e := addAt_val cur pl cr
  refine ⟨addAt_dig hd _ _, by rw [e]; exact hv, ?_⟩
  by_cases he : pl = M
  · subst he
    obtain ⟨e1, e2⟩ := addAt_new cur pl cr hl.symm hc h1
    rw [e1]
    refine .inr ⟨rfl, by rw [addAt_length]; omega, ?_⟩
    rw [e1, e2, Int.zero_mul, Int.add_zero] at e
    rw [← hv, ← e, nval_append, hl]
    have h2 := nval_nonneg cur hd
    have h3 := bp_pos pl
    have h4 : nval [cr] = cr := by show cr + 1000000000 * 0 = cr; omega
    rw [h4]
    have h5 := Int.mul_le_mul_of_nonneg_left (show 1 ≤ cr by omega) (show 0 ≤ bp pl by omega)
    omega
  · exact .inl ⟨by rw [addAt_length]; omega, .inr (by omega)⟩

/-- what addTimes leaves -/
def TimesPost (K : NatK) (B b : Nat) (xs ys : List Int) (f : Int) (sh : Nat) (w w' : World) : Prop :=
  ∃ zs, LeftX K B b zs w w' ∧ DigN zs ∧ nval zs = nval xs + f * bp sh * nval ys ∧ (zs.length = lenM xs.length ys.length sh ∨ (zs.length = lenM xs.length ys.length sh + 1 ∧ bp (lenM xs.length ys.length sh) ≤ nval zs))

theorem addAt_at {K : NatK} (B b : Nat) (xs : List Int) (p : Nat) (pz v : Int) (w : World) (hl : xs.length ≤ 1048576) (hp : p ≤ 1048576) (hv0 : 0 ≤ v) (hv1 : v ≤ 1000000000000000000) (hd : DigN xs) (h : NatX K B b xs w) (hz : pz = p) :
    Calls Try.prog 51 #[.pointer (some ⟨b, 0, none⟩), .int .i64 pz, .int .i64 v] w fun e w' => e = .returned (.int .i64 (addAtC xs p v)) ∧ LeftX K B b (addAtL xs p v) w w' := by
  subst hz
  exact addAt_any B b xs p v w hl hp hv0 hv1 hd h

set_option maxHeartbeats 1000000 in
set_option maxRecDepth 100000 in
theorem addTimes_any {K : NatK} (B b : Nat) (xs : List Int) (vy : Value) (ys : List Int) (lo hi : Nat) (f : Int) (sh : Nat) (w : World) (hxl : xs.length ≤ 300000) (hyl : ys.length ≤ 300000) (hsh : sh ≤ 300000) (hf0 : 0 ≤ f) (hf1 : f ≤ 999999999)
    (hdx : DigN xs) (hdy : DigN ys) (hhi : hi ≤ B) (hr : Row w lo hi vy (intsV ys)) (h : NatX K B b xs w) :
    Calls Try.prog 50 #[.pointer (some ⟨b, 0, none⟩), vy, .int .i64 f, .int .i64 sh] w fun e w' => e = .returned (.tuple #[]) ∧ TimesPost K B b xs ys f sh w w' := by
  obtain ⟨A, c, rfl, hA⟩ := hr
  rw [intsV_length]
  have HA := Lib.hid hA
  have HDX := Lib.hid hdx
  have HDY := Lib.hid hdy
  clear hA hdx hdy
  go_enter Try.func50, Try.ntmps50
  go_wp2
  go_loopw [8, 14] (fun a i wr => ∃ (k : Nat) (cur : List Int) (cr : Int), k ≤ ys.length ∧ i = .int .i64 k ∧ a = .int .i64 cr ∧ 0 ≤ cr ∧ cr ≤ 999999999 ∧ Hid (TimesR xs ys f sh k cur cr) ∧ NatX K B b cur wr ∧ Below B w wr) (fun _ i _ => ys.length - (intOf i).toNat)
  case atStart => exact ⟨0, xs, 0, Nat.zero_le _, rfl, rfl, by omega, by omega, Lib.hid (TimesR.start xs ys f sh HDX.out), h, Below.refl _ _⟩
  case round =>
    obtain ⟨k, cur, cr, hk, rfl, rfl, hc0, hc1, HR, hat, hb1⟩ := hrel
    have hcl : cur.length ≤ 600000 := by rw [HR.out.2.1]; exact lenM_le _ _ _ hxl (by omega) hsh
    by_cases hlt : k < ys.length
    · obtain ⟨p, rfl, _, hpb, hca⟩ := HA.out k _ (intsV_at ys k hlt)
      have hca' : wr.cell? (p.add k) = some (.int .i64 ys[k]) := (hb1.cell (by rw [block_add]; omega)).trans hca
      have hdy := HDY.out.at_ k hlt
      have hd0 := hdy.1
      have hd1 := hdy.2
      have hm0 : 0 ≤ ys[k] * f := Int.mul_nonneg hd0 hf0
      have hm1 : ys[k] * f ≤ 999999998000000001 := by
        have := Int.mul_le_mul hd1 hf1 hf0 (by omega)
        omega
      have HN := Lib.hid (HR.out.next hlt)
      have HCB := Lib.hid (carry_bound (p := sh + k) (v := ys[k] * f + cr) HR.out.1 (by omega) (by omega))
      clear hca hdy
      go_wp2_with fail
      refine (addAt_at B b cur (sh + k) _ _ _ (by omega) (by omega) (by omega) (by omega) HR.out.1 hat (by omega)).mono ?_
      rintro e w1 ⟨rfl, hat1, hb2⟩
      clear hm0 hm1 hd0 hd1
      go_wp2
      go_roundw
      case rel => exact ⟨k + 1, _, _, by omega, by go_num, rfl, HCB.out.1, HCB.out.2, HN, hat1, hb1.trans hb2⟩
      case measure => simp [intOf]; omega
    · obtain rfl : k = ys.length := by omega
      have HC : Hid (CarryR (lenM xs.length ys.length sh) (nval xs + f * bp sh * nval ys) (sh + ys.length) cur cr) := Lib.hid (by
        obtain ⟨h1, h2, h3, h4⟩ := HR.out
        rw [List.take_of_length_le (Nat.le_refl _)] at h3
        refine ⟨h1, h3, .inl ⟨h2, ?_⟩⟩
        by_cases hy : ys.length = 0
        · exact .inl (h4 hy)
        · right
          unfold lenM
          rw [if_neg hy]
          omega)
      have hM := lenM_le xs.length ys.length sh hxl hyl hsh
      clear HR
      go_wp2
      go_loopw [8, 11] (fun a i wr => ∃ (pl : Nat) (cur : List Int) (cr : Int), pl ≤ 600001 ∧ i = .int .i64 pl ∧ a = .int .i64 cr ∧ 0 ≤ cr ∧ cr ≤ 999999999 ∧ Hid (CarryR (lenM xs.length ys.length sh) (nval xs + f * bp sh * nval ys) pl cur cr) ∧ NatX K B b cur wr ∧ Below B w wr) (fun _ i _ => lenM xs.length ys.length sh + 1 - (intOf i).toNat)
      case atStart => exact ⟨sh + ys.length, cur, cr, by omega, by go_num, rfl, hc0, hc1, HC, hat, hb1⟩
      case round =>
        clear hat hb1 HC hc0 hc1 hcl
        obtain ⟨pl, cur, cr, hpl, rfl, rfl, hc0, hc1, HC, hat, hb1⟩ := hrel
        have hcl := HC.out.len
        by_cases hpos : 0 < cr
        · have hplm := (HC.out.place hpos).1
          have HN := Lib.hid (HC.out.next hpos hc1)
          have HCB := Lib.hid (carry_bound (p := pl) (v := cr) HC.out.1 hc0 (by omega))
          go_wp2_with fail
          refine (addAt_any B b cur pl cr _ (by omega) (by omega) (by omega) (by omega) HC.out.1 hat).mono ?_
          rintro e w1 ⟨rfl, hat1, hb2⟩
          go_wp2
          go_roundw
          case rel => exact ⟨pl + 1, _, _, by omega, by go_num, rfl, HCB.out.1, HCB.out.2, HN, hat1, hb1.trans hb2⟩
          case measure => simp [intOf]; omega
        · obtain rfl : cr = 0 := by omega
          go_wp2
          go_end0
          refine ⟨rfl, cur, ⟨hat, hb1⟩, HC.out.1, ?_, ?_⟩
          · have := HC.out.2.1
            rw [Int.zero_mul, Int.add_zero] at this
            exact this
          · obtain ⟨_, h2, h3⟩ := HC.out
            rw [Int.zero_mul, Int.add_zero] at h2
            rcases h3 with h3 | h3
            · exact .inl h3.1
            · exact .inr ⟨h3.2.1, by rw [h2]; exact h3.2.2⟩

/-- a row with the blocks on which it leans -/
theorem Row.on {w : World} {lo hi : Nat} {v : Value} {xs : List Value} (h : Row w lo hi v xs) : ∃ S, At S (fun w => Row w lo hi v xs) w ∧ Within S lo hi := by
  have hh := h
  obtain ⟨A, c, rfl, h⟩ := h
  cases xs with
  | nil => exact ⟨[], ⟨hh, fun g hg => absurd hg (by simp), fun w' _ => Row.nil_ A c⟩, fun g hg => absurd hg (by simp)⟩
  | cons x r =>
    obtain ⟨a, rfl, h1, h2, h3⟩ := h 0 x rfl
    have hlt := cell_lt h3
    rw [block_add] at hlt
    refine ⟨[a.block], ⟨hh, fun g hg => by simp at hg; omega, fun w' hk => ⟨_, c, rfl, fun j u hj => ?_⟩⟩, fun g hg => by simp at hg; omega⟩
    obtain ⟨a', e, k1, k2, k3⟩ := h j u hj
    cases e
    refine ⟨a, rfl, k1, k2, ?_⟩
    rw [← k3]
    have hb := hk a.block (by simp)
    unfold World.cell?
    rw [block_add, hb]

/-- one step of takeTimes -/
def TakeR (xs ys : List Int) (f : Int) (sh k pl : Nat) (cur : List Int) (br : Int) : Prop :=
  DigN cur ∧ cur.length = xs.length ∧ nval cur - br * bp pl = nval xs - f * bp sh * nval (ys.take k)
theorem TakeR.start (xs ys : List Int) (f : Int) (sh : Nat) (hd : DigN xs) : TakeR xs ys f sh 0 (sh + 0) xs 0 := by
  refine ⟨hd, rfl, ?_⟩
  rw [List.take_zero, Int.zero_mul]
  show _ = nval xs - f * bp sh * 0
  rw [Int.mul_zero]
theorem TakeR.next {xs ys : List Int} {f : Int} {sh k : Nat} {cur : List Int} {br : Int} (h : TakeR xs ys f sh k (sh + k) cur br) (hk : k < ys.length) (hl : sh + ys.length ≤ xs.length) :
    TakeR xs ys f sh (k + 1) (sh + (k + 1)) (takeAtL cur (sh + k) (ys[k] * f + br)) (takeAtC cur (sh + k) (ys[k] * f + br)) := by
  obtain ⟨a1, a2, a3⟩ := h
  refine ⟨takeAt_dig a1 _ _, by rw [takeAt_length, a2], ?_⟩
  have e2 : ys[k] * f * bp (sh + k) = f * bp sh * (bp k * ys[k]) := by
    rw [bp_add]
    simp only [Int.mul_assoc, Int.mul_comm, Int.mul_left_comm]
  rw [show sh + (k + 1) = sh + k + 1 by omega, takeAt_val cur (sh + k) _ (by omega), take_val_succ ys k hk, Int.add_mul, Int.mul_add, e2]
  omega
theorem TakeR.next2 {xs ys : List Int} {f : Int} {sh k pl : Nat} {cur : List Int} {br : Int} (h : TakeR xs ys f sh k pl cur br) (hl : pl < xs.length) :
    TakeR xs ys f sh k (pl + 1) (takeAtL cur pl br) (takeAtC cur pl br) := by
  obtain ⟨a1, a2, a3⟩ := h
  refine ⟨takeAt_dig a1 _ _, by rw [takeAt_length, a2], ?_⟩
  rw [takeAt_val cur pl _ (by omega)]
  exact a3
/-- the last borrow finds a limb -/
theorem TakeR.room {xs ys : List Int} {f : Int} {sh pl : Nat} {cur : List Int} {br : Int} (h : TakeR xs ys f sh ys.length pl cur br) (hle : f * bp sh * nval ys ≤ nval xs) (hb : 0 < br) : pl < xs.length := by
  obtain ⟨a1, a2, a3⟩ := h
  rw [List.take_of_length_le (Nat.le_refl _)] at a3
  rcases Nat.lt_or_ge pl xs.length with h | h
  · exact h
  · have h1 := nval_lt cur a1
    have h2 := bp_mono (show cur.length ≤ pl by omega)
    have h3 := bp_pos pl
    have h4 := Int.mul_le_mul_of_nonneg_right (show 1 ≤ br by omega) (show 0 ≤ bp pl by omega)
    omega
theorem TakeR.done {xs ys : List Int} {f : Int} {sh pl : Nat} {cur : List Int} (h : TakeR xs ys f sh ys.length pl cur 0) : trimL cur = limbs (nval xs - f * bp sh * nval ys).toNat := by
  obtain ⟨a1, a2, a3⟩ := h
  rw [List.take_of_length_le (Nat.le_refl _), Int.zero_mul] at a3
  rw [trim_limbs cur a1]
  congr 2
  omega

end Go.Proofs.Ytofehcpapdlcnaa
