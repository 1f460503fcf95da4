/-
  Divide, DivDoorImpl, RatImpl, RoundImpl, DecImpl4, DecImpl5, PctI, Law, SignedArg, DecArg
-/
import Derived.Deep.RegionHeld3
import Derived.Shelf.Abstract
import Derived.Test.YtofehcpapdlcnaaGreatDoorRows
import Derived.WalkKit
import Derived.ProofKit
import Derived.OpenShut
import Derived.JoinedCond
import Derived.Lib.SmallJoins
import Derived.ChangeArms
import Derived.Test.YtofehcpapdlcnaaGreatDoorJP6
namespace Go.Proofs.YtofehcpapdlcnaaGreatDoor
open Go.RowKit

/-- a number without zeros at its end -/
def Trim (xs : List Int) : Prop := DigN xs ∧ xs.getLastD 1 ≠ 0
theorem limbs_trim (n : Nat) : Trim (limbs n) := ⟨limbs_digN n, limbs_lastN n⟩
theorem Trim.drop {xs : List Int} (h : Trim xs) (k : Nat) : Trim (xs.drop k) := by
  refine ⟨h.1.drop k, ?_⟩
  rcases Nat.lt_or_ge k xs.length with hk | hk
  · have h2 := h.2
    rw [List.getLastD_eq_getLast?, List.getLast?_eq_getElem?, List.getElem?_drop]
    rw [List.getLastD_eq_getLast?, List.getLast?_eq_getElem?] at h2
    rw [List.length_drop, show k + (xs.length - k - 1) = xs.length - 1 by omega]
    exact h2
  · rw [List.drop_of_length_le hk]
    decide
theorem nval_shift {xs : List Int} (h : DigN xs) (k : Nat) : nval (xs.drop k) = nval xs / bp k := by
  have h1 := nval_split xs k
  have hp := bp_pos k
  have h2 := nval_nonneg _ (h.take k)
  have h3 : nval (xs.take k) < bp k := by
    have h4 := nval_lt _ (h.take k)
    have h5 := bp_mono (show (xs.take k).length ≤ k by rw [List.length_take]; omega)
    omega
  rw [h1, Int.add_mul_ediv_left _ _ (by omega), Int.ediv_eq_zero_of_lt h2 h3, Int.zero_add]
/-- whether the divisor, shifted, goes into the number -/
def holdsB (N Y : Int) (sh : Nat) : Bool := decide (Y * bp sh ≤ N)
theorem holds_iff (N Y : Int) (sh : Nat) : Y * bp sh ≤ N ↔ Y ≤ N / bp sh := (Int.le_ediv_iff_mul_le (bp_pos sh)).symm

theorem drop_row {w : World} {lo hi : Nat} {A : Option Addr} {n c : Nat} {xs : List Value} (h : Row w lo hi (.slice A n c) xs) (k : Nat) (_hk : k ≤ xs.length) : n = xs.length ∧ Row w lo hi (.slice (A.map (·.add k)) (n - k) (c - k)) (xs.drop k) := by
  obtain ⟨A', c', e, h⟩ := h
  injection e with e1 e2 e3
  subst e1 e2 e3
  refine ⟨rfl, A.map (·.add k), _, by rw [List.length_drop], fun j u hj => ?_⟩
  rw [List.getElem?_drop] at hj
  obtain ⟨a, rfl, h1, h2, h3⟩ := h _ _ hj
  refine ⟨_, rfl, by rw [block_add]; exact h1, by rw [block_add]; exact h2, ?_⟩
  rw [← h3]
  congr 1
  unfold Addr.add
  by_cases hk0 : k = 0 <;> by_cases hj0 : j = 0 <;> simp_all [Nat.add_assoc]

set_option maxHeartbeats 1000000 in
set_option maxRecDepth 100000 in
theorem holds_any (b : Nat) (v : Value) (cur : List Int) (vy : Value) (ys : List Int) (lo hi lo2 hi2 : Nat) (sh : Nat) (w : World) (hcl : cur.length ≤ 1048576) (hyl : ys.length ≤ 1048576) (hsh : sh ≤ 1048576)
    (hc : Trim cur) (hy : Trim ys) (hy0 : 0 < ys.length) (hv : w.cell? ⟨b, 0, none⟩ = some v) (hrc : Row w lo2 hi2 v (intsV cur)) (hcap : ∀ A n c, v = .slice A n c → n ≤ c) (hry : Row w lo hi vy (intsV ys)) :
    Calls Tryz.prog 252 #[.pointer (some ⟨b, 0, none⟩), vy, .int .i64 sh] w fun e w' => e = .returned (.bool (holdsB (nval cur) (nval ys) sh)) ∧ ∃ q, w.drewN q = w' := by
  have hcell := hrc
  obtain ⟨A, c, rfl, hA⟩ := hcell
  have hcp := hcap _ _ _ rfl
  rw [intsV_length] at hrc hv hcp
  clear hA hcap
  by_cases hs : sh < cur.length
  · obtain ⟨-, hd⟩ := drop_row hrc sh (by rw [intsV_length]; omega)
    rw [show (intsV cur).drop sh = intsV (cur.drop sh) by simp [intsV]] at hd
    obtain ⟨a, rfl⟩ : ∃ a, A = some a := by
      obtain ⟨A', c', e, hA⟩ := hrc
      obtain ⟨a, e2, _⟩ := hA 0 _ (intsV_at cur 0 (by omega))
      injection e with e1
      exact ⟨a, e1.trans e2⟩
    have HV := Lib.hid (show holdsB (nval cur) (nval ys) sh = decide (0 ≤ cmpI (nval (cur.drop sh)) (nval ys)) by
      unfold holdsB
      rw [nval_shift hc.1, Bool.eq_iff_iff, decide_eq_true_eq, decide_eq_true_eq, holds_iff]
      unfold cmpI
      constructor
      · intro h; rw [if_neg (by omega)]; split <;> omega
      · intro h
        by_cases hlt : nval cur / bp sh < nval ys
        · rw [if_pos hlt] at h; omega
        · omega)
    have hcm : cmpI (nval (cur.drop sh)) (nval ys) = -1 ∨ cmpI (nval (cur.drop sh)) (nval ys) = 0 ∨ cmpI (nval (cur.drop sh)) (nval ys) = 1 := by unfold cmpI; split; exact .inl rfl; split; exact .inr (.inr rfl); exact .inr (.inl rfl)
    go_enter Tryz.func252, Tryz.ntmps252
    go_wp2_with fail
    refine (compareLimbs_any _ vy (cur.drop sh) ys _ _ _ _ _ (by rw [List.length_drop]; omega) (by omega) (hc.drop sh) hy hd hry).mono ?_
    rintro e w1 ⟨rfl, q, rfl⟩
    have HV2 := HV.out
    generalize cmpI (nval (cur.drop sh)) (nval ys) = z at *
    go_wp2
    go_ret
    exact ⟨ret_bool HV.out.symm, q, rfl⟩
  · have HV := Lib.hid (show holdsB (nval cur) (nval ys) sh = false by
      unfold holdsB
      rw [decide_eq_false_iff_not]
      intro h
      have h1 := nval_lt cur hc.1
      have h2 := bp_mono (show cur.length ≤ sh by omega)
      have h3 := nval_ge ys hy.1 hy.2 hy0
      have h4 := Int.mul_le_mul_of_nonneg_right (show 1 ≤ nval ys by have := bp_pos (ys.length - 1); omega) (show 0 ≤ bp sh by have := bp_pos sh; omega)
      omega)
    go_enter Tryz.func252, Tryz.ntmps252
    go_wp2
    go_ret
    exact ⟨ret_bool HV.out.symm, 0, rfl⟩

theorem NatOn.reads {T : List Nat} {b : Nat} {xs : List Int} {w : World} (h : NatOn T b xs w) : ∃ v, w.cell? ⟨b, 0, none⟩ = some v ∧ Row w 0 w.heap.size v (intsV xs) ∧ (∀ A n c, v = .slice A n c → n ≤ c) := by
  obtain ⟨v, hb, ho, _, _⟩ := h
  refine ⟨v, by rw [Lib.cell_of_heap hb]; rfl, Row.of_own ho, ?_⟩
  rintro A n c rfl
  rcases ho.2 with ⟨h1, h2⟩ | ⟨g, cap, cur, e1, _, _, hn, _⟩
  · injection h1 with h3 h4 h5; omega
  · injection e1 with h3 h4 h5; omega
theorem NatOn.drewN {T : List Nat} {b : Nat} {xs : List Int} {w : World} (h : NatOn T b xs w) (q : Nat) : NatOn T b xs (w.drewN q) := h
theorem Kept.drewN {T : List Nat} {b : Nat} {xs : List Int} {w w' : World} (h : Kept T b xs w w') (q : Nat) : Kept T b xs w (w'.drewN q) := ⟨h.1, ⟨h.2.os, h.2.tape, h.2.output, h.2.size, h.2.block⟩⟩
theorem limbs_small (m n : Int) (h0 : 0 ≤ m) (h : m ≤ n) (k : Nat) (hk : (limbs n.toNat).length ≤ k) : (limbs m.toNat).length ≤ k := Nat.le_trans (limbs_mono h0 h) hk
/-- where the divisor goes in, the number is long enough -/
theorem holds_long {N : Int} {ys : List Int} {sh : Nat} (hN : 0 ≤ N) (hy : Trim ys) (hy0 : 0 < ys.length) (h : nval ys * bp sh ≤ N) : sh + ys.length ≤ (limbs N.toNat).length := by
  have h1 := nval_lt _ (limbs_digN N.toNat)
  rw [limbs_toNat N hN] at h1
  have h2 := nval_ge ys hy.1 hy.2 hy0
  have h3 := Int.mul_le_mul_of_nonneg_right h2 (show 0 ≤ bp sh by have := bp_pos sh; omega)
  rw [← bp_add] at h3
  rcases Nat.lt_or_ge (limbs N.toNat).length (sh + ys.length) with hl | hl
  · have := bp_mono (show (limbs N.toNat).length ≤ ys.length - 1 + sh by omega)
    omega
  · exact hl
/-- one round of takeMost -/
theorem most_next {N0 N t D g : Int} (hD : 0 < D) (h0 : N0 < 1000000000 * D) (hN : N = N0 - t * D) (hg : g * D ≤ N) (_ht : 0 ≤ t) : t + g < 1000000000 ∧ N - g * D = N0 - (t + g) * D ∧ 0 ≤ N - g * D := by
  have e : (t + g) * D = t * D + g * D := Int.add_mul _ _ _
  refine ⟨factor_lt hD (N := N0) (by omega) h0, by omega, by omega⟩
theorem most_done {N0 N t D : Int} (hD : 0 < D) (hN : N = N0 - t * D) (h0 : 0 ≤ N) (h1 : N < D) : t = N0 / D ∧ N = N0 % D := by
  have e : N0 = N + t * D := by omega
  rw [e, Int.add_mul_ediv_right _ _ (by omega), Int.ediv_eq_zero_of_lt h0 h1, Int.add_mul_emod_self_right, Int.emod_eq_of_lt h0 h1]
  exact ⟨by omega, rfl⟩

set_option maxHeartbeats 1000000 in
set_option maxRecDepth 100000 in
theorem takeMost_on (T S : List Nat) (b : Nat) (xs : List Int) (vy : Value) (ys : List Int) (lo hi sh : Nat) (w : World) (hxl : xs.length ≤ 1048576) (hyl : ys.length ≤ 1048576) (hsh : sh ≤ 1048576)
    (hx : Trim xs) (hy : Trim ys) (hy0 : 0 < ys.length) (hN : nval xs < 1000000000 * (nval ys * bp sh)) (hST : ∀ g ∈ S, g ∉ T) (hr : At S (fun w => Row w lo hi vy (intsV ys)) w) (h : NatOn T b xs w) :
    Calls Tryz.prog 232 #[.pointer (some ⟨b, 0, none⟩), vy, .int .i64 sh] w fun e w' =>
      e = .returned (.int .i64 (nval xs / (nval ys * bp sh))) ∧ Kept T b (limbs (nval xs % (nval ys * bp sh)).toNat) w w' := by
  have hx0 := nval_nonneg xs hx.1
  have hxe : xs = limbs (nval xs).toNat := by rw [← trim_limbs xs hx.1, trim_last xs hx.2]
  have hy1 := nval_ge ys hy.1 hy.2 hy0
  have hD : 0 < nval ys * bp sh := Int.mul_pos (by have := bp_pos (ys.length - 1); omega) (bp_pos sh)
  rw [hxe] at h hxl
  have HST := Lib.hid hST
  have HR0 := Lib.hid hr
  have HY := Lib.hid hy
  have HY0 := Lib.hid hy0
  have HN := Lib.hid hN
  have HD := Lib.hid hD
  have HX := Lib.hid hx0
  have HXL := Lib.hid hxl
  clear hx hy hN hST hr hxe hx0 hD hy1 hy0 hxl
  generalize nval xs = N0 at *
  go_enter Tryz.func232, Tryz.ntmps232
  go_wp2
  go_loopg [7] N0.toNat (fun n t wr => ∃ (N tt : Int), t = .int .i64 tt ∧ 0 ≤ tt ∧ tt ≤ 999999999 ∧ Hid (n = N.toNat ∧ 0 ≤ N ∧ N ≤ N0 ∧ N = N0 - tt * (nval ys * bp sh)) ∧ Kept T b (limbs N.toNat) w wr)
  case atStart => exact ⟨N0, 0, rfl, by omega, by omega, Lib.hid ⟨rfl, HX.out, Int.le_refl _, by omega⟩, h, Chg.refl _ _⟩
  case round =>
    obtain ⟨N, tt, rfl, ht0, ht1, HI, hat⟩ := hrel
    obtain ⟨v, hv, hrc, hcp⟩ := NatOn.reads hat.1
    have hrow := HR0.out.chg hat.2 HST.out
    have hlen := limbs_small N N0 HI.out.2.1 HI.out.2.2.1 _ HXL.out
    have hnv := limbs_toNat N HI.out.2.1
    by_cases hge : nval ys * bp sh ≤ N
    · have HB := Lib.hid (show holdsB (nval (limbs N.toNat)) (nval ys) sh = true by unfold holdsB; rw [hnv]; exact decide_eq_true hge)
      have hgl := guess_le (limbs_digN N.toNat) HY.out.1 HY0.out sh
      have hg0 := guess_nonneg (limbs_digN N.toNat) HY.out.1 sh
      rw [hnv] at hgl
      have HNB := Lib.hid (show nval (limbs N.toNat) < 1000000000 * (nval ys * bp sh) by rw [hnv]; have := HN.out; have := HI.out.2.2.1; omega)
      have HLL := Lib.hid (holds_long HI.out.2.1 HY.out HY0.out hge)
      have hmax : max 1 (guessN (limbs N.toNat) ys sh) * (nval ys * bp sh) ≤ N := by
        rcases Int.le_total 1 (guessN (limbs N.toNat) ys sh) with h1 | h1
        · rw [Int.max_eq_right h1]; exact hgl
        · rw [Int.max_eq_left h1]; omega
      have hm1 : 1 ≤ max 1 (guessN (limbs N.toNat) ys sh) := Int.le_max_left _ _
      have hnext := most_next HD.out HN.out HI.out.2.2.2 hmax ht0
      have hmle : max 1 (guessN (limbs N.toNat) ys sh) ≤ 999999999 := by have := hnext.1; omega
      have HM := Lib.hid hmax
      have HNX := Lib.hid hnext
      have htm : tt + max 1 (guessN (limbs N.toNat) ys sh) ≤ 999999999 := by have := hnext.1; omega
      clear hge hgl hmax hnext
      go_wp2_with fail
      refine (holds_any b v _ vy ys _ _ _ _ sh _ hlen hyl hsh (limbs_trim _) HY.out HY0.out hv hrc hcp hrow.here).mono ?_
      rintro e w1 ⟨rfl, q1, rfl⟩
      rw [HB.out]
      go_wp2_with fail
      refine (guess_any b v _ vy ys _ _ _ _ sh (wr.drewN q1) hlen hyl hsh (limbs_digN _) HY.out.1 HY0.out HY.out.2 HNB.out hv (hrc.drewN _) (hrow.here.drewN _)).mono ?_
      rintro e w1 ⟨rfl, q2, rfl⟩
      generalize guessN (limbs N.toNat) ys sh = gz at *
      go_wp2_with fail
      clear hg0
      generalize max 1 gz = g at *
      have hle : g * bp sh * nval ys ≤ nval (limbs N.toNat) := by
        rw [hnv, Int.mul_assoc, Int.mul_comm (bp sh)]
        exact HM.out
      refine (takeTimes_on T S b (limbs N.toNat) vy ys lo hi g sh (wr.drewN (q1 + q2)) hlen HLL.out (by omega) (by omega) (limbs_digN _) HY.out.1 hle HST.out (hrow.drewN _) hat.1).mono ?_
      rintro e w1 ⟨rfl, hat1⟩
      rw [hnv, Int.mul_assoc, Int.mul_comm (bp sh)] at hat1
      have HK := Lib.hid (show Kept T b (limbs (N - g * (nval ys * bp sh)).toNat) w w1 from (hat.drewN (q1 + q2)).trans hat1)
      have hpos : 1 * (nval ys * bp sh) ≤ g * (nval ys * bp sh) := Int.mul_le_mul_of_nonneg_right hm1 (by have := HD.out; omega)
      have HP := Lib.hid hpos
      clear hpos hle hat1 hlen hnv hv hrc hcp hrow
      go_wp2_with fail
      go_roundg (N - g * (nval ys * bp sh)).toNat
      case measure =>
        have h1 := HI.out.1
        have h2 := HP.out
        have h3 := HD.out
        have h4 := HNX.out.2.2
        omega
      case rel => exact ⟨N - g * (nval ys * bp sh), tt + g, rfl, by omega, htm, Lib.hid ⟨rfl, HNX.out.2.2, by have := HI.out.2.2.1; have := HP.out; have := HD.out; omega, HNX.out.2.1⟩, HK.out⟩
    · have HB := Lib.hid (show holdsB (nval (limbs N.toNat)) (nval ys) sh = false by unfold holdsB; rw [hnv]; exact decide_eq_false hge)
      have HE := Lib.hid (most_done HD.out HI.out.2.2.2 HI.out.2.1 (by omega))
      clear hge
      go_wp2_with fail
      refine (holds_any b v _ vy ys _ _ _ _ sh _ hlen hyl hsh (limbs_trim _) HY.out HY0.out hv hrc hcp hrow.here).mono ?_
      rintro e w1 ⟨rfl, q1, rfl⟩
      rw [HB.out]
      go_wp2_with fail
      go_ret
      exact ⟨ret_int HE.out.1, by rw [← HE.out.2]; exact hat.drewN q1⟩

theorem NatAt.chg {T : List Nat} {B b : Nat} {xs : List Int} {w w' : World} (h : NatAt B b xs w) (c : Chg T w w') (hT : ∀ g ∈ T, g < B) : NatAt B b xs w' := by
  obtain ⟨U, hU, hB⟩ := h.on
  exact (hU.at_.chg c (fun g hg hm => by have := hB g hg; have := hT g hm; omega)).here.natAt hB
theorem NatOn.belowB {T : List Nat} {B b : Nat} {xs : List Int} {w w' : World} (h : NatOn T b xs w) (hb : Below B w w') (hT : ∀ g ∈ T, g < B) : NatOn T b xs w' :=
  (h.at_.move (fun g hg => hb.block g (hT g hg)) hb.size).here
theorem chg_below {T : List Nat} {w w1 w2 : World} (c : Chg T w w1) (hb : Below w.heap.size w1 w2) : Chg T w w2 :=
  ⟨hb.os.trans c.os, hb.tape.trans c.tape, hb.output.trans c.output, Nat.le_trans c.size hb.size, fun i hi hn => (hb.block i hi).trans (c.block i hi hn)⟩

/-- a long division that has come down to place k -/
def DivideR (X Y : Int) (M k : Nat) (N : Int) (qs : List Int) : Prop :=
  0 ≤ N ∧ N ≤ X ∧ N < Y * bp k ∧ X = N + Y * nval qs ∧ DigN qs ∧ qs.length ≤ M ∧ ∀ j, j < k → qs.getD j 0 = 0
theorem DivideR.start {xs ys : List Int} (hx : Trim xs) (hy : Trim ys) (hy0 : 0 < ys.length) (M : Nat) : DivideR (nval xs) (nval ys) M ((xs.length : Int) - (ys.length : Int) + 1).toNat (nval xs) [] := by
  have h1 := nval_lt xs hx.1
  have h2 := nval_ge ys hy.1 hy.2 hy0
  refine ⟨nval_nonneg xs hx.1, Int.le_refl _, ?_, (by show _ = _ + nval ys * 0; rw [Int.mul_zero, Int.add_zero]), (fun d hd => by cases hd), Nat.zero_le _, fun j _ => by simp⟩
  generalize hk : ((xs.length : Int) - (ys.length : Int) + 1).toNat = k
  have h3 := Int.mul_le_mul_of_nonneg_right h2 (show 0 ≤ bp k by have := bp_pos k; omega)
  rw [← bp_add] at h3
  have h4 := bp_mono (show xs.length ≤ ys.length - 1 + k by omega)
  omega
theorem getD_set_other (xs : List Int) (p j : Nat) (d : Int) (h : j ≠ p) : (xs.set p d).getD j 0 = xs.getD j 0 := by
  rw [List.getD_eq_getElem?_getD, List.getElem?_set_ne (Ne.symm h), List.getD_eq_getElem?_getD]
theorem getD_pad (xs : List Int) (n j : Nat) : (padL xs n).getD j 0 = xs.getD j 0 := by
  unfold padL
  rw [List.getD_eq_getElem?_getD, List.getD_eq_getElem?_getD]
  rcases Nat.lt_or_ge j xs.length with h | h
  · rw [List.getElem?_append_left h]
  · rw [List.getElem?_append_right h, List.getElem?_replicate, List.getElem?_eq_none h]
    split <;> rfl
theorem DivideR.next {X Y : Int} {M k : Nat} {N : Int} {qs : List Int} (h : DivideR X Y M (k + 1) N qs) (hY : 0 < Y) (hM : k < M) :
    0 ≤ N / (Y * bp k) ∧ N / (Y * bp k) ≤ 999999999 ∧ DivideR X Y M k (N % (Y * bp k)) (addAtL qs k (N / (Y * bp k))) := by
  obtain ⟨h0, hX, h1, h2, h3, h4, h5⟩ := h
  have hD : 0 < Y * bp k := Int.mul_pos hY (bp_pos k)
  have hq0 : 0 ≤ N / (Y * bp k) := Int.ediv_nonneg h0 (by omega)
  have hr0 := Int.emod_nonneg N (show Y * bp k ≠ 0 by omega)
  have hr1 := Int.emod_lt_of_pos N hD
  have he := Int.emod_add_mul_ediv N (Y * bp k)
  rw [bp_succ, Int.mul_left_comm] at h1
  have hq1 : N / (Y * bp k) < 1000000000 := Int.ediv_lt_of_lt_mul hD h1
  have hg := h5 k (Nat.lt_succ_self _)
  have hC : addAtC qs k (N / (Y * bp k)) = 0 := by unfold addAtC; rw [hg]; omega
  have hv := addAt_val qs k (N / (Y * bp k))
  rw [hC, Int.zero_mul, Int.add_zero] at hv
  refine ⟨hq0, by omega, hr0, ?_, hr1, ?_, addAt_dig h3 _ _, by rw [addAt_length]; omega, ?_⟩
  · have := Int.mul_nonneg (show 0 ≤ Y * bp k by omega) hq0
    omega
  · rw [hv, Int.mul_add, h2]
    have e : Y * (N / (Y * bp k) * bp k) = Y * bp k * (N / (Y * bp k)) := by rw [Int.mul_comm (N / (Y * bp k)), Int.mul_assoc]
    rw [e]
    omega
  · intro j hj
    unfold addAtL
    rw [getD_set_other _ _ _ _ (by omega), getD_pad]
    exact h5 j (by omega)
theorem DivideR.done {X Y : Int} {M : Nat} {N : Int} {qs : List Int} (h : DivideR X Y M 0 N qs) (hY : 0 < Y) : N = X % Y ∧ trimL qs = limbs (X / Y).toNat := by
  obtain ⟨h0, hX, h1, h2, h3, _, _⟩ := h
  have h1' : N < Y := by rw [show bp 0 = 1 from rfl, Int.mul_one] at h1; exact h1
  rw [trim_limbs qs h3, h2, Int.add_mul_ediv_left _ _ (by omega), Int.ediv_eq_zero_of_lt h0 h1', Int.zero_add, Int.add_mul_emod_self_left, Int.emod_eq_of_lt h0 h1']
  exact ⟨rfl, rfl⟩

/-- what divide leaves: the quotient, new; the rest in the number itself -/
def DividePost (T : List Nat) (b : Nat) (X Y : Int) (w : World) (e : Ending) (w' : World) : Prop :=
  ∃ v, e = .returned (.tuple #[v, .nilIface]) ∧ w'.ownsRow w.heap.size 3 1 v (limbs (X / Y).toNat).length (intsV (limbs (X / Y).toNat)) ∧ Kept T b (limbs (X % Y).toNat) w w'

set_option maxHeartbeats 1000000 in
set_option maxRecDepth 100000 in
theorem divide_on (T S : List Nat) (b : Nat) (xs : List Int) (vy : Value) (ys : List Int) (lo hi : Nat) (w : World) (hxl : xs.length ≤ 300000) (hyl : ys.length ≤ 300000)
    (hx : Trim xs) (hy : Trim ys) (hy0 : 0 < ys.length) (hST : ∀ g ∈ S, g ∉ T) (hr : At S (fun w => Row w lo hi vy (intsV ys)) w) (h : NatOn T b xs w) :
    Calls Tryz.prog 211 #[.pointer (some ⟨b, 0, none⟩), vy] w (DividePost T b (nval xs) (nval ys) w) := by
  have hxe : xs = limbs (nval xs).toNat := by rw [← trim_limbs xs hx.1, trim_last xs hx.2]
  have hY : 0 < nval ys := by have := nval_ge ys hy.1 hy.2 hy0; have := bp_pos (ys.length - 1); omega
  have hz : ((ys.length : Int) == 0) = false := by rw [beq_eq_false_iff_ne]; omega
  have HST := Lib.hid hST
  have HR0 := Lib.hid hr
  have HY := Lib.hid hy
  have HY0 := Lib.hid hy0
  have HYP := Lib.hid hY
  have hTlt : ∀ g ∈ T, g < w.heap.size := h.at_.lt
  have HTL := Lib.hid hTlt
  have hbl := h.lt
  obtain ⟨v0, hv0, hrc0, hcp0⟩ := NatOn.reads h
  obtain ⟨A0, c0, rfl, _⟩ := hrc0
  rw [intsV_length] at hv0
  have hvy := hr.here
  obtain ⟨A, c, rfl, _⟩ := hvy
  rw [intsV_length] at HR0 ⊢
  have HS := Lib.hid (DivideR.start hx hy hy0 (max xs.length 1))
  have HX0 := Lib.hid (show NatOn T b (limbs (nval xs).toNat) w by rw [← hxe]; exact h)
  have HXL := Lib.hid (show (limbs (nval xs).toNat).length ≤ 300000 by rw [← hxe]; exact hxl)
  clear hx hy hST hr hxe h hcp0 hY hTlt hy0
  go_enter Tryz.func211, Tryz.ntmps211
  have hva : ∀ o, (w.alloc o).cell? ⟨b, 0, none⟩ = some (.slice A0 xs.length c0) := fun o => (World.cell?_alloc_past _ _ _ hbl).trans hv0
  go_wp2
  go_loopw [7] (fun s wr => ∃ (z N : Int) (qs : List Int), s = .int .i64 z ∧ -300000 ≤ z ∧ z + 1 ≤ max xs.length 1 ∧ Hid (DivideR (nval xs) (nval ys) (max xs.length 1) (z + 1).toNat N qs) ∧ NatOn T b (limbs N.toNat) wr ∧ NatAt w.heap.size w.heap.size qs wr ∧ Chg T w wr) (fun s _ => (intOf s + 1).toNat)
  case atStart =>
    refine ⟨_, _, [], rfl, by omega, by have := HY0.out; omega, HS, ?_, NatAt.new (Nat.le_refl _) (World.ownsRow_nil _ _ _ _), Chg.of_below ((Below.refl _ _).alloc (Nat.le_refl _) _)⟩
    exact (HX0.out.at_.below ((Below.refl _ _).alloc (Nat.le_refl _) _)).here
  case round =>
    obtain ⟨z, N, qs, rfl, hz0, hz1, HD, hat, hq, hc⟩ := hrel
    by_cases hge : 0 ≤ z
    · obtain ⟨k, rfl⟩ := Int.eq_ofNat_of_zero_le hge
      have hk1 : ((k : Int) + 1).toNat = k + 1 := by omega
      rw [hk1] at HD
      obtain ⟨hq0, hq1, hnext⟩ := HD.out.next HYP.out (by omega)
      have HN := Lib.hid hnext
      have hN0 := HD.out.1
      have hnv := limbs_toNat N hN0
      have HNB := Lib.hid (show nval (limbs N.toNat) < 1000000000 * (nval ys * bp k) by
        rw [hnv]
        have := HD.out.2.2.1
        rw [bp_succ, Int.mul_left_comm] at this
        exact this)
      have hlen := limbs_small N (nval xs) hN0 HD.out.2.1 _ HXL.out
      have hqsl := HD.out.2.2.2.2.2.1
      have HDQ := Lib.hid HD.out.2.2.2.2.1
      have hrow := HR0.out.chg hc HST.out
      clear hge hnext hk1
      go_wp2_with fail
      refine (takeMost_on T S b (limbs N.toNat) _ ys lo hi k wr (by omega) (by omega) (by omega) (limbs_trim _) HY.out HY0.out HNB.out HST.out hrow hat).mono ?_
      rintro e w1 ⟨rfl, hat1⟩
      rw [hnv] at hat1 ⊢
      have hqa := hq.chg hat1.2 HTL.out
      have hc1 := hc.trans hat1.2
      have hon1 := hat1.1
      have HKI := Lib.hid (show (((k : Nat) : Int) - 1 + 1).toNat = k by omega)
      generalize N / (nval ys * bp k) = q at *
      generalize N % (nval ys * bp k) = N' at *
      clear hat1 hat hq hc hrow hnv hN0
      go_wp2_with fail
      refine (addAt_any w.heap.size w.heap.size qs k q _ (by omega) (by omega) hq0 (by omega) HDQ.out hqa).mono ?_
      rintro e w2 ⟨rfl, hq2, hb2⟩
      have hon2 := NatOn.belowB hon1 hb2 HTL.out
      have hc2 := chg_below hc1 hb2
      clear hqa hon1 hc1
      go_wp2
      go_roundw
      case rel => exact ⟨(k : Int) - 1, N', _, rfl, by omega, by omega, by rw [HKI.out]; exact HN, hon2, hq2, hc2⟩
      case measure => simp [intOf]
    · have HE := Lib.hid (show (z + 1).toNat = 0 by omega)
      rw [HE.out] at HD
      have HF := Lib.hid (HD.out.done HYP.out)
      have hqsl := HD.out.2.2.2.2.2.1
      go_wp2_with fail
      refine (natTrim_any w.heap.size w.heap.size qs _ (by omega) hq).mono ?_
      rintro e w1 ⟨rfl, hq1, hb1⟩
      have hon1 := NatOn.belowB hat hb1 HTL.out
      have hc1 := chg_below hc hb1
      rw [HF.out.2] at hq1
      obtain ⟨_, v, hvb, hown, _⟩ := hq1
      have hcv : w1.cell? ⟨w.heap.size, 0, none⟩ = some v := by rw [Lib.cell_of_heap hvb]; rfl
      have HO := Lib.hid hown
      have HB := Lib.hid hvb
      clear hvb hown
      go_wp2
      go_ret2
      exact ⟨v, rfl, HO.out, by rw [← HF.out.1]; exact hon1, hc1⟩
set_option maxHeartbeats 400000 in
set_option maxRecDepth 100000 in
theorem divide_zero (b : Nat) (A : Option Addr) (c : Nat) (x : Value) (w : World) (hs : w.cell? ⟨0, 0, none⟩ = some x) :
    Calls Tryz.prog 211 #[.pointer (some ⟨b, 0, none⟩), .slice A 0 c] w fun e w' => e = .returned (.tuple #[.slice none 0 0, x]) ∧ ∃ q, w.drewN q = w' := by
  go_enter Tryz.func211, Tryz.ntmps211
  go_wp2
  go_quiet (fail)
  go_wp2
  go_ret2
  exact ⟨rfl, _, rfl⟩
/-- the limbs' row with the blocks on which it leans -/
theorem NatOn.rowAt {T : List Nat} {b : Nat} {xs : List Int} {w : World} (h : NatOn T b xs w) : ∃ v, w.cell? ⟨b, 0, none⟩ = some v ∧ At T (fun w' => Row w' 0 w.heap.size v (intsV xs)) w := by
  have hat := h.at_
  obtain ⟨v, hb, ho, _, rfl⟩ := h
  refine ⟨v, by rw [Lib.cell_of_heap hb]; rfl, Row.of_own ho, hat.lt, fun w' hk => ?_⟩
  have hr := Row.of_own ho
  obtain ⟨_, ⟨rfl, _⟩ | ⟨g, cap, cur, rfl, _⟩⟩ := ho
  · obtain ⟨A, c, e, h⟩ := hr
    injection e with e1 e2 e3
    subst e1
    refine ⟨none, c, by rw [← e2, ← e3], fun j u hj => ?_⟩
    obtain ⟨a, e4, _⟩ := h j u hj
    cases e4
  · obtain ⟨A, c, e, h⟩ := hr
    injection e with e1 e2 e3
    subst e1
    refine ⟨some ⟨g, 0, none⟩, c, by rw [← e2, ← e3], fun j u hj => ?_⟩
    obtain ⟨a, e4, k1, k2, k3⟩ := h j u hj
    cases e4
    refine ⟨_, rfl, k1, k2, ?_⟩
    rw [← k3]
    have hg := hk g (by simp [Value.ownBlock])
    unfold World.cell?
    rw [block_add, hg]
end Go.Proofs.YtofehcpapdlcnaaGreatDoor

namespace Go.Proofs.YtofehcpapdlcnaaGreatDoor
open Go.RowKit

theorem Below.of_chg {T : List Nat} {B : Nat} {w w1 w2 : World} (hb : Below B w w1) (c : Chg T w1 w2) (hB : B ≤ w1.heap.size) (hT : ∀ g ∈ T, B ≤ g) : Below B w w2 := below_chg hb c hB hT
theorem ok_trim {xs : List Int} (h : natOkB xs = true) : Trim xs := ok_dig h
/-- a row at hand, with blocks below B -/
theorem Row.onB {w : World} {lo hi B : Nat} {v : Value} {xs : List Value} (h : Row w lo hi v xs) (hB : hi ≤ B) : ∃ S, At S (fun w => Row w lo hi v xs) w ∧ ∀ g ∈ S, g < B := by
  obtain ⟨S, h1, h2⟩ := h.on
  exact ⟨S, h1, fun g hg => by have := (h2 g hg).2; omega⟩

set_option maxHeartbeats 1000000 in
set_option maxRecDepth 100000 in
theorem implNatDiv_any (va vb : Value) (a b : List Int) (la ha lb hb_ : Nat) (w : World) (hal : a.length ≤ 1048576) (hbl : b.length ≤ 1048576) (_hha : ha ≤ w.heap.size) (hhb : hb_ ≤ w.heap.size)
    (hra : Row w la ha va (intsV a)) (hrb : Row w lb hb_ vb (intsV b)) (hs : Sen w) :
    Calls Tryz.prog 179 #[va, vb] w (TwoRows (divN a b).1 (divN a b).2 w) := by
  by_cases oa : natOkB a = true
  · by_cases ob : natOkB b = true
    · have ha50 := (natOk_parts oa).2.1
      have hb50 := (natOk_parts ob).2.1
      have OA := Lib.hid oa
      have OB := Lib.hid ob
      by_cases h0 : 0 < b.length
      · have HV := Lib.hid (show divN a b = (limbs (nval a / nval b).toNat, limbs (nval a % nval b).toNat) by unfold divN; rw [if_pos ⟨oa, ob, h0⟩])
        have H0 := Lib.hid h0
        clear h0
        go_enter Tryz.func179, Tryz.ntmps179
        go_wp2_with fail
        refine (implNatOk_same va a la ha _ (by omega) hra).mono ?_
        rintro e w' ⟨rfl, rfl⟩
        rw [oa]
        go_wp2_with fail
        refine (implNatOk_same vb b lb hb_ _ (by omega) hrb).mono ?_
        rintro e w' ⟨rfl, rfl⟩
        rw [ob]
        clear oa ob
        go_wp2_with fail
        refine (copyNat_any va a la ha _ hal hra).mono ?_
        rintro e w1 ⟨bn, rfl, hat, b1⟩
        obtain ⟨T, hT, hTB⟩ := hat.on
        obtain ⟨S, hS, hSB⟩ := (hrb.below b1 hhb).onB hhb
        have hTlt := hT.at_.lt
        have HTB := Lib.hid hTB
        have HTL := Lib.hid hTlt
        have hst : ∀ g ∈ S, g ∉ T := fun g hg hm => by have := hSB g hg; have := hTB g hm; omega
        have HST := Lib.hid hst
        clear hSB hTB hst hTlt
        go_wp2_with fail
        refine (divide_on T S bn a vb b lb hb_ _ (by omega) (by omega) (ok_trim OA.out) (ok_trim OB.out) H0.out HST.out hS hT).mono ?_
        rintro e w2 ⟨v2, rfl, o2, hk2⟩
        have b2 : Below w.heap.size w w2 := Below.of_chg b1 hk2.2 b1.size HTB.out
        obtain ⟨es, hes⟩ := hs.below b2
        go_wp2_with fail
        refine (is_nil es _).mono ?_
        rintro e w' ⟨rfl, rfl⟩
        have hon := hk2.1
        obtain ⟨v3, hb3, o3, _, hTe⟩ := hon
        have hc3 : w2.cell? ⟨bn, 0, none⟩ = some v3 := by rw [Lib.cell_of_heap hb3]; rfl
        have HO3 := Lib.hid o3
        have HO2 := Lib.hid o2
        have HTE := Lib.hid hTe
        clear o3 o2 hTe hb3 hk2
        go_wp2
        go_quiet (fail)
        go_wp2
        go_ret2
        have hz1 := b1.size
        refine ⟨v2, v3, rfl, ?_, ?_, ?_, below_drewN b2 _⟩
        · rw [HV.out]
          exact own_base HO2.out hz1
        · rw [HV.out]
          exact own_raise HO3.out (fun g hg => HTB.out g (by rw [HTE.out, hg]; simp))
        · intro x y hx hy hxy
          have h1 := (own_lt HO2.out hx).1
          have h2 := HTL.out y (by rw [HTE.out, hy]; simp)
          omega
      · have HV := Lib.hid (show divN a b = ([], []) by unfold divN; rw [if_neg (fun h => h0 h.2.2)])
        obtain rfl : b = [] := List.eq_nil_of_length_eq_zero (by omega)
        have hrb0 := hrb
        obtain ⟨Ab, cb, rfl, _⟩ := hrb0
        clear h0
        go_enter Tryz.func179, Tryz.ntmps179
        go_wp2_with fail
        refine (implNatOk_same va a la ha _ (by omega) hra).mono ?_
        rintro e w' ⟨rfl, rfl⟩
        rw [oa]
        go_wp2_with fail
        refine (implNatOk_same _ [] lb hb_ _ (by simp) hrb).mono ?_
        rintro e w' ⟨rfl, rfl⟩
        rw [ob]
        clear oa ob
        go_wp2_with fail
        refine (copyNat_any va a la ha _ hal hra).mono ?_
        rintro e w1 ⟨bn, rfl, hat, b1⟩
        obtain ⟨es, hes⟩ := hs.below b1
        go_wp2_with fail
        refine (divide_zero bn Ab cb _ _ hes).mono ?_
        rintro e w2 ⟨rfl, q, rfl⟩
        go_wp2_with fail
        refine (is_same es _).mono ?_
        rintro e w' ⟨rfl, rfl⟩
        go_wp2
        go_ret2
        rw [HV.out]
        exact two_nil (below_drewN b1 _)
    · have ob' : natOkB b = false := by simpa using ob
      have HV := Lib.hid (show divN a b = ([], []) by unfold divN; rw [if_neg (fun h => ob h.2.1)])
      clear ob
      go_enter Tryz.func179, Tryz.ntmps179
      go_wp2_with fail
      refine (implNatOk_same va a la ha _ (by omega) hra).mono ?_
      rintro e w' ⟨rfl, rfl⟩
      rw [oa]
      go_wp2_with fail
      refine (implNatOk_same vb b lb hb_ _ (by omega) hrb).mono ?_
      rintro e w' ⟨rfl, rfl⟩
      rw [ob']
      go_wp2
      go_ret2
      rw [HV.out]
      exact two_nil (Below.refl _ _)
  · have oa' : natOkB a = false := by simpa using oa
    have HV := Lib.hid (show divN a b = ([], []) by unfold divN; rw [if_neg (fun h => oa h.1)])
    clear oa
    go_enter Tryz.func179, Tryz.ntmps179
    go_wp2_with fail
    refine (implNatOk_same va a la ha _ (by omega) hra).mono ?_
    rintro e w' ⟨rfl, rfl⟩
    rw [oa']
    go_wp2
    go_ret2
    rw [HV.out]
    exact two_nil (Below.refl _ _)
/-- the two numbers of Euclid's algorithm -/
def EuclS (w : World) (G n : Nat) (x y : Value) (wr : World) : Prop :=
  ∃ (X Y bx by_ : Nat) (Tx Ty : List Nat), n = Y ∧ Nat.gcd X Y = G ∧ (limbs X).length ≤ 50 ∧ (limbs Y).length ≤ 50 ∧ x = .pointer (some ⟨bx, 0, none⟩) ∧ y = .pointer (some ⟨by_, 0, none⟩) ∧
    NatOn Tx bx (limbs X) wr ∧ NatOn Ty by_ (limbs Y) wr ∧ (∀ g ∈ Ty, g ∉ Tx) ∧ (∀ g ∈ Tx, w.heap.size ≤ g) ∧ (∀ g ∈ Ty, w.heap.size ≤ g) ∧ Below w.heap.size w wr
set_option maxHeartbeats 1000000 in
set_option maxRecDepth 100000 in
theorem implNatGcd_any (va vb : Value) (a b : List Int) (la ha lb hb_ : Nat) (w : World) (hal : a.length ≤ 1048576) (hbl : b.length ≤ 1048576) (hhb : hb_ ≤ w.heap.size)
    (hra : Row w la ha va (intsV a)) (hrb : Row w lb hb_ vb (intsV b)) (hs : Sen w) :
    Calls Tryz.prog 178 #[va, vb] w (NewInts (gcdN a b) w) := by
  by_cases oa : natOkB a = true
  · by_cases ob : natOkB b = true
    · have HV := Lib.hid (show gcdN a b = limbs (Nat.gcd (nval a).toNat (nval b).toNat) by unfold gcdN; rw [if_pos ⟨oa, ob⟩])
      have LA := Lib.hid (natOk_limbs oa)
      have LB := Lib.hid (natOk_limbs ob)
      have ha50 := (natOk_parts oa).2.1
      have hb50 := (natOk_parts ob).2.1
      go_enter Tryz.func178, Tryz.ntmps178
      go_wp2_with fail
      refine (implNatOk_same va a la ha _ (by omega) hra).mono ?_
      rintro e w' ⟨rfl, rfl⟩
      rw [oa]
      go_wp2_with fail
      refine (implNatOk_same vb b lb hb_ _ (by omega) hrb).mono ?_
      rintro e w' ⟨rfl, rfl⟩
      rw [ob]
      clear oa ob
      go_wp2_with fail
      refine (copyNat_any va a la ha _ hal hra).mono ?_
      rintro e w1 ⟨bx, rfl, hatx, b1⟩
      go_wp2_with fail
      refine (copyNat_any vb b lb hb_ _ hbl (hrb.below b1 hhb)).mono ?_
      rintro e w2 ⟨by_, rfl, haty, b2⟩
      obtain ⟨Tx, hTx, hBx⟩ := hatx.on
      obtain ⟨Ty, hTy, hBy⟩ := haty.on
      have hz := b1.size
      have HS : Hid (EuclS w (Nat.gcd (nval a).toNat (nval b).toNat) (nval b).toNat (.pointer (some ⟨bx, 0, none⟩)) (.pointer (some ⟨by_, 0, none⟩)) w2) := Lib.hid
        ⟨(nval a).toNat, (nval b).toNat, bx, by_, Tx, Ty, rfl, rfl, by rw [← LA.out]; exact ha50, by rw [← LB.out]; exact hb50, rfl, rfl, by rw [← LA.out]; exact (hTx.at_.below b2).here, by rw [← LB.out]; exact hTy,
          fun g hg hm => by have := hBy g hg; have := hTx.at_.lt g hm; omega, hBx, fun g hg => by have := hBy g hg; omega, Below.next b1 b2⟩
      clear hTx hTy hBx hBy hatx haty hz
      go_wp2
      go_loopg [5, 6] (nval b).toNat (fun n x y wr => EuclS w (Nat.gcd (nval a).toNat (nval b).toNat) n x y wr)
      case atStart => exact HS.out
      case round =>
        clear HS b1 b2
        obtain ⟨X, Y, bx, by_, Tx, Ty, hn, hG, hX, hY, rfl, rfl, hx, hy, hap, hBx, hBy, hb⟩ := hrel
        have HNE := Lib.hid hn
        have HG := Lib.hid hG
        have HAP := Lib.hid hap
        have HBX := Lib.hid hBx
        have HBY := Lib.hid hBy
        obtain ⟨v, hcv, hrow⟩ := NatOn.rowAt hy
        clear hn hG hap hBx hBy
        by_cases hpos : 0 < Y
        · have hlen : 0 < (limbs Y).length := by rw [limbs_pos Y (by omega)]; simp
          go_wp2_with fail
          refine (divide_on Tx Ty bx (limbs X) v (limbs Y) 0 wr.heap.size wr (by omega) (by omega) (limbs_trim X) (limbs_trim Y) hlen HAP.out hrow hx).mono ?_
          rintro e w3 ⟨q, rfl, _, hk⟩
          rw [limbs_val, limbs_val] at hk
          have b3 : Below w.heap.size w w3 := Below.of_chg hb hk.2 hb.size HBX.out
          have hy3 := (hy.at_.chg hk.2 HAP.out).here
          obtain ⟨es, hes⟩ := hs.below b3
          rw [show ((X : Int) % (Y : Int)).toNat = X % Y by omega] at hk
          have hx3 := hk.1
          clear hk hx hy hb hrow hcv
          go_wp2_with fail
          refine (is_nil es _).mono ?_
          rintro e w' ⟨rfl, rfl⟩
          have hmod := Nat.mod_lt X hpos
          have hml : (limbs (X % Y)).length ≤ 50 := Nat.le_trans (by have := limbs_mono (m := ((X % Y : Nat) : Int)) (n := (Y : Int)) (by omega) (by omega); rw [Int.toNat_natCast, Int.toNat_natCast] at this; exact this) hY
          have HR : Hid (EuclS w (Nat.gcd (nval a).toNat (nval b).toNat) (X % Y) (.pointer (some ⟨by_, 0, none⟩)) (.pointer (some ⟨bx, 0, none⟩)) w3) := Lib.hid
            ⟨Y, X % Y, by_, bx, Ty, Tx, rfl, (gcd_step X Y).trans HG.out, hY, hml, rfl, rfl, hy3, hx3, apart_symm HAP.out, HBY.out, HBX.out, b3⟩
          clear hx3 hy3 b3
          go_wp2
          go_roundg (X % Y)
          case measure => rw [HNE.out]; exact hmod
          case rel => exact HR.out
        · obtain rfl : Y = 0 := by omega
          have hv0 : ∃ A c, v = .slice A 0 c := by
            obtain ⟨A, c, e, _⟩ := hrow.here
            rw [limbs_none] at e
            exact ⟨A, c, e⟩
          obtain ⟨A0, c0, rfl⟩ := hv0
          obtain ⟨es, hes⟩ := hs.below hb
          obtain ⟨u, hbu, ou, _, hTe⟩ := hx
          have hcu : wr.cell? ⟨bx, 0, none⟩ = some u := by rw [Lib.cell_of_heap hbu]; rfl
          have HU := Lib.hid ou
          have HTE := Lib.hid hTe
          have HGX := Lib.hid (show Nat.gcd (nval a).toNat (nval b).toNat = X by rw [← HG.out, Nat.gcd_zero_right])
          clear ou hTe hbu
          go_wp2_with fail
          refine (divide_zero bx A0 c0 _ _ hes).mono ?_
          rintro e w3 ⟨rfl, q, rfl⟩
          go_wp2_with fail
          refine (is_same es _).mono ?_
          rintro e w' ⟨rfl, rfl⟩
          go_wp2
          go_ret
          exact ⟨u, rfl, by rw [HV.out, HGX.out]; exact own_raise HU.out (fun g hg => HBX.out g (by rw [HTE.out, hg]; simp)), below_drewN hb q⟩
    · have ob' : natOkB b = false := by simpa using ob
      have HV := Lib.hid (show gcdN a b = [] by unfold gcdN; rw [if_neg (fun h => ob h.2)])
      clear ob
      go_enter Tryz.func178, Tryz.ntmps178
      go_wp2_with fail
      refine (implNatOk_same va a la ha _ (by omega) hra).mono ?_
      rintro e w' ⟨rfl, rfl⟩
      rw [oa]
      go_wp2_with fail
      refine (implNatOk_same vb b lb hb_ _ (by omega) hrb).mono ?_
      rintro e w' ⟨rfl, rfl⟩
      rw [ob']
      go_wp2
      go_ret
      rw [HV.out]
      exact new_nil (Below.refl _ _)
  · have oa' : natOkB a = false := by simpa using oa
    have HV := Lib.hid (show gcdN a b = [] by unfold gcdN; rw [if_neg (fun h => oa h.1)])
    clear oa
    go_enter Tryz.func178, Tryz.ntmps178
    go_wp2_with fail
    refine (implNatOk_same va a la ha _ (by omega) hra).mono ?_
    rintro e w' ⟨rfl, rfl⟩
    rw [oa']
    go_wp2
    go_ret
    rw [HV.out]
    exact new_nil (Below.refl _ _)
end Go.Proofs.YtofehcpapdlcnaaGreatDoor

namespace Go.Proofs.YtofehcpapdlcnaaGreatDoor
open Go.RowKit

set_option maxHeartbeats 400000 in
set_option maxRecDepth 100000 in
theorem ratSized_any (v : Value) (x : QI) (w : World) (h : OwnQ v x w) :
    Calls Tryz.prog 180 #[v] w (Postb (decide (x.1.2.length ≤ 18 ∧ 0 < x.2.length ∧ x.2.length ≤ 18)) w) := by
  obtain ⟨A, c, B, f, rfl⟩ := ownQ_form h
  have bb0 : Below w.heap.size w (w.alloc (.cells #[.bool x.1.1, .slice A x.1.2.length c, .slice B x.2.length f] 35)) := below_al (Below.refl _ _) _
  clear h
  by_cases g1 : x.1.2.length ≤ 18
  · have h1 : decide ((x.1.2.length : Int) ≤ 18) = true := decide_eq_true (by omega)
    by_cases g2 : 0 < x.2.length
    · by_cases g3 : x.2.length ≤ 18
      · have h3 : decide ((x.2.length : Int) ≤ 18) = true := decide_eq_true (by omega)
        have HV := Lib.hid (show decide (x.1.2.length ≤ 18 ∧ 0 < x.2.length ∧ x.2.length ≤ 18) = true from decide_eq_true ⟨g1, g2, g3⟩)
        clear g1 g3
        go_enter Tryz.func180, Tryz.ntmps180
        go_wp2
        go_ret
        exact ⟨ret_bool HV.out.symm, bb0⟩
      · have h3 : decide ((x.2.length : Int) ≤ 18) = false := decide_eq_false (by omega)
        have HV := Lib.hid (show decide (x.1.2.length ≤ 18 ∧ 0 < x.2.length ∧ x.2.length ≤ 18) = false from decide_eq_false (fun h => g3 h.2.2))
        clear g1 g3
        go_enter Tryz.func180, Tryz.ntmps180
        go_wp2
        go_ret
        exact ⟨ret_bool HV.out.symm, bb0⟩
    · have HV := Lib.hid (show decide (x.1.2.length ≤ 18 ∧ 0 < x.2.length ∧ x.2.length ≤ 18) = false from decide_eq_false (fun h => g2 h.2.1))
      clear g1
      go_enter Tryz.func180, Tryz.ntmps180
      go_wp2
      go_ret
      exact ⟨ret_bool HV.out.symm, bb0⟩
  · have h1 : decide ((x.1.2.length : Int) ≤ 18) = false := decide_eq_false (by omega)
    have HV := Lib.hid (show decide (x.1.2.length ≤ 18 ∧ 0 < x.2.length ∧ x.2.length ≤ 18) = false from decide_eq_false (fun h => g1 h.1))
    clear g1
    go_enter Tryz.func180, Tryz.ntmps180
    go_wp2
    go_ret
    exact ⟨ret_bool HV.out.symm, bb0⟩
theorem okQ_cmp {x : QI} (h1 : okS x.1 = true) (h2 : natOkB x.2 = true) (h3 : x.1.2.length ≤ 18 ∧ 0 < x.2.length ∧ x.2.length ≤ 18) : (cmpN (gcdN x.1.2 x.2) (limbs 1) == 0) = okQ x := by
  have hg := gcdN_small x.1.2 x.2
  have pn := (okS_parts h1).1
  have okg : natOkB (gcdN x.1.2 x.2) = true := by
    have e : gcdN x.1.2 x.2 = limbs (Nat.gcd (nval x.1.2).toNat (nval x.2).toNat) := by unfold gcdN; rw [if_pos ⟨pn, h2⟩]
    rw [e] at hg ⊢
    exact limbs_okL _ hg
  have ok1 : natOkB (limbs 1) = true := by rw [one_limbs]; rfl
  have k := gcd_one_iff pn h2
  unfold cmpN
  rw [if_pos ⟨okg, ok1⟩, one_limbs]
  have hV : okQ x = decide (Nat.gcd (nval x.1.2).toNat (nval x.2).toNat = 1) := by unfold okQ; rw [h1, h2]; simp [h3]
  rw [hV]
  by_cases hc : cmpI (nval (gcdN x.1.2 x.2)) (nval [1]) = 0
  · rw [decide_eq_true (k.1 hc), hc]; rfl
  · rw [decide_eq_false (fun e => hc (k.2 e)), beq_eq_false_iff_ne]; exact hc
theorem okQ_false {x : QI} (h : ¬ (okS x.1 = true ∧ natOkB x.2 = true ∧ x.1.2.length ≤ 18 ∧ 0 < x.2.length ∧ x.2.length ≤ 18)) : okQ x = false := by
  rcases Bool.eq_false_or_eq_true (okQ x) with e | e
  · have p := okQ_parts e
    exact absurd ⟨p.1, p.2.1, p.2.2.2.2.1, p.2.2.1, p.2.2.2.1⟩ h
  · exact e
set_option maxHeartbeats 1000000 in
set_option maxRecDepth 100000 in
theorem implRatOk_any (vr : Value) (r : QI) (w : World) (hzr : szQ r ≤ 1048576) (hr : OwnQ vr r w) (hs : Sen w) :
    Calls Tryz.prog 177 #[vr] w (Postb (okQ r) w) := by
  have HS := Lib.hid hs
  clear hs
  have Hr := Lib.hid hr
  obtain ⟨Ar, cr, Br, dr, rfl⟩ := ownQ_form hr
  have OQr := Lib.hid (show ∀ W, Below w.heap.size w W → OwnQ (.agg #[.bool r.1.1, .slice Ar r.1.2.length cr, .slice Br r.2.length dr]) r W from fun W hb => OwnQ.below Hr.out hb)
  have OUr := Lib.hid (show ∀ W, Below w.heap.size w W → OwnI (.slice Ar r.1.2.length cr) r.1.2 W from fun W hb => (ownQ_open (OQr.out W hb)).2.1)
  have ODr := Lib.hid (show ∀ W, Below w.heap.size w W → OwnI (.slice Br r.2.length dr) r.2 W from fun W hb => (ownQ_open (OQr.out W hb)).2.2.1)
  have OSr := Lib.hid (show ∀ W, Below w.heap.size w W → OwnS (.agg #[.bool r.1.1, .slice Ar r.1.2.length cr]) r.1 W from fun W hb => OwnS.mk (OUr.out W hb))
  clear hr
  have hlr := szQ_len hzr
  have hl1r := hlr.1
  have hl2r := hlr.2
  clear hlr
  have bb0 : Below w.heap.size w (w.alloc (.cells #[.bool r.1.1, .slice Ar r.1.2.length cr, .slice Br r.2.length dr] 35)) := below_al (Below.refl _ _) _
  have kr := (box_new w #[.bool r.1.1, .slice Ar r.1.2.length cr, .slice Br r.2.length dr] 35)
  go_enter Tryz.func177, Tryz.ntmps177
  have kr_c0 := kr.here.cell 0 _ rfl
  have kr_c1 := kr.here.cell 1 _ rfl
  have kr_c2 := kr.here.cell 2 _ rfl
  go_wp2_with fail
  clear kr_c0 kr_c1 kr_c2
  refine (implIntOk_any _ r.1 _ hl1r (OwnS.rd (OSr.out _ bb0))).mono ?_
  rintro e w1 ⟨rfl, b1⟩
  have bb1 := Below.next bb0 b1
  replace kr := kr.below b1
  by_cases ok1 : okS r.1 = true
  · rw [ok1]
    have HO1 := Lib.hid ok1
    clear ok1
    have kr_c0 := kr.here.cell 0 _ rfl
    have kr_c1 := kr.here.cell 1 _ rfl
    have kr_c2 := kr.here.cell 2 _ rfl
    go_wp2_with fail
    refine (implNatOk_same _ r.2 _ _ _ (by omega) (ODr.out _ bb1).row).mono ?_
    rintro e w_ ⟨rfl, rfl⟩
    by_cases ok2 : natOkB r.2 = true
    · rw [ok2]
      have HO2 := Lib.hid ok2
      clear ok2
      go_wp2_with fail
      clear kr_c0 kr_c1 kr_c2
      skip
      refine (ratSized_any _ r _ (OQr.out _ bb1)).mono ?_
      rintro e w2 ⟨rfl, b2⟩
      have bb2 := Below.next bb1 b2
      replace kr := kr.below b2
      by_cases ok3 : r.1.2.length ≤ 18 ∧ 0 < r.2.length ∧ r.2.length ≤ 18
      · rw [decide_eq_true ok3]
        have HV := Lib.hid (okQ_cmp HO1.out HO2.out ok3)
        clear ok3
        have kr_c0 := kr.here.cell 0 _ rfl
        have kr_c1 := kr.here.cell 1 _ rfl
        have kr_c2 := kr.here.cell 2 _ rfl
        go_wp2_with fail
        clear kr_c0 kr_c1 kr_c2
        refine (implNatGcd_any _ _ r.1.2 r.2 0 _ 0 _ _ hl1r hl2r (Nat.le_refl _) (OUr.out _ bb2).row (ODr.out _ bb2).row (HS.out.below bb2)).mono ?_
        rintro e w3 ⟨vg, rfl, og, b3⟩
        have bb3 := Below.next bb2 b3
        replace kr := kr.below b3
        have hgl : (gcdN r.1.2 r.2).length ≤ 1048576 := by have := gcdN_small r.1.2 r.2; omega
        go_wp2_with fail
        refine (implNatOf_any 1 _ (by decide)).mono ?_
        rintro e w4 ⟨vo, rfl, oo, b4⟩
        have bb4 := Below.next bb3 b4
        replace kr := kr.below b4
        rw [show (1 : Int).toNat = 1 from rfl] at oo
        have og2 := own_up og b4
        go_wp2_with fail
        refine (implNatCmp_any _ _ (gcdN r.1.2 r.2) (limbs 1) _ _ _ _ _ hgl (by rw [one_limbs]; decide) (Nat.le_refl _) (Nat.le_refl _) (Row.of_own og2) (Row.of_own oo)).mono ?_
        rintro e w5 ⟨rfl, b5⟩
        have bb5 := Below.next bb4 b5
        replace kr := kr.below b5
        generalize cmpN (gcdN r.1.2 r.2) (limbs 1) = z at *
        generalize okQ r = q at *
        clear og og2 oo hgl kr
        go_wp2
        go_ret
        exact ⟨ret_bool HV.out, bb5⟩
      · rw [decide_eq_false ok3]
        have HV := Lib.hid (show okQ r = false from okQ_false (fun h => ok3 h.2.2))
        clear ok3
        go_wp2
        go_ret
        exact ⟨ret_bool HV.out.symm, bb2⟩
    · have ok2' : natOkB r.2 = false := by simpa using ok2
      have HV := Lib.hid (show okQ r = false from okQ_false (fun h => ok2 h.2.1))
      rw [ok2']
      clear ok2 ok2'
      go_wp2
      go_ret
      exact ⟨ret_bool HV.out.symm, bb1⟩
  · have ok1' : okS r.1 = false := by simpa using ok1
    have HV := Lib.hid (show okQ r = false from okQ_false (fun h => ok1 h.1))
    rw [ok1']
    clear ok1 ok1'
    go_wp2
    go_ret
    exact ⟨ret_bool HV.out.symm, bb1⟩
set_option maxHeartbeats 400000 in
set_option maxRecDepth 100000 in
theorem natResult_same {K : NatK} (b : Nat) (A : Option Addr) (c : Nat) (xs : List Int) (w : World) (hl : xs.length ≤ 50) (hb : w.heap[b]? = some (.cells (.slice A xs.length c :: K.rest).toArray K.ty (0, 0))) :
    Calls Tryz.prog 152 #[.pointer (some ⟨b, 0, none⟩)] w fun e w' => e = .returned (.slice A xs.length c) ∧ w = w' := by
  have hc : w.cell? ⟨b, 0, none⟩ = some (.slice A xs.length c) := NatX.cell hb
  clear hb
  have h50 : decide ((50 : Int) < (xs.length : Int)) = false := decide_eq_false (by omega)
  clear hl
  go_enter Tryz.func152, Tryz.ntmps152
  go_wp2
  go_ret
  exact ⟨rfl, rfl⟩
set_option maxHeartbeats 1000000 in
set_option maxRecDepth 100000 in
theorem signed_same (n : Bool) (b : Nat) (A : Option Addr) (c : Nat) (xs : List Int) (sg : Bool) (w : World) (hl : xs.length ≤ 50) (hsg : (n && decide (0 < xs.length)) = sg) (h : BoxAt b #[.slice A xs.length c, .bool n] 104 w) :
    Calls Tryz.prog 107 #[.pointer (some ⟨b, 0, none⟩)] w fun e w' => e = .returned (.agg #[.bool sg, .slice A xs.length c]) ∧ Below w.heap.size w w' := by
  have hbb := below_al (Below.refl w.heap.size w) (.cells #[.bool false, .slice none 0 0] 31)
  have kr := box_new w #[.bool false, .slice none 0 0] 31
  have hx := (box_at h).below hbb
  have hlt := (box_at h).lt b (by simp)
  obtain ⟨W0, hW0⟩ : ∃ W0, W0 = w.alloc (.cells #[.bool false, .slice none 0 0] 31) := ⟨_, rfl⟩
  rw [← hW0] at hx hbb kr
  have HW := Lib.hid hW0
  have HX := Lib.hid hx.here
  clear hW0 h
  have cn : W0.cell? ⟨b, 1, none⟩ = some (.bool n) := hx.here.cell 1 _ rfl
  have cz0 := kr.here.cell 0 _ rfl
  have cz1 := kr.here.cell 1 _ rfl
  have fz0 := Lib.frozen_of_heap kr.here 0
  have fz1 := Lib.frozen_of_heap kr.here 1
  have HBB := Lib.hid hbb
  clear kr hx hlt hbb
  have HSG := Lib.hid hsg
  clear hsg
  by_cases h0 : 0 < xs.length
  · have e0 := Lib.hid (show sg = n by rw [← HSG.out, decide_eq_true h0, Bool.and_true])
    cases n
    all_goals
      go_enter Tryz.func107, Tryz.ntmps107
      go_wp2_with fail
      rw [← HW.out]
      refine (natResult_same (K := intK _) b A c xs _ hl HX.out).mono ?_
      rintro e w1 ⟨rfl, rfl⟩
      go_wp2
      refine bodyPost_ret (v := .agg #[.bool _, .slice A xs.length c]) (by simp [results, Tryz.results107, go_sem, cz0, cz1]; rfl) rfl ?_
      rw [e0.out]
      exact ⟨rfl, below_set2 HBB.out (Nat.le_refl _)⟩
  · have e0 := Lib.hid (show sg = false by rw [← HSG.out, decide_eq_false h0, Bool.and_false])
    cases n
    all_goals
      go_enter Tryz.func107, Tryz.ntmps107
      go_wp2_with fail
      rw [← HW.out]
      refine (natResult_same (K := intK _) b A c xs _ hl HX.out).mono ?_
      rintro e w1 ⟨rfl, rfl⟩
      go_wp2
      refine bodyPost_ret (v := .agg #[.bool _, .slice A xs.length c]) (by simp [results, Tryz.results107, go_sem, cz0, cz1]; rfl) rfl ?_
      rw [e0.out]
      exact ⟨rfl, below_set2 HBB.out (Nat.le_refl _)⟩
set_option maxHeartbeats 2000000 in
set_option maxRecDepth 100000 in
theorem implRatMake_any (va vb : Value) (a b : SI) (w : World) (hza : szS a ≤ 1048576) (hzb : szS b ≤ 1048576) (ha : OwnS va a w) (hb : OwnS vb b w) (hs : Sen w) :
    Calls Tryz.prog 134 #[va, vb] w (PostQb (makeQ a b).1 (makeQ a b).2 w) := by
  have HS := Lib.hid hs
  clear hs
  have Ha := Lib.hid ha
  obtain ⟨Aa, ca, rfl⟩ := ownS_form ha
  have OSa := Lib.hid (show ∀ W, Below w.heap.size w W → OwnS (.agg #[.bool a.1, .slice Aa a.2.length ca]) a W from fun W hb => OwnS.below Ha.out hb)
  have OIa := Lib.hid (show ∀ W, Below w.heap.size w W → OwnI (.slice Aa a.2.length ca) a.2 W from fun W hb => ownS_open (OSa.out W hb))
  clear ha
  have Hb := Lib.hid hb
  obtain ⟨Ab, cb, rfl⟩ := ownS_form hb
  have OSb := Lib.hid (show ∀ W, Below w.heap.size w W → OwnS (.agg #[.bool b.1, .slice Ab b.2.length cb]) b W from fun W hb => OwnS.below Hb.out hb)
  have OIb := Lib.hid (show ∀ W, Below w.heap.size w W → OwnI (.slice Ab b.2.length cb) b.2 W from fun W hb => ownS_open (OSb.out W hb))
  clear hb
  have hla : a.2.length ≤ 1048576 := by unfold szS szI at hza; omega
  have hlb : b.2.length ≤ 1048576 := by unfold szS szI at hzb; omega
  clear hza hzb
  have bb0 : Below w.heap.size w (((w.alloc (.cells #[.bool a.1, .slice Aa a.2.length ca] 31)).alloc (.cells #[.bool b.1, .slice Ab b.2.length cb] 31)).alloc (.cells #[.bool false, .slice none 0 0, .slice none 0 0] 35)) := below_al (below_al (below_al (Below.refl _ _) _) _) _
  have ka := (box_new w #[.bool a.1, .slice Aa a.2.length ca] 31).below (below_al (below_al (Below.refl _ _) (.cells #[.bool b.1, .slice Ab b.2.length cb] 31)) (.cells #[.bool false, .slice none 0 0, .slice none 0 0] 35))
  have kb := (box_new (w.alloc (.cells #[.bool a.1, .slice Aa a.2.length ca] 31)) #[.bool b.1, .slice Ab b.2.length cb] 31).below (below_al (Below.refl _ _) (.cells #[.bool false, .slice none 0 0, .slice none 0 0] 35))
  rw [show (w.alloc (.cells #[.bool a.1, .slice Aa a.2.length ca] 31)).heap.size = w.heap.size + 1 by simp] at kb
  have ko := (box_new ((w.alloc (.cells #[.bool a.1, .slice Aa a.2.length ca] 31)).alloc (.cells #[.bool b.1, .slice Ab b.2.length cb] 31)) #[.bool false, .slice none 0 0, .slice none 0 0] 35)
  rw [show ((w.alloc (.cells #[.bool a.1, .slice Aa a.2.length ca] 31)).alloc (.cells #[.bool b.1, .slice Ab b.2.length cb] 31)).heap.size = w.heap.size + 1 + 1 by simp] at ko
  have HKO := Lib.hid (ko.lt (w.heap.size + 1 + 1) (by simp))
  go_enter Tryz.func134, Tryz.ntmps134
  have ka_c0 := ka.here.cell 0 _ rfl
  have ka_c1 := ka.here.cell 1 _ rfl
  go_wp2_with fail
  clear ka_c0 ka_c1
  refine (implIntOk_any _ a _ hla (OwnS.rd (OSa.out _ bb0))).mono ?_
  rintro e w1 ⟨rfl, b1⟩
  have bb1 := Below.next bb0 b1
  replace ka := ka.below b1
  replace kb := kb.below b1
  replace ko := ko.below b1
  by_cases oka : okS a = true
  · rw [oka]
    have HOa := Lib.hid oka
    clear oka
    have kb_c0 := kb.here.cell 0 _ rfl
    have kb_c1 := kb.here.cell 1 _ rfl
    go_wp2_with fail
    clear kb_c0 kb_c1
    refine (implIntSign_any _ b _ hlb (OSb.out _ bb1)).mono ?_
    rintro e w2 ⟨rfl, b2⟩
    have bb2 := Below.next bb1 b2
    replace ka := ka.below b2
    replace kb := kb.below b2
    replace ko := ko.below b2
    by_cases okb : cmpS b zeroS = 0
    · have HV := Lib.hid (show makeQ a b = (zeroQ, false) from makeQ_none (fun h => h.2 okb))
      rw [okb]
      clear okb
      have ko_c0 := ko.here.cell 0 _ rfl
      have ko_c1 := ko.here.cell 1 _ rfl
      have ko_c2 := ko.here.cell 2 _ rfl
      have cz0 := ko.here.cell 0 _ rfl
      have fz0 := Lib.frozen_of_heap ko.here 0
      have cz1 := ko.here.cell 1 _ rfl
      have fz1 := Lib.frozen_of_heap ko.here 1
      have cz2 := ko.here.cell 2 _ rfl
      have fz2 := Lib.frozen_of_heap ko.here 2
      go_wp2
      refine bodyPost_ret (v := .tuple #[.agg #[.bool false, .slice none 0 0, .slice none 0 0], .bool false]) (by simp [results, Tryz.results134, go_sem, cz0, cz1, cz2]) rfl ?_
      rw [HV.out]
      first | exact newQb_zero _ bb2 | exact newQb_zero _ (below_set3 bb2 (by omega))
    · have hne : (cmpS b zeroS == 0) = false := by rw [beq_eq_false_iff_ne]; exact okb
      obtain ⟨X, Y, eg, ex, ey, lx, ly, hy0, HV0⟩ := makeQ_parts HOa.out okb
      have EX := Lib.hid ex
      have EY := Lib.hid ey
      have HVm := Lib.hid HV0
      have hgl := gcdN_small a.2 b.2
      obtain ⟨G, hG⟩ : ∃ G, gcdN a.2 b.2 = G := ⟨_, rfl⟩
      have EG := Lib.hid hG
      rw [hG] at hgl
      have EXG := Lib.hid (show (divN a.2 G).1 = limbs X by rw [← hG]; exact ex)
      have EYG := Lib.hid (show (divN b.2 G).1 = limbs Y by rw [← hG]; exact ey)
      have kb50 := (natOk_parts (okS_parts (cmpS_ok okb)).1).2.1
      have ka50 := (natOk_parts (okS_parts HOa.out).1).2.1
      generalize cmpS b zeroS = z at *
      clear eg ex ey HV0 hG okb
      have ka_c0 := ka.here.cell 0 _ rfl
      have ka_c1 := ka.here.cell 1 _ rfl
      have kb_c0 := kb.here.cell 0 _ rfl
      have kb_c1 := kb.here.cell 1 _ rfl
      go_wp2_with fail
      clear ka_c0 ka_c1 kb_c0 kb_c1
      refine (implNatGcd_any _ _ a.2 b.2 0 _ 0 _ _ hla hlb (Nat.le_refl _) (OIa.out _ bb2).row (OIb.out _ bb2).row (HS.out.below bb2)).mono ?_
      rintro e w3 ⟨vg, rfl, og0, b3⟩
      rw [EG.out] at og0
      have og := own_at' og0
      obtain ⟨Ag, cg, rfl⟩ := own_len og0
      have bb3 := Below.next bb2 b3
      replace ka := ka.below b3
      replace kb := kb.below b3
      replace ko := ko.below b3
      clear hne og0
      have ka_c0 := ka.here.cell 0 _ rfl
      have ka_c1 := ka.here.cell 1 _ rfl
      go_wp2_with fail
      clear ka_c0 ka_c1
      refine (implNatDiv_any _ _ a.2 G 0 _ 0 _ _ hla (by omega) (Nat.le_refl _) (Nat.le_refl _) (OIa.out _ bb3).row (At.here og).row (HS.out.below bb3)).mono ?_
      rintro e w4 ⟨vx, vx2, rfl, ox0, _, _, b4⟩
      rw [EXG.out] at ox0
      have ox := own_at' ox0
      obtain ⟨Ax, cx, rfl⟩ := own_len ox0
      have bb4 := Below.next bb3 b4
      replace ka := ka.below b4
      replace kb := kb.below b4
      replace ko := ko.below b4
      replace og := og.below b4
      have kb_c0 := kb.here.cell 0 _ rfl
      have kb_c1 := kb.here.cell 1 _ rfl
      go_wp2_with fail
      clear kb_c0 kb_c1
      refine (implNatDiv_any _ _ b.2 G 0 _ 0 _ _ hlb (by omega) (Nat.le_refl _) (Nat.le_refl _) (OIb.out _ bb4).row (At.here og).row (HS.out.below bb4)).mono ?_
      rintro e w5 ⟨vy, vy2, rfl, oy0, _, _, b5⟩
      rw [EYG.out] at oy0
      obtain ⟨Ay, cy, rfl⟩ := own_len oy0
      have bb5 := Below.next bb4 b5
      replace ka := ka.below b5
      replace kb := kb.below b5
      replace ko := ko.below b5
      replace og := og.below b5
      replace ox := ox.below b5
      have hap : ∀ g, (Value.slice Ax (limbs X).length cx).ownBlock = some g → (Value.slice Ay (limbs Y).length cy).ownBlock ≠ some g := fun g h1 h2 => by
        have h3 := (own_lt ox0 h1).2
        have h4 := (own_lt oy0 h2).1
        omega
      have ox1 := own_up ox0 b5
      obtain ⟨sg, hsg⟩ : ∃ sg, ((!(a.1 == b.1)) && decide (0 < (limbs X).length)) = sg := ⟨_, rfl⟩
      have ESG := Lib.hid hsg
      have EM := Lib.hid (show mkS (!(a.1 == b.1)) (limbs X) = (sg, limbs X) by unfold mkS capL; rw [if_neg (by omega), hsg])
      have of := partsQ_at (x := ((sg, limbs X), limbs Y)) ox1 oy0 hap
      have lf0 : Within (partsB (Value.slice Ax (limbs X).length cx) (Value.slice Ay (limbs Y).length cy)) w3.heap.size w5.heap.size := fun g hg => by
        rcases List.mem_append.1 hg with hg | hg
        · exact own_within ox1 g hg
        · have := own_within oy0 g hg
          have := b4.size
          omega
      have LF := Lib.hid lf0
      have HS2 := Lib.hid (show w.heap.size + 1 + 1 < w3.heap.size from Nat.lt_of_lt_of_le HKO.out (by have := b1.size; have := b2.size; have := b3.size;  omega))
      clear ox0 oy0 ox1 hap lf0 hsg ox og
      have ka_c0 := ka.here.cell 0 _ rfl
      have ka_c1 := ka.here.cell 1 _ rfl
      have kb_c0 := kb.here.cell 0 _ rfl
      have kb_c1 := kb.here.cell 1 _ rfl
      have kn := box_new (w5) #[.slice Ax (limbs X).length cx, .bool (!(a.1 == b.1))] 104
      have aln := below_al (Below.refl (w5).heap.size (w5)) (.cells #[.slice Ax (limbs X).length cx, .bool (!(a.1 == b.1))] 104)
      have bbn := Below.next bb5 aln
      replace ka := ka.below aln
      replace kb := kb.below aln
      replace ko := ko.below aln
      replace of := of.below aln
      go_wp2_with fail
      clear ka_c0 ka_c1 kb_c0 kb_c1
      refine (signed_same _ _ Ax cx (limbs X) sg _ lx ESG.out kn.here).mono ?_
      rintro e w6 ⟨rfl, b6⟩
      have bb6 := Below.next bbn b6
      replace ka := ka.below b6
      replace kb := kb.below b6
      replace ko := ko.below b6
      replace of := of.below b6
      replace kn := kn.below b6
      clear kn
      have kr := box_new (w6) #[.bool sg, .slice Ax (limbs X).length cx, .slice Ay (limbs Y).length cy] 35
      have alr := below_al (Below.refl (w6).heap.size (w6)) (.cells #[.bool sg, .slice Ax (limbs X).length cx, .slice Ay (limbs Y).length cy] 35)
      have bbr := Below.next bb6 alr
      replace ka := ka.below alr
      replace kb := kb.below alr
      replace ko := ko.below alr
      replace of := of.below alr
      have kr_c0 := kr.here.cell 0 _ rfl
      have kr_c1 := kr.here.cell 1 _ rfl
      have kr_c2 := kr.here.cell 2 _ rfl
      go_wp2_with fail
      clear kr_c0 kr_c1 kr_c2
      refine (ratSized_any _ ((sg, limbs X), limbs Y) _ of.here).mono ?_
      rintro e w7 ⟨rfl, b7⟩
      have bb7 := Below.next bbr b7
      replace ka := ka.below b7
      replace kb := kb.below b7
      replace ko := ko.below b7
      replace of := of.below b7
      replace kr := kr.below b7
      by_cases hsz : (limbs X).length ≤ 18 ∧ 0 < (limbs Y).length ∧ (limbs Y).length ≤ 18
      · have HV := Lib.hid (show makeQ a b = (((sg, limbs X), limbs Y), true) by rw [HVm.out, if_pos ⟨hsz.1, hsz.2.2⟩, EM.out])
        rw [decide_eq_true hsz]
        clear hsz
        have hkz := kr.here.cell 0 _ rfl
        have hkz1 := kr.here.cell 1 _ rfl
        have hkz2 := kr.here.cell 2 _ rfl
        have HW := Lib.hid (newQb_at (x := ((sg, limbs X), limbs Y)) (r := w.heap.size + 1 + 1) (b := true) of (within_up LF.out (Nat.le_refl _) (by have := b6.size; have := b7.size; have := aln.size; have := alr.size; omega)) HS2.out (by omega) bb7)
        have cz0 := ko.here.cell 0 _ rfl
        have fz0 := Lib.frozen_of_heap ko.here 0
        have cz1 := ko.here.cell 1 _ rfl
        have fz1 := Lib.frozen_of_heap ko.here 1
        have cz2 := ko.here.cell 2 _ rfl
        have fz2 := Lib.frozen_of_heap ko.here 2
        clear of ko kr
        go_wp2
        refine bodyPost_ret (v := .tuple #[.agg #[.bool sg, .slice Ax _ cx, .slice Ay _ cy], .bool true]) (by simp [results, Tryz.results134, go_sem, cz0, cz1, cz2]; exact ⟨rfl, rfl⟩) rfl ?_
        rw [HV.out]
        exact HW.out
      · have HV := Lib.hid (show makeQ a b = (zeroQ, false) by rw [HVm.out, if_neg (fun h => hsz ⟨h.1, hy0, h.2⟩)])
        rw [decide_eq_false hsz]
        clear hsz
        have ko_c0 := ko.here.cell 0 _ rfl
        have ko_c1 := ko.here.cell 1 _ rfl
        have ko_c2 := ko.here.cell 2 _ rfl
        have cz0 := ko.here.cell 0 _ rfl
        have fz0 := Lib.frozen_of_heap ko.here 0
        have cz1 := ko.here.cell 1 _ rfl
        have fz1 := Lib.frozen_of_heap ko.here 1
        have cz2 := ko.here.cell 2 _ rfl
        have fz2 := Lib.frozen_of_heap ko.here 2
        go_wp2
        refine bodyPost_ret (v := .tuple #[.agg #[.bool false, .slice none 0 0, .slice none 0 0], .bool false]) (by simp [results, Tryz.results134, go_sem, cz0, cz1, cz2]) rfl ?_
        rw [HV.out]
        first | exact newQb_zero _ bb7 | exact newQb_zero _ (below_set3 bb7 (by omega))
  · have oka' : okS a = false := by simpa using oka
    have HV := Lib.hid (show makeQ a b = (zeroQ, false) from makeQ_none (fun h => oka h.1))
    rw [oka']
    clear oka oka'
    have ko_c0 := ko.here.cell 0 _ rfl
    have ko_c1 := ko.here.cell 1 _ rfl
    have ko_c2 := ko.here.cell 2 _ rfl
    have cz0 := ko.here.cell 0 _ rfl
    have fz0 := Lib.frozen_of_heap ko.here 0
    have cz1 := ko.here.cell 1 _ rfl
    have fz1 := Lib.frozen_of_heap ko.here 1
    have cz2 := ko.here.cell 2 _ rfl
    have fz2 := Lib.frozen_of_heap ko.here 2
    go_wp2
    refine bodyPost_ret (v := .tuple #[.agg #[.bool false, .slice none 0 0, .slice none 0 0], .bool false]) (by simp [results, Tryz.results134, go_sem, cz0, cz1, cz2]) rfl ?_
    rw [HV.out]
    first | exact newQb_zero _ bb1 | exact newQb_zero _ (below_set3 bb1 (by omega))
end Go.Proofs.YtofehcpapdlcnaaGreatDoor

namespace Go.Proofs.YtofehcpapdlcnaaGreatDoor
open Go.RowKit

theorem nat_lt50 {X : Nat} (h : (limbs X).length ≤ 19) : ((X + X : Nat) : Int) < bp 50 ∧ ((X + 1 : Nat) : Int) < bp 50 := by
  have h1 := nval_lt (limbs X) (limbs_digN X)
  rw [limbs_val] at h1
  have h2 : bp (limbs X).length ≤ bp 19 := bp_mono h
  have h3 : bp 20 ≤ bp 50 := bp_mono (by omega)
  have h4 : bp 20 = 1000000000 * bp 19 := rfl
  have := bp_pos 19
  omega
theorem cmpN_limbs {X Y : Nat} (hx : (limbs X).length ≤ 50) (hy : (limbs Y).length ≤ 50) : cmpN (limbs X) (limbs Y) = cmpI X Y := by
  unfold cmpN
  rw [if_pos ⟨limbs_okL _ hx, limbs_okL _ hy⟩, limbs_val, limbs_val]
theorem twoRows_eq {a b c d : List Int} {w w' : World} {e : Ending} (h : TwoRows a b w e w') (h1 : a = c) (h2 : b = d) : TwoRows c d w e w' := by subst h1 h2; exact h
theorem newI_eq {a b : List Int} {w w' : World} {e : Ending} (h : NewInts a w e w') (h1 : a = b) : NewInts b w e w' := by subst h1; exact h
set_option maxHeartbeats 2000000 in
set_option maxRecDepth 100000 in
theorem overHalf_any (Aq Ar Ad : Option Addr) (cq cr cd : Nat) (neg : Bool) (Q R D : Nat) (w : World) (_ : (limbs Q).length ≤ 50) (hrl : (limbs R).length ≤ 18) (hdl : (limbs D).length ≤ 18) (_ : OwnI (.slice Aq (limbs Q).length cq) (limbs Q) w) (or_ : OwnI (.slice Ar (limbs R).length cr) (limbs R) w) (od : OwnI (.slice Ad (limbs D).length cd) (limbs D) w) :
    Calls Tryz.prog 240 #[.agg #[.bool neg, .slice Aq (limbs Q).length cq, .slice Ar (limbs R).length cr, .slice Ad (limbs D).length cd]] w (Postn (cmpI ((R : Int) + R + 0) D) w) := by
  have Hr := Lib.hid (show ∀ W, Below w.heap.size w W → OwnI (.slice Ar (limbs R).length cr) (limbs R) W from fun W hb => OwnI.belowI or_ hb)
  have Hd := Lib.hid (show ∀ W, Below w.heap.size w W → OwnI (.slice Ad (limbs D).length cd) (limbs D) W from fun W hb => OwnI.belowI od hb)
  clear or_ od
  have bb0 : Below w.heap.size w (w.alloc (.cells #[.bool neg, .slice Aq (limbs Q).length cq, .slice Ar (limbs R).length cr, .slice Ad (limbs D).length cd] 205)) := below_al (Below.refl _ _) _
  have ks := (box_new w #[.bool neg, .slice Aq (limbs Q).length cq, .slice Ar (limbs R).length cr, .slice Ad (limbs D).length cd] 205)
  obtain ⟨z, hz⟩ : ∃ z, cmpI ((R : Int) + R + 0) D = z := ⟨_, rfl⟩
  have EA := Lib.hid (addN_small (nat_lt50 (X := R) (by omega)).1)
  have h2l : (limbs (R + R)).length ≤ 50 := limbs_length_le _ 50 (nat_lt50 (X := R) (by omega)).1
  have EZ := Lib.hid (show cmpN (limbs (R + R)) (limbs D) = z by rw [cmpN_limbs h2l (by omega), ← hz, Int.natCast_add, Int.add_zero])
  rw [hz]
  clear hz
  have HCM := Lib.hid (show ∀ (u v : Value) (W : World), OwnI u (limbs (R + R)) W → OwnI v (limbs D) W → Calls Tryz.prog 208 #[u, v] W (Postn z W) from fun u v W h1 h3 => (implNatCmp_any u v (limbs (R + R)) (limbs D) 0 _ 0 _ W (by omega) (by omega) (Nat.le_refl _) (Nat.le_refl _) h1.row h3.row).mono fun _ _ h => postn_eq EZ.out h)
  obtain ⟨W0, hW0⟩ : ∃ W0, W0 = (w.alloc (.cells #[.bool neg, .slice Aq (limbs Q).length cq, .slice Ar (limbs R).length cr, .slice Ad (limbs D).length cd] 205)) := ⟨_, rfl⟩
  rw [← hW0] at bb0 ks
  have HW0 := Lib.hid hW0
  clear hW0
  go_enter Tryz.func240, Tryz.ntmps240
  have ks_c0 := ks.here.cell 0 _ rfl
  have ks_c1 := ks.here.cell 1 _ rfl
  have ks_c2 := ks.here.cell 2 _ rfl
  have ks_c3 := ks.here.cell 3 _ rfl
  go_wp2_with fail
  rw [← HW0.out]
  have HC0 := Lib.hid (show Chg [] W0 W0.drew from (Chg.refl _ _).drew1)
  have HCr := Lib.hid (show Chg [] W0 W0 from Chg.refl _ _)
  have KL := Lib.hid (show ∀ W, Chg [] W0 W → W.cell? ⟨w.heap.size, 0, none⟩ = some (.bool neg) ∧ W.cell? ⟨w.heap.size, 1, none⟩ = some (.slice Aq (limbs Q).length cq) ∧ W.cell? ⟨w.heap.size, 2, none⟩ = some (.slice Ar (limbs R).length cr) ∧ W.cell? ⟨w.heap.size, 3, none⟩ = some (.slice Ad (limbs D).length cd) ∧ Hid (Chg [] W0 W) from fun W hc => ⟨(ks.chg hc (fun i hi hm => by simp at hm)).here.cell 0 _ rfl, (ks.chg hc (fun i hi hm => by simp at hm)).here.cell 1 _ rfl, (ks.chg hc (fun i hi hm => by simp at hm)).here.cell 2 _ rfl, (ks.chg hc (fun i hi hm => by simp at hm)).here.cell 3 _ rfl, Lib.hid hc⟩)
  have BBF := Lib.hid (show ∀ W, Chg [] W0 W → Below w.heap.size w W from fun W hc => below_chg bb0 hc bb0.size (fun i hi => by simp at hi))
  clear ks_c0 ks_c1 ks_c2 ks_c3
  go_region_held3 (fun W => W.cell? ⟨w.heap.size, 0, none⟩ = some (.bool neg) ∧ W.cell? ⟨w.heap.size, 1, none⟩ = some (.slice Aq (limbs Q).length cq) ∧ W.cell? ⟨w.heap.size, 2, none⟩ = some (.slice Ar (limbs R).length cr) ∧ W.cell? ⟨w.heap.size, 3, none⟩ = some (.slice Ad (limbs D).length cd) ∧ Hid (Chg [] W0 W))
    ((refine KL.out _ ?_; (first | exact HC2.out | exact HC1.out | exact HCr.out | exact HC0.out | exact HC2.out.drew1 | exact HC1.out.drew1 | exact HCr.out.drew1 | exact HC0.out.drew1 | exact HC2.out.trans (Chg.of_below (below_al (Below.refl _ _) _)) | exact HC1.out.trans (Chg.of_below (below_al (Below.refl _ _) _)) | exact HCr.out.trans (Chg.of_below (below_al (Below.refl _ _) _)) | exact HC0.out.trans (Chg.of_below (below_al (Below.refl _ _) _)) | fail)))
    (first
      | (go_at_call 215; (have hBB := (‹_ ∧ _ ∧ _ ∧ _ ∧ Hid (Chg [] W0 _)›).2.2.2.2); (with_reducible refine ((implNatAdd_any _ _ (limbs R) (limbs R) 0 _ 0 _ _ (by omega) (by omega) (Nat.le_refl _) (Nat.le_refl _) (OwnI.row (Hr.out _ (BBF.out _ hBB.out))) (OwnI.row (Hr.out _ (BBF.out _ hBB.out)))).mono fun _ _ h => (newI_eq h EA.out).newV).mono ?_); rintro e w1 ⟨ua, Sa, rfl, oa, la, b1⟩; have HC1 := Lib.hid (hBB.out.trans (Chg.of_below b1)); obtain ⟨Ea, ea, rfl⟩ := own_len oa.here; have HBZ1 := Lib.hid hBB.out.size; clear hBB)
      | (go_at_call 208; (have hBB := (‹_ ∧ _ ∧ _ ∧ _ ∧ Hid (Chg [] W0 _)›).2.2.2.2); (with_reducible refine (HCM.out _ _ _ (At.here (by first | exact oa | exact At.below oa (below_al (Below.refl _ _) _) | exact At.below (At.below oa (below_al (Below.refl _ _) _)) (below_al (Below.refl _ _) _) | exact At.move oa (fun _ _ => rfl) (Nat.le_refl _))) (Hd.out _ (BBF.out _ hBB.out))).mono ?_); rintro e w2 ⟨rfl, b2⟩; have HC2 := Lib.hid (hBB.out.trans (Chg.of_below b2)); (have oa_2 := At.below (by first | exact oa | exact At.below oa (below_al (Below.refl _ _) _) | exact At.below (At.below oa (below_al (Below.refl _ _) _)) (below_al (Below.refl _ _) _) | exact At.move oa (fun _ _ => rfl) (Nat.le_refl _)) b2); have HBZ2 := Lib.hid hBB.out.size; clear hBB))
  have bb2 := BBF.out _ HC2.out
  replace ks := ks.chg HC2.out (fun i hi hm => by simp at hm)
  have oa := oa_2
  go_wp2
  go_ret
  exact ⟨rfl, bb2⟩
set_option maxHeartbeats 1000000 in
set_option maxRecDepth 100000 in
theorem farther_0 (Aq Ar Ad : Option Addr) (cq cr cd : Nat) (neg : Bool) (Q R D : Nat) (w : World) (_ : (limbs Q).length ≤ 50) (_ : (limbs R).length ≤ 18) (_ : (limbs D).length ≤ 18) (_ : OwnI (.slice Aq (limbs Q).length cq) (limbs Q) w) (_ : OwnI (.slice Ar (limbs R).length cr) (limbs R) w) (_ : OwnI (.slice Ad (limbs D).length cd) (limbs D) w) :
    Calls Tryz.prog 235 #[.agg #[.bool neg, .slice Aq (limbs Q).length cq, .slice Ar (limbs R).length cr, .slice Ad (limbs D).length cd]] w (Postb (awayB neg Q R D 0) w) := by
  have bb0 : Below w.heap.size w (w.alloc (.cells #[.bool neg, .slice Aq (limbs Q).length cq, .slice Ar (limbs R).length cr, .slice Ad (limbs D).length cd] 205)) := below_al (Below.refl _ _) _
  have ks := (box_new w #[.bool neg, .slice Aq (limbs Q).length cq, .slice Ar (limbs R).length cr, .slice Ad (limbs D).length cd] 205)
  go_enter Tryz.func235, Tryz.ntmps235
  go_wp2
  go_ret
  exact ⟨ret_bool (rfl), bb0⟩
set_option maxHeartbeats 1000000 in
set_option maxRecDepth 100000 in
theorem farther_1 (Aq Ar Ad : Option Addr) (cq cr cd : Nat) (neg : Bool) (Q R D : Nat) (w : World) (_ : (limbs Q).length ≤ 50) (_ : (limbs R).length ≤ 18) (_ : (limbs D).length ≤ 18) (_ : OwnI (.slice Aq (limbs Q).length cq) (limbs Q) w) (_ : OwnI (.slice Ar (limbs R).length cr) (limbs R) w) (_ : OwnI (.slice Ad (limbs D).length cd) (limbs D) w) :
    Calls Tryz.prog 236 #[.agg #[.bool neg, .slice Aq (limbs Q).length cq, .slice Ar (limbs R).length cr, .slice Ad (limbs D).length cd]] w (Postb (awayB neg Q R D 1) w) := by
  have bb0 : Below w.heap.size w (w.alloc (.cells #[.bool neg, .slice Aq (limbs Q).length cq, .slice Ar (limbs R).length cr, .slice Ad (limbs D).length cd] 205)) := below_al (Below.refl _ _) _
  have ks := (box_new w #[.bool neg, .slice Aq (limbs Q).length cq, .slice Ar (limbs R).length cr, .slice Ad (limbs D).length cd] 205)
  go_enter Tryz.func236, Tryz.ntmps236
  go_wp2
  go_ret
  exact ⟨ret_bool (rfl), bb0⟩
set_option maxHeartbeats 1000000 in
set_option maxRecDepth 100000 in
theorem farther_2 (Aq Ar Ad : Option Addr) (cq cr cd : Nat) (neg : Bool) (Q R D : Nat) (w : World) (_ : (limbs Q).length ≤ 50) (_ : (limbs R).length ≤ 18) (_ : (limbs D).length ≤ 18) (_ : OwnI (.slice Aq (limbs Q).length cq) (limbs Q) w) (_ : OwnI (.slice Ar (limbs R).length cr) (limbs R) w) (_ : OwnI (.slice Ad (limbs D).length cd) (limbs D) w) :
    Calls Tryz.prog 237 #[.agg #[.bool neg, .slice Aq (limbs Q).length cq, .slice Ar (limbs R).length cr, .slice Ad (limbs D).length cd]] w (Postb (awayB neg Q R D 2) w) := by
  have bb0 : Below w.heap.size w (w.alloc (.cells #[.bool neg, .slice Aq (limbs Q).length cq, .slice Ar (limbs R).length cr, .slice Ad (limbs D).length cd] 205)) := below_al (Below.refl _ _) _
  have ks := (box_new w #[.bool neg, .slice Aq (limbs Q).length cq, .slice Ar (limbs R).length cr, .slice Ad (limbs D).length cd] 205)
  go_enter Tryz.func237, Tryz.ntmps237
  have ks_c0 := ks.here.cell 0 _ rfl
  have ks_c1 := ks.here.cell 1 _ rfl
  have ks_c2 := ks.here.cell 2 _ rfl
  have ks_c3 := ks.here.cell 3 _ rfl
  go_wp2
  go_ret
  exact ⟨ret_bool (rfl), bb0⟩
set_option maxHeartbeats 1000000 in
set_option maxRecDepth 100000 in
theorem farther_3 (Aq Ar Ad : Option Addr) (cq cr cd : Nat) (neg : Bool) (Q R D : Nat) (w : World) (_ : (limbs Q).length ≤ 50) (_ : (limbs R).length ≤ 18) (_ : (limbs D).length ≤ 18) (_ : OwnI (.slice Aq (limbs Q).length cq) (limbs Q) w) (_ : OwnI (.slice Ar (limbs R).length cr) (limbs R) w) (_ : OwnI (.slice Ad (limbs D).length cd) (limbs D) w) :
    Calls Tryz.prog 238 #[.agg #[.bool neg, .slice Aq (limbs Q).length cq, .slice Ar (limbs R).length cr, .slice Ad (limbs D).length cd]] w (Postb (awayB neg Q R D 3) w) := by
  have bb0 : Below w.heap.size w (w.alloc (.cells #[.bool neg, .slice Aq (limbs Q).length cq, .slice Ar (limbs R).length cr, .slice Ad (limbs D).length cd] 205)) := below_al (Below.refl _ _) _
  have ks := (box_new w #[.bool neg, .slice Aq (limbs Q).length cq, .slice Ar (limbs R).length cr, .slice Ad (limbs D).length cd] 205)
  go_enter Tryz.func238, Tryz.ntmps238
  have ks_c0 := ks.here.cell 0 _ rfl
  have ks_c1 := ks.here.cell 1 _ rfl
  have ks_c2 := ks.here.cell 2 _ rfl
  have ks_c3 := ks.here.cell 3 _ rfl
  go_wp2
  go_ret
  exact ⟨ret_bool (rfl), bb0⟩
set_option maxHeartbeats 1000000 in
set_option maxRecDepth 100000 in
theorem farther_4 (Aq Ar Ad : Option Addr) (cq cr cd : Nat) (neg : Bool) (Q R D : Nat) (w : World) (hql : (limbs Q).length ≤ 50) (hrl : (limbs R).length ≤ 18) (hdl : (limbs D).length ≤ 18) (oq : OwnI (.slice Aq (limbs Q).length cq) (limbs Q) w) (or_ : OwnI (.slice Ar (limbs R).length cr) (limbs R) w) (od : OwnI (.slice Ad (limbs D).length cd) (limbs D) w) :
    Calls Tryz.prog 239 #[.agg #[.bool neg, .slice Aq (limbs Q).length cq, .slice Ar (limbs R).length cr, .slice Ad (limbs D).length cd]] w (Postb (awayB neg Q R D 4) w) := by
  obtain ⟨c, hc⟩ : ∃ c, cmpI ((R : Int) + R + 0) D = c := ⟨_, rfl⟩
  have HC := Lib.hid hc
  have HA := Lib.hid (away_cmp neg Q R D hc)
  have h3 : c = -1 ∨ c = 0 ∨ c = 1 := by rw [← hc]; exact cmp_three _ _
  have Hq := Lib.hid (show ∀ W, Below w.heap.size w W → OwnI (.slice Aq (limbs Q).length cq) (limbs Q) W from fun W hb => OwnI.belowI oq hb)
  have Hr := Lib.hid (show ∀ W, Below w.heap.size w W → OwnI (.slice Ar (limbs R).length cr) (limbs R) W from fun W hb => OwnI.belowI or_ hb)
  have Hd := Lib.hid (show ∀ W, Below w.heap.size w W → OwnI (.slice Ad (limbs D).length cd) (limbs D) W from fun W hb => OwnI.belowI od hb)
  clear hc oq or_ od
  have bb0 : Below w.heap.size w (w.alloc (.cells #[.bool neg, .slice Aq (limbs Q).length cq, .slice Ar (limbs R).length cr, .slice Ad (limbs D).length cd] 205)) := below_al (Below.refl _ _) _
  have ks := (box_new w #[.bool neg, .slice Aq (limbs Q).length cq, .slice Ar (limbs R).length cr, .slice Ad (limbs D).length cd] 205)
  go_enter Tryz.func239, Tryz.ntmps239
  have ks_c0 := ks.here.cell 0 _ rfl
  have ks_c1 := ks.here.cell 1 _ rfl
  have ks_c2 := ks.here.cell 2 _ rfl
  have ks_c3 := ks.here.cell 3 _ rfl
  go_wp2_with fail
  clear ks_c0 ks_c1 ks_c2 ks_c3
  refine ((overHalf_any Aq Ar Ad cq cr cd neg Q R D _ hql hrl hdl (Hq.out _ bb0) (Hr.out _ bb0) (Hd.out _ bb0)).mono fun _ _ h => postn_eq HC.out h).mono ?_
  rintro e w1 ⟨rfl, b1⟩
  have bb1 := Below.next bb0 b1
  replace ks := ks.below b1
  clear h3 ks
  go_wp2
  go_ret
  exact ⟨ret_bool (HA.out.1.symm), bb1⟩
set_option maxHeartbeats 1000000 in
set_option maxRecDepth 100000 in
theorem farther_5 (Aq Ar Ad : Option Addr) (cq cr cd : Nat) (neg : Bool) (Q R D : Nat) (w : World) (hql : (limbs Q).length ≤ 50) (hrl : (limbs R).length ≤ 18) (hdl : (limbs D).length ≤ 18) (oq : OwnI (.slice Aq (limbs Q).length cq) (limbs Q) w) (or_ : OwnI (.slice Ar (limbs R).length cr) (limbs R) w) (od : OwnI (.slice Ad (limbs D).length cd) (limbs D) w) :
    Calls Tryz.prog 241 #[.agg #[.bool neg, .slice Aq (limbs Q).length cq, .slice Ar (limbs R).length cr, .slice Ad (limbs D).length cd]] w (Postb (awayB neg Q R D 5) w) := by
  obtain ⟨c, hc⟩ : ∃ c, cmpI ((R : Int) + R + 0) D = c := ⟨_, rfl⟩
  have HC := Lib.hid hc
  have HA := Lib.hid (away_cmp neg Q R D hc)
  have h3 : c = -1 ∨ c = 0 ∨ c = 1 := by rw [← hc]; exact cmp_three _ _
  have Hq := Lib.hid (show ∀ W, Below w.heap.size w W → OwnI (.slice Aq (limbs Q).length cq) (limbs Q) W from fun W hb => OwnI.belowI oq hb)
  have Hr := Lib.hid (show ∀ W, Below w.heap.size w W → OwnI (.slice Ar (limbs R).length cr) (limbs R) W from fun W hb => OwnI.belowI or_ hb)
  have Hd := Lib.hid (show ∀ W, Below w.heap.size w W → OwnI (.slice Ad (limbs D).length cd) (limbs D) W from fun W hb => OwnI.belowI od hb)
  clear hc oq or_ od
  have bb0 : Below w.heap.size w (w.alloc (.cells #[.bool neg, .slice Aq (limbs Q).length cq, .slice Ar (limbs R).length cr, .slice Ad (limbs D).length cd] 205)) := below_al (Below.refl _ _) _
  have ks := (box_new w #[.bool neg, .slice Aq (limbs Q).length cq, .slice Ar (limbs R).length cr, .slice Ad (limbs D).length cd] 205)
  go_enter Tryz.func241, Tryz.ntmps241
  have ks_c0 := ks.here.cell 0 _ rfl
  have ks_c1 := ks.here.cell 1 _ rfl
  have ks_c2 := ks.here.cell 2 _ rfl
  have ks_c3 := ks.here.cell 3 _ rfl
  go_wp2_with fail
  clear ks_c0 ks_c1 ks_c2 ks_c3
  refine ((overHalf_any Aq Ar Ad cq cr cd neg Q R D _ hql hrl hdl (Hq.out _ bb0) (Hr.out _ bb0) (Hd.out _ bb0)).mono fun _ _ h => postn_eq HC.out h).mono ?_
  rintro e w1 ⟨rfl, b1⟩
  have bb1 := Below.next bb0 b1
  replace ks := ks.below b1
  clear h3 ks
  go_wp2
  go_ret
  exact ⟨ret_bool (HA.out.2.1.symm), bb1⟩
set_option maxHeartbeats 1000000 in
set_option maxRecDepth 100000 in
theorem farther_6 (Aq Ar Ad : Option Addr) (cq cr cd : Nat) (neg : Bool) (Q R D : Nat) (w : World) (hql : (limbs Q).length ≤ 50) (hrl : (limbs R).length ≤ 18) (hdl : (limbs D).length ≤ 18) (oq : OwnI (.slice Aq (limbs Q).length cq) (limbs Q) w) (or_ : OwnI (.slice Ar (limbs R).length cr) (limbs R) w) (od : OwnI (.slice Ad (limbs D).length cd) (limbs D) w) :
    Calls Tryz.prog 242 #[.agg #[.bool neg, .slice Aq (limbs Q).length cq, .slice Ar (limbs R).length cr, .slice Ad (limbs D).length cd]] w (Postb (awayB neg Q R D 6) w) := by
  obtain ⟨c, hc⟩ : ∃ c, cmpI ((R : Int) + R + 0) D = c := ⟨_, rfl⟩
  have HC := Lib.hid hc
  have HA := Lib.hid (away_cmp neg Q R D hc)
  have h3 : c = -1 ∨ c = 0 ∨ c = 1 := by rw [← hc]; exact cmp_three _ _
  have Hq := Lib.hid (show ∀ W, Below w.heap.size w W → OwnI (.slice Aq (limbs Q).length cq) (limbs Q) W from fun W hb => OwnI.belowI oq hb)
  have Hr := Lib.hid (show ∀ W, Below w.heap.size w W → OwnI (.slice Ar (limbs R).length cr) (limbs R) W from fun W hb => OwnI.belowI or_ hb)
  have Hd := Lib.hid (show ∀ W, Below w.heap.size w W → OwnI (.slice Ad (limbs D).length cd) (limbs D) W from fun W hb => OwnI.belowI od hb)
  clear hc oq or_ od
  have bb0 : Below w.heap.size w (w.alloc (.cells #[.bool neg, .slice Aq (limbs Q).length cq, .slice Ar (limbs R).length cr, .slice Ad (limbs D).length cd] 205)) := below_al (Below.refl _ _) _
  have ks := (box_new w #[.bool neg, .slice Aq (limbs Q).length cq, .slice Ar (limbs R).length cr, .slice Ad (limbs D).length cd] 205)
  go_enter Tryz.func242, Tryz.ntmps242
  have ks_c0 := ks.here.cell 0 _ rfl
  have ks_c1 := ks.here.cell 1 _ rfl
  have ks_c2 := ks.here.cell 2 _ rfl
  have ks_c3 := ks.here.cell 3 _ rfl
  go_wp2_with fail
  clear ks_c0 ks_c1 ks_c2 ks_c3
  refine ((overHalf_any Aq Ar Ad cq cr cd neg Q R D _ hql hrl hdl (Hq.out _ bb0) (Hr.out _ bb0) (Hd.out _ bb0)).mono fun _ _ h => postn_eq HC.out h).mono ?_
  rintro e w1 ⟨rfl, b1⟩
  have bb1 := Below.next bb0 b1
  replace ks := ks.below b1
  rcases h3 with rfl | rfl | rfl
  · skip
    have ks_c0 := ks.here.cell 0 _ rfl
    have ks_c1 := ks.here.cell 1 _ rfl
    have ks_c2 := ks.here.cell 2 _ rfl
    have ks_c3 := ks.here.cell 3 _ rfl
    go_wp2_with fail
    clear ks_c0 ks_c1 ks_c2 ks_c3
    refine ((overHalf_any Aq Ar Ad cq cr cd neg Q R D _ hql hrl hdl (Hq.out _ bb1) (Hr.out _ bb1) (Hd.out _ bb1)).mono fun _ _ h => postn_eq HC.out h).mono ?_
    rintro e w2 ⟨rfl, b2⟩
    have bb2 := Below.next bb1 b2
    replace ks := ks.below b2
    clear ks
    go_wp2
    go_ret
    exact ⟨ret_bool ((HA.out.2.2.trans (by simp)).symm), bb2⟩
  · have he : decide (Q % 2 = 1) = !decide (Q % 2 = 0) := by rcases Nat.mod_two_eq_zero_or_one Q with h | h <;> rw [h] <;> rfl
    have HV := Lib.hid (show awayB neg Q R D 6 = !decide (Q % 2 = 0) by rw [HA.out.2.2, he]; rfl)
    clear he HA
    have ks_c0 := ks.here.cell 0 _ rfl
    have ks_c1 := ks.here.cell 1 _ rfl
    have ks_c2 := ks.here.cell 2 _ rfl
    have ks_c3 := ks.here.cell 3 _ rfl
    go_wp2_with fail
    clear ks_c0 ks_c1 ks_c2 ks_c3
    refine ((overHalf_any Aq Ar Ad cq cr cd neg Q R D _ hql hrl hdl (Hq.out _ bb1) (Hr.out _ bb1) (Hd.out _ bb1)).mono fun _ _ h => postn_eq HC.out h).mono ?_
    rintro e w2 ⟨rfl, b2⟩
    have bb2 := Below.next bb1 b2
    replace ks := ks.below b2
    have ks_c0 := ks.here.cell 0 _ rfl
    have ks_c1 := ks.here.cell 1 _ rfl
    have ks_c2 := ks.here.cell 2 _ rfl
    have ks_c3 := ks.here.cell 3 _ rfl
    go_wp2_with fail
    clear ks_c0 ks_c1 ks_c2 ks_c3
    refine (implNatEven_any _ (limbs Q) 0 _ _ (by omega) (OwnI.row (Hq.out _ bb2))).mono ?_
    rintro e w_ ⟨rfl, rfl⟩
    rw [even_limbs (by omega)]
    generalize decide (Q % 2 = 0) = b at *
    clear ks
    cases b
    · skip
      go_wp2
      go_ret
      exact ⟨ret_bool (HV.out.symm), bb2⟩
    · skip
      go_wp2
      go_ret
      exact ⟨ret_bool (HV.out.symm), bb2⟩
  · skip
    clear ks
    go_wp2
    go_ret
    exact ⟨ret_bool ((HA.out.2.2.trans (by simp)).symm), bb1⟩
theorem farther_any (Aq Ar Ad : Option Addr) (cq cr cd : Nat) (neg : Bool) (Q R D : Nat) (w : World) (hql : (limbs Q).length ≤ 50) (hrl : (limbs R).length ≤ 18) (hdl : (limbs D).length ≤ 18) (oq : OwnI (.slice Aq (limbs Q).length cq) (limbs Q) w) (or_ : OwnI (.slice Ar (limbs R).length cr) (limbs R) w) (od : OwnI (.slice Ad (limbs D).length cd) (limbs D) w) (m : Int) (hm : modeB m = true) :
    Calls Tryz.prog (fnOf m) #[.agg #[.bool neg, .slice Aq (limbs Q).length cq, .slice Ar (limbs R).length cr, .slice Ad (limbs D).length cd]] w (Postb (awayB neg Q R D m) w) := by
  rcases modeB_cases hm with rfl | rfl | rfl | rfl | rfl | rfl | rfl
  · exact farther_0 Aq Ar Ad cq cr cd neg Q R D w hql hrl hdl oq or_ od
  · exact farther_1 Aq Ar Ad cq cr cd neg Q R D w hql hrl hdl oq or_ od
  · exact farther_2 Aq Ar Ad cq cr cd neg Q R D w hql hrl hdl oq or_ od
  · exact farther_3 Aq Ar Ad cq cr cd neg Q R D w hql hrl hdl oq or_ od
  · exact farther_4 Aq Ar Ad cq cr cd neg Q R D w hql hrl hdl oq or_ od
  · exact farther_5 Aq Ar Ad cq cr cd neg Q R D w hql hrl hdl oq or_ od
  · exact farther_6 Aq Ar Ad cq cr cd neg Q R D w hql hrl hdl oq or_ od
theorem fnOf_enters {m : Int} (hm : modeB m = true) : Enters Tryz.prog (fnOf m) := by
  rcases modeB_cases hm with rfl | rfl | rfl | rfl | rfl | rfl | rfl
  · exact (enters_of Tryz.func235 (by kernel_rfl) rfl : Enters Tryz.prog 235)
  · exact (enters_of Tryz.func236 (by kernel_rfl) rfl : Enters Tryz.prog 236)
  · exact (enters_of Tryz.func237 (by kernel_rfl) rfl : Enters Tryz.prog 237)
  · exact (enters_of Tryz.func238 (by kernel_rfl) rfl : Enters Tryz.prog 238)
  · exact (enters_of Tryz.func239 (by kernel_rfl) rfl : Enters Tryz.prog 239)
  · exact (enters_of Tryz.func241 (by kernel_rfl) rfl : Enters Tryz.prog 241)
  · exact (enters_of Tryz.func242 (by kernel_rfl) rfl : Enters Tryz.prog 242)
set_option maxHeartbeats 4000000 in
set_option maxRecDepth 100000 in
theorem quotient_any (nm : ByteArray) (vx vd : Value) (x : SI) (D : Nat) (m : Int) (w : World) (hm : modeB m = true) (ok : okS x = true) (h0D : 0 < D) (hdl : (limbs D).length ≤ 18) (hx : OwnS vx x w) (hd : OwnI vd (limbs D) w) (hsen : Sen w) :
    Calls Tryz.prog 185 #[.agg #[.string nm, .func (.func (fnOf m)) #[] #[]], vx, vd] w (NewV (fun u => OwnS u (mkS x.1 (quoL x.1 (nval x.2).toNat D m))) w) := by
  have HS := Lib.hid hsen
  clear hsen
  have Hx := Lib.hid hx
  obtain ⟨Ax, cx, rfl⟩ := ownS_form hx
  have OSx := Lib.hid (show ∀ W, Below w.heap.size w W → OwnS (.agg #[.bool x.1, .slice Ax x.2.length cx]) x W from fun W hb => OwnS.below Hx.out hb)
  have OIx := Lib.hid (show ∀ W, Below w.heap.size w W → OwnI (.slice Ax x.2.length cx) x.2 W from fun W hb => ownS_open (OSx.out W hb))
  clear hx
  obtain ⟨Ad, cd, rfl⟩ := own_len hd
  have ODd := Lib.hid (show ∀ W, Below w.heap.size w W → OwnI (.slice Ad (limbs D).length cd) (limbs D) W from fun W hb => OwnI.belowI hd hb)
  clear hd
  have HM := Lib.hid hm
  have HO := Lib.hid ok
  have HF := Lib.hid (fun (Aq Ar Ad : Option Addr) (cq cr cd : Nat) (neg : Bool) (Q R D : Nat) (w : World) hql hrl hdl oq or_ od => farther_any Aq Ar Ad cq cr cd neg Q R D w hql hrl hdl oq or_ od m hm)
  have he := fnOf_enters hm
  unfold Enters at he
  clear hm
  generalize fnOf m = fk at HF he ⊢
  have bb0 : Below w.heap.size w (((w.alloc (.cells #[.string nm, .func (.func fk) #[] #[]] 172)).alloc (.cells #[.bool x.1, .slice Ax x.2.length cx] 31)).alloc (.cells #[.bool false, .slice none 0 0] 31)) := below_al (below_al (below_al (Below.refl _ _) _) _) _
  have km := (box_new w #[.string nm, .func (.func fk) #[] #[]] 172).below (below_al (below_al (Below.refl _ _) (.cells #[.bool x.1, .slice Ax x.2.length cx] 31)) (.cells #[.bool false, .slice none 0 0] 31))
  have kx := (box_new (w.alloc (.cells #[.string nm, .func (.func fk) #[] #[]] 172)) #[.bool x.1, .slice Ax x.2.length cx] 31).below (below_al (Below.refl _ _) (.cells #[.bool false, .slice none 0 0] 31))
  rw [show (w.alloc (.cells #[.string nm, .func (.func fk) #[] #[]] 172)).heap.size = w.heap.size + 1 by simp] at kx
  have ko := (box_new ((w.alloc (.cells #[.string nm, .func (.func fk) #[] #[]] 172)).alloc (.cells #[.bool x.1, .slice Ax x.2.length cx] 31)) #[.bool false, .slice none 0 0] 31)
  rw [show ((w.alloc (.cells #[.string nm, .func (.func fk) #[] #[]] 172)).alloc (.cells #[.bool x.1, .slice Ax x.2.length cx] 31)).heap.size = w.heap.size + 1 + 1 by simp] at ko
  have HKO := Lib.hid (ko.lt (w.heap.size + 1 + 1) (by simp))
  have hp := okS_parts ok
  have hn := nval_ok hp.1
  have hx50 := (natOk_parts hp.1).2.1
  obtain ⟨A, hA⟩ : ∃ A, (nval x.2).toNat = A := ⟨_, rfl⟩
  have hxA : x.2 = limbs A := by rw [← hA]; exact natOk_limbs hp.1
  have hnA : nval x.2 = (A : Int) := by omega
  rw [hA]
  obtain ⟨Q, hQ⟩ : ∃ Q, A / D = Q := ⟨_, rfl⟩
  obtain ⟨R, hR⟩ : ∃ R, A % D = R := ⟨_, rfl⟩
  have EQ := Lib.hid hQ
  have ER := Lib.hid hR
  have hAl := nval_lt (limbs A) (limbs_digN A)
  rw [limbs_val, ← hxA] at hAl
  have hql : (limbs Q).length ≤ 50 := Nat.le_trans (limbs_length_le Q x.2.length (by have h1 := Nat.div_le_self A D; rw [hQ] at h1; omega)) hx50
  have hDl := nval_lt (limbs D) (limbs_digN D)
  rw [limbs_val] at hDl
  have hrl : (limbs R).length ≤ 18 := Nat.le_trans (limbs_length_le R (limbs D).length (by have h1 := Nat.mod_lt A h0D; rw [hR] at h1; omega)) hdl
  have hD0 : 0 < (limbs D).length := by have := (limbs_zero_iff D).1; omega
  have hdv : divN x.2 (limbs D) = (limbs Q, limbs R) := by unfold divN; rw [if_pos ⟨hp.1, limbs_okL D (by omega), hD0⟩, hnA, limbs_val, div_toNat, ← Int.natCast_emod, Int.toNat_natCast, hQ, hR]
  have E1 := Lib.hid (show (divN x.2 (limbs D)).1 = limbs Q by rw [hdv])
  have E2 := Lib.hid (show (divN x.2 (limbs D)).2 = limbs R by rw [hdv])
  clear hA hxA hnA hQ hR hAl hDl hdv hp hn ok hD0 h0D
  go_enter Tryz.func185, Tryz.ntmps185
  have kx_c0 := kx.here.cell 0 _ rfl
  have kx_c1 := kx.here.cell 1 _ rfl
  go_wp2_with fail
  clear kx_c0 kx_c1
  refine ((implNatDiv_any _ _ x.2 (limbs D) 0 _ 0 _ _ (by omega) (by omega) (Nat.le_refl _) (Nat.le_refl _) (OIx.out _ bb0).row (ODd.out _ bb0).row (HS.out.below bb0)).mono fun _ _ h => twoRows_eq h E1.out E2.out).mono ?_
  rintro e w1 ⟨vq, vr_, rfl, oq0, or0, hqr, b1⟩
  obtain ⟨Aq, cq, rfl⟩ := own_len oq0
  obtain ⟨As, cs, rfl⟩ := own_len or0
  have oq := own_at' oq0
  have os := own_at' or0
  have lq := own_within oq0
  clear oq0 or0 hqr
  have bb1 := Below.next bb0 b1
  replace km := km.below b1
  replace kx := kx.below b1
  replace ko := ko.below b1
  by_cases h0 : R = 0
  · have HV := Lib.hid (show quoL x.1 A D m = limbs Q from quoL_plain EQ.out ER.out (.inl h0))
    subst h0
    rw [show (limbs 0).length = 0 by rw [limbs_zero]; rfl] at *
    clear os
    have hX50 : (limbs Q).length ≤ 50 := hql
    obtain ⟨sg, hsg⟩ : ∃ sg, (x.1 && decide (0 < (limbs Q).length)) = sg := ⟨_, rfl⟩
    have ESG := Lib.hid hsg
    have EM := Lib.hid (show mkS x.1 (quoL x.1 A D m) = (sg, limbs Q) by rw [HV.out]; exact mkS_quo hX50 hsg)
    clear hsg
    have kx_c0 := kx.here.cell 0 _ rfl
    have kx_c1 := kx.here.cell 1 _ rfl
    have kn := box_new (w1) #[.slice Aq (limbs Q).length cq, .bool x.1] 104
    have aln := below_al (Below.refl (w1).heap.size (w1)) (.cells #[.slice Aq (limbs Q).length cq, .bool x.1] 104)
    have bbn := Below.next bb1 aln
    replace km := km.below aln
    replace kx := kx.below aln
    replace ko := ko.below aln
    replace oq := oq.below aln
    go_wp2_with fail
    clear kx_c0 kx_c1
    refine (signed_same _ _ Aq cq (limbs Q) sg _ hX50 ESG.out kn.here).mono ?_
    rintro e w2 ⟨rfl, b2⟩
    have bb2 := Below.next bbn b2
    replace km := km.below b2
    replace kx := kx.below b2
    replace ko := ko.below b2
    replace oq := oq.below b2
    replace kn := kn.below b2
    have of := oq.imp (fun _ h => (OwnS.mk h : OwnS (.agg #[.bool (sg, (limbs Q)).1, .slice Aq (limbs Q).length cq]) (sg, (limbs Q)) _))
    have lf := within_up lq (Nat.le_refl _) (show _ ≤ w2.heap.size by have := aln.size; have := b2.size; omega)
    have HW := Lib.hid (newS_at (r := w.heap.size + 1 + 1) of lf (by have := HKO.out; have := b1.size;  omega) (by omega) bb2)
    have cz0 := ko.here.cell 0 _ rfl
    have fz0 := Lib.frozen_of_heap ko.here 0
    have cz1 := ko.here.cell 1 _ rfl
    have fz1 := Lib.frozen_of_heap ko.here 1
    clear of ko kn km
    go_wp2
    refine bodyPost_ret (v := .agg #[.bool sg, .slice Aq _ cq]) (by simp [results, Tryz.results185, go_sem, cz0, cz1]; try rfl) rfl ?_
    rw [EM.out]
    exact HW.out
  · have hlen : ((limbs R).length : Int) > 0 := by have := mt (limbs_zero_iff R).1 h0; omega
    have H0 := Lib.hid h0
    clear h0
    have kx_c0 := kx.here.cell 0 _ rfl
    have kx_c1 := kx.here.cell 1 _ rfl
    have km_c0 := km.here.cell 0 _ rfl
    have km_c1 := km.here.cell 1 _ rfl
    go_wp2_with fail
    clear kx_c0 kx_c1 km_c0 km_c1
    refine (show Calls _ fk #[.agg #[.bool x.1, .slice Aq (limbs Q).length cq, .slice As (limbs R).length cs, .slice Ad (limbs D).length cd]] _ (Postb (awayB x.1 Q R D m) _) from HF.out Aq As Ad cq cs cd x.1 Q R D _ hql hrl hdl oq.here os.here (ODd.out _ bb1)).mono ?_
    rintro e w2 ⟨rfl, b2⟩
    have bb2 := Below.next bb1 b2
    replace km := km.below b2
    replace kx := kx.below b2
    replace ko := ko.below b2
    replace oq := oq.below b2
    replace os := os.below b2
    by_cases ha : awayB x.1 Q R D m = true
    · have HV := Lib.hid (show quoL x.1 A D m = addN (limbs Q) (limbs 1) from quoL_more EQ.out ER.out H0.out ha)
      rw [ha]
      clear ha
      have kx_c0 := kx.here.cell 0 _ rfl
      have kx_c1 := kx.here.cell 1 _ rfl
      go_wp2_with fail
      clear kx_c0 kx_c1
      refine (implNatOf_any 1 _ (by decide)).mono ?_
      rintro e w3 ⟨vo, rfl, oo, b3⟩
      rw [show (1 : Int).toNat = 1 from rfl] at oo
      have bb3 := Below.next bb2 b3
      replace km := km.below b3
      replace kx := kx.below b3
      replace ko := ko.below b3
      replace oq := oq.below b3
      replace os := os.below b3
      go_wp2_with fail
      refine (implNatAdd_any _ _ (limbs Q) (limbs 1) 0 _ _ _ _ (by omega) (by rw [one_limbs]; decide) (Nat.le_refl _) (Nat.le_refl _) oq.here.row (Row.of_own oo)).mono ?_
      rintro e w4 ⟨vz, rfl, oz0, b4⟩
      obtain ⟨Az, cz, rfl⟩ := own_len oz0
      have oz := own_at' oz0
      have lz := own_within oz0
      clear oz0
      have bb4 := Below.next bb3 b4
      replace km := km.below b4
      replace kx := kx.below b4
      replace ko := ko.below b4
      replace oq := oq.below b4
      replace os := os.below b4
      clear oq os
      have hX50 : (addN (limbs Q) (limbs 1)).length ≤ 50 := addN_len50 _ _
      obtain ⟨sg, hsg⟩ : ∃ sg, (x.1 && decide (0 < (addN (limbs Q) (limbs 1)).length)) = sg := ⟨_, rfl⟩
      have ESG := Lib.hid hsg
      have EM := Lib.hid (show mkS x.1 (quoL x.1 A D m) = (sg, addN (limbs Q) (limbs 1)) by rw [HV.out]; exact mkS_quo hX50 hsg)
      clear hsg
      have kx_c0 := kx.here.cell 0 _ rfl
      have kx_c1 := kx.here.cell 1 _ rfl
      have kn := box_new (w4) #[.slice Az (addN (limbs Q) (limbs 1)).length cz, .bool x.1] 104
      have aln := below_al (Below.refl (w4).heap.size (w4)) (.cells #[.slice Az (addN (limbs Q) (limbs 1)).length cz, .bool x.1] 104)
      have bbn := Below.next bb4 aln
      replace km := km.below aln
      replace kx := kx.below aln
      replace ko := ko.below aln
      replace oz := oz.below aln
      go_wp2_with fail
      clear kx_c0 kx_c1
      refine (signed_same _ _ Az cz (addN (limbs Q) (limbs 1)) sg _ hX50 ESG.out kn.here).mono ?_
      rintro e w5 ⟨rfl, b5⟩
      have bb5 := Below.next bbn b5
      replace km := km.below b5
      replace kx := kx.below b5
      replace ko := ko.below b5
      replace oz := oz.below b5
      replace kn := kn.below b5
      have of := oz.imp (fun _ h => (OwnS.mk h : OwnS (.agg #[.bool (sg, (addN (limbs Q) (limbs 1))).1, .slice Az (addN (limbs Q) (limbs 1)).length cz]) (sg, (addN (limbs Q) (limbs 1))) _))
      have lf := within_up lz (Nat.le_refl _) (show _ ≤ w5.heap.size by have := aln.size; have := b2.size; have := b3.size; have := b4.size; have := b5.size; omega)
      have HW := Lib.hid (newS_at (r := w.heap.size + 1 + 1) of lf (by have := HKO.out; have := b1.size; have := b2.size; have := b3.size; have := b4.size; omega) (by omega) bb5)
      have cz0 := ko.here.cell 0 _ rfl
      have fz0 := Lib.frozen_of_heap ko.here 0
      have cz1 := ko.here.cell 1 _ rfl
      have fz1 := Lib.frozen_of_heap ko.here 1
      clear of ko kn km
      go_wp2
      refine bodyPost_ret (v := .agg #[.bool sg, .slice Az _ cz]) (by simp [results, Tryz.results185, go_sem, cz0, cz1]; try rfl) rfl ?_
      rw [EM.out]
      exact HW.out
    · have ha' : awayB x.1 Q R D m = false := by simpa using ha
      have HV := Lib.hid (show quoL x.1 A D m = limbs Q from quoL_plain EQ.out ER.out (.inr ha'))
      rw [ha']
      clear ha ha' os
      have hX50 : (limbs Q).length ≤ 50 := hql
      obtain ⟨sg, hsg⟩ : ∃ sg, (x.1 && decide (0 < (limbs Q).length)) = sg := ⟨_, rfl⟩
      have ESG := Lib.hid hsg
      have EM := Lib.hid (show mkS x.1 (quoL x.1 A D m) = (sg, limbs Q) by rw [HV.out]; exact mkS_quo hX50 hsg)
      clear hsg
      have kx_c0 := kx.here.cell 0 _ rfl
      have kx_c1 := kx.here.cell 1 _ rfl
      have kn := box_new (w2) #[.slice Aq (limbs Q).length cq, .bool x.1] 104
      have aln := below_al (Below.refl (w2).heap.size (w2)) (.cells #[.slice Aq (limbs Q).length cq, .bool x.1] 104)
      have bbn := Below.next bb2 aln
      replace km := km.below aln
      replace kx := kx.below aln
      replace ko := ko.below aln
      replace oq := oq.below aln
      go_wp2_with fail
      clear kx_c0 kx_c1
      refine (signed_same _ _ Aq cq (limbs Q) sg _ hX50 ESG.out kn.here).mono ?_
      rintro e w3 ⟨rfl, b3⟩
      have bb3 := Below.next bbn b3
      replace km := km.below b3
      replace kx := kx.below b3
      replace ko := ko.below b3
      replace oq := oq.below b3
      replace kn := kn.below b3
      have of := oq.imp (fun _ h => (OwnS.mk h : OwnS (.agg #[.bool (sg, (limbs Q)).1, .slice Aq (limbs Q).length cq]) (sg, (limbs Q)) _))
      have lf := within_up lq (Nat.le_refl _) (show _ ≤ w3.heap.size by have := aln.size; have := b2.size; have := b3.size; omega)
      have HW := Lib.hid (newS_at (r := w.heap.size + 1 + 1) of lf (by have := HKO.out; have := b1.size; have := b2.size; omega) (by omega) bb3)
      have cz0 := ko.here.cell 0 _ rfl
      have fz0 := Lib.frozen_of_heap ko.here 0
      have cz1 := ko.here.cell 1 _ rfl
      have fz1 := Lib.frozen_of_heap ko.here 1
      clear of ko kn km
      go_wp2
      refine bodyPost_ret (v := .agg #[.bool sg, .slice Aq _ cq]) (by simp [results, Tryz.results185, go_sem, cz0, cz1]; try rfl) rfl ?_
      rw [EM.out]
      exact HW.out
end Go.Proofs.YtofehcpapdlcnaaGreatDoor

namespace Go.Proofs.YtofehcpapdlcnaaGreatDoor
open Go.RowKit

set_option maxHeartbeats 4000000 in
set_option maxRecDepth 100000 in
theorem implDecRat_any (va : Value) (a : DI) (w : World) (hla : a.1.2.length ≤ 1048576) (ha : OwnD va a w) (hsen : Sen w) :
    Calls Tryz.prog 84 #[va] w (NewV (fun u => OwnQ u (ratD a)) w) := by
  have HS := Lib.hid hsen
  clear hsen
  have Ha := Lib.hid ha
  obtain ⟨Aa, ca, rfl⟩ := ownD_form ha
  have ODa := Lib.hid (show ∀ W, Below w.heap.size w W → OwnD (.agg #[.bool a.1.1, .slice Aa a.1.2.length ca, .int .i64 a.2]) a W from fun W hb => OwnD.below Ha.out hb)
  have OIa := Lib.hid (show ∀ W, Below w.heap.size w W → OwnI (.slice Aa a.1.2.length ca) a.1.2 W from fun W hb => ownD_open (ODa.out W hb))
  have OSa := Lib.hid (show ∀ W, Below w.heap.size w W → OwnS (.agg #[.bool a.1.1, .slice Aa a.1.2.length ca]) a.1 W from fun W hb => OwnS.mk (OIa.out W hb))
  clear ha
  have bb0 : Below w.heap.size w ((w.alloc (.cells #[.bool a.1.1, .slice Aa a.1.2.length ca, .int .i64 a.2] 40)).alloc (.cells #[.bool false, .slice none 0 0, .slice none 0 0] 35)) := below_al (below_al (Below.refl _ _) _) _
  have ka := (box_new w #[.bool a.1.1, .slice Aa a.1.2.length ca, .int .i64 a.2] 40).below (below_al (Below.refl _ _) (.cells #[.bool false, .slice none 0 0, .slice none 0 0] 35))
  have ko := (box_new (w.alloc (.cells #[.bool a.1.1, .slice Aa a.1.2.length ca, .int .i64 a.2] 40)) #[.bool false, .slice none 0 0, .slice none 0 0] 35)
  rw [show (w.alloc (.cells #[.bool a.1.1, .slice Aa a.1.2.length ca, .int .i64 a.2] 40)).heap.size = w.heap.size + 1 by simp] at ko
  have HKO := Lib.hid (ko.lt (w.heap.size + 1) (by simp))
  obtain ⟨Q, hQ⟩ : ∃ Q, ratD a = Q := ⟨_, rfl⟩
  have EQ0 := Lib.hid hQ
  rw [hQ]
  clear hQ
  go_enter Tryz.func84, Tryz.ntmps84
  have ka_c0 := ka.here.cell 0 _ rfl
  have ka_c1 := ka.here.cell 1 _ rfl
  have ka_c2 := ka.here.cell 2 _ rfl
  go_wp2_with fail
  clear ka_c0 ka_c1 ka_c2
  refine (implDecOk_any _ a _ hla (ODa.out _ bb0)).mono ?_
  rintro e w1 ⟨rfl, b1⟩
  have bb1 := Below.next bb0 b1
  replace ka := ka.below b1
  replace ko := ko.below b1
  by_cases ok : okD a = true
  · rw [ok]
    have HT := Lib.hid (ten_bd ok)
    have hl6 := (partsD ok).len
    have hzA : szS a.1 ≤ 1048576 := by unfold szS szI; omega
    have hzT := szS_ten a.2
    have EQ := Lib.hid (show makeQ a.1 (tenS a.2) = (Q, true) by rw [← EQ0.out]; exact HT.out.1)
    clear ok hl6
    have ka_c0 := ka.here.cell 0 _ rfl
    have ka_c1 := ka.here.cell 1 _ rfl
    have ka_c2 := ka.here.cell 2 _ rfl
    go_upto_region 3 with fail
    go_cut [3, 4] (fun s1 s2 wx => NewLocV 35 (fun v => OwnQ v Q) w1 s1 wx ∧ s2 = .bool true)
    case first =>
      have HC0 := Lib.hid (show Chg [] w1 w1.drew from (Chg.refl _ _).drew1)
      have HCr := Lib.hid (show Chg [] w1 w1 from Chg.refl _ _)
      have KL := Lib.hid (show ∀ W, Chg [] w1 W → W.cell? ⟨w.heap.size, 0, none⟩ = some (.bool a.1.1) ∧ W.cell? ⟨w.heap.size, 1, none⟩ = some (.slice Aa a.1.2.length ca) ∧ W.cell? ⟨w.heap.size, 2, none⟩ = some (.int .i64 a.2) ∧ Hid (Chg [] w1 W) from fun W hc => ⟨(ka.chg hc (fun i hi hm => by simp at hm)).here.cell 0 _ rfl, (ka.chg hc (fun i hi hm => by simp at hm)).here.cell 1 _ rfl, (ka.chg hc (fun i hi hm => by simp at hm)).here.cell 2 _ rfl, Lib.hid hc⟩)
      have BBF := Lib.hid (show ∀ W, Chg [] w1 W → Below w.heap.size w W from fun W hc => below_chg bb1 hc bb1.size (fun i hi => by simp at hi))
      clear ka_c0 ka_c1 ka_c2
      go_region_held3 (fun W => W.cell? ⟨w.heap.size, 0, none⟩ = some (.bool a.1.1) ∧ W.cell? ⟨w.heap.size, 1, none⟩ = some (.slice Aa a.1.2.length ca) ∧ W.cell? ⟨w.heap.size, 2, none⟩ = some (.int .i64 a.2) ∧ Hid (Chg [] w1 W))
        ((refine KL.out _ ?_; (first | exact HC3.out | exact HC2.out | exact HCr.out | exact HC0.out | exact HC3.out.drew1 | exact HC2.out.drew1 | exact HCr.out.drew1 | exact HC0.out.drew1 | exact HC3.out.trans (Chg.of_below (below_al (Below.refl _ _) _)) | exact HC2.out.trans (Chg.of_below (below_al (Below.refl _ _) _)) | exact HCr.out.trans (Chg.of_below (below_al (Below.refl _ _) _)) | exact HC0.out.trans (Chg.of_below (below_al (Below.refl _ _) _)) | exact (Chg.setNew HC3.out (by first | exact HC3.out.size | exact HC2.out.size | exact HCr.out.size | exact HC0.out.size) _) | exact (Chg.setNew (Chg.setNew HC3.out (by first | exact HC3.out.size | exact HC2.out.size | exact HCr.out.size | exact HC0.out.size) _) (by first | exact HC3.out.size | exact HC2.out.size | exact HCr.out.size | exact HC0.out.size) _) | exact (Chg.setNew (Chg.setNew (Chg.setNew HC3.out (by first | exact HC3.out.size | exact HC2.out.size | exact HCr.out.size | exact HC0.out.size) _) (by first | exact HC3.out.size | exact HC2.out.size | exact HCr.out.size | exact HC0.out.size) _) (by first | exact HC3.out.size | exact HC2.out.size | exact HCr.out.size | exact HC0.out.size) _) | fail)))
        (first
          | (go_at_call 138; (have hBB := (‹_ ∧ _ ∧ _ ∧ Hid (Chg [] w1 _)›).2.2.2); (with_reducible refine (tenTo_any a.2 _).mono ?_); rintro e w2 ⟨ut, St, rfl, ot, lt, b2⟩; have HC2 := Lib.hid (hBB.out.trans (Chg.of_below b2)); obtain ⟨At_, ct, rfl⟩ := ownS_form ot.here; (first | (have early2 : At [w1.heap.size] (BoxAt w1.heap.size #[.bool false, .slice none 0 0, .slice none 0 0] 35) w2 := At.below (box_new w1.drew _ _) b2) | (have early2 := At.below (box_new _ #[.bool false, .slice none 0 0, .slice none 0 0] 35) b2) | (have early2 := At.below early1 b2) | skip); have HBZ2 := Lib.hid hBB.out.size; clear hBB)
          | (go_at_call 134; (have hBB := (‹_ ∧ _ ∧ _ ∧ Hid (Chg [] w1 _)›).2.2.2); (with_reducible refine ((implRatMake_any _ _ a.1 (tenS a.2) _ hzA hzT (OSa.out _ (BBF.out _ hBB.out)) (At.here (by first | exact ot | exact At.below ot (below_al (Below.refl _ _) _) | exact At.below (At.below ot (below_al (Below.refl _ _) _)) (below_al (Below.refl _ _) _) | exact At.move ot (fun _ _ => rfl) (Nat.le_refl _))) (HS.out.below (BBF.out _ hBB.out))).mono fun _ _ h => postQb_isD EQ.out h).mono ?_); rintro e w3 ⟨uf, Sf, rfl, of, lf, b3⟩; have HC3 := Lib.hid (hBB.out.trans (Chg.of_below b3)); (have ot_3 := At.below (by first | exact ot | exact At.below ot (below_al (Below.refl _ _) _) | exact At.below (At.below ot (below_al (Below.refl _ _) _)) (below_al (Below.refl _ _) _) | exact At.move ot (fun _ _ => rfl) (Nat.le_refl _)) b3); obtain ⟨Af, cf, Bf, df, rfl⟩ := ownQ_form of.here; (first | have hbxg := At.below_lt (box_new _ #[.bool false, .slice none 0 0, .slice none 0 0] 35) b3 | have hbxg := At.below_lt early2 b3 | skip); (try (have hbxf := hbxg.1; have HGB := Lib.hid hbxg.2; clear hbxg)); (try (have cz0 := hbxf.here.cell 0 _ rfl; have fz0 := Lib.frozen_of_heap hbxf.here 0; have cz1 := hbxf.here.cell 1 _ rfl; have fz1 := Lib.frozen_of_heap hbxf.here 1; have cz2 := hbxf.here.cell 2 _ rfl; have fz2 := Lib.frozen_of_heap hbxf.here 2)); have HBZ3 := Lib.hid hBB.out.size; clear hBB))
      all_goals (go_wp2_with fail; go_meet; first | exact ⟨newLocV_last of lf HBZ3.out (below_of_chg HC3.out), rfl⟩ | exact ⟨newLocV_early3 hbxf.here of lf (by first | exact HC2.out.size | exact HCr.out.size | exact HC0.out.size) HGB.out (below_of_chg HC3.out), rfl⟩)
    rename World => w2
    clear ka_c0 ka_c1 ka_c2
    obtain ⟨⟨gy, csy, Sy, rfl, ky, oy, ny, ly, b2⟩, rfl⟩ := hcut
    obtain ⟨Ay, cy, By, dy, ey⟩ := ownQ_form oy.here
    injection ey with ey
    subst ey
    have bb2 := Below.next bb1 b2
    replace ka := ka.below b2
    replace ko := ko.below b2
    have HW := Lib.hid (newV_chg (φ := fun v => OwnQ v Q) (T := [w.heap.size + 1]) oy (fun i hi hm => by have := ly i (List.mem_cons_of_mem _ hi); have := HKO.out; have := b1.size; simp at hm; omega) (fun i hi => by simp at hi; omega) (fun i hi => by have := ly i (List.mem_cons_of_mem _ hi); have := HKO.out; have := b1.size; omega) bb2)
    have ky_c0 := ky.here.cell 0 _ rfl
    have ky_c1 := ky.here.cell 1 _ rfl
    have ky_c2 := ky.here.cell 2 _ rfl
    have cz0 := ko.here.cell 0 _ rfl
    have fz0 := Lib.frozen_of_heap ko.here 0
    have cz1 := ko.here.cell 1 _ rfl
    have fz1 := Lib.frozen_of_heap ko.here 1
    have cz2 := ko.here.cell 2 _ rfl
    have fz2 := Lib.frozen_of_heap ko.here 2
    clear oy ky ko ka
    go_wp2
    refine bodyPost_ret (v := .agg #[.bool _, .slice Ay _ cy, .slice By _ dy]) (by simp [results, Tryz.results84, go_sem, cz0, cz1, cz2]; exact ⟨rfl, rfl, rfl⟩) rfl ?_
    refine HW.out _ ?_
    repeat (first | exact Chg.refl _ _ | refine Chg.setCell ?_ (by simp) _)
  · have ok' : okD a = false := by simpa using ok
    have HV := Lib.hid (show Q = zeroQ from EQ0.out.symm.trans (rat_bad ok))
    rw [ok']
    clear ok ok' ka
    have cz0 := ko.here.cell 0 _ rfl
    have fz0 := Lib.frozen_of_heap ko.here 0
    have cz1 := ko.here.cell 1 _ rfl
    have fz1 := Lib.frozen_of_heap ko.here 1
    have cz2 := ko.here.cell 2 _ rfl
    have fz2 := Lib.frozen_of_heap ko.here 2
    go_wp2
    refine bodyPost_ret (v := .agg #[.bool false, .slice none 0 0, .slice none 0 0]) (by simp [results, Tryz.results84, go_sem, cz0, cz1, cz2]) rfl ?_
    rw [HV.out]
    first | exact newQ_zeroD bb1 | exact newQ_zeroD (below_set3 bb1 (by omega))
set_option maxHeartbeats 4000000 in
set_option maxRecDepth 100000 in
theorem implRatDec_any (vr : Value) (r : QI) (k m : Int) (w : World) (hz : szQ r ≤ 1048576) (hr : OwnQ vr r w) (hsen : Sen w) :
    Calls Tryz.prog 159 #[vr, .int .i64 k, .int .i64 m] w (PostDb (ratDecD r k m).1 (ratDecD r k m).2 w) := by
  have HS := Lib.hid hsen
  clear hsen
  have Hr := Lib.hid hr
  obtain ⟨Ar, cr, Br, dr, rfl⟩ := ownQ_form hr
  have OQr := Lib.hid (show ∀ W, Below w.heap.size w W → OwnQ (.agg #[.bool r.1.1, .slice Ar r.1.2.length cr, .slice Br r.2.length dr]) r W from fun W hb => OwnQ.below Hr.out hb)
  have OUr := Lib.hid (show ∀ W, Below w.heap.size w W → OwnI (.slice Ar r.1.2.length cr) r.1.2 W from fun W hb => (ownQ_open (OQr.out W hb)).2.1)
  have ODr := Lib.hid (show ∀ W, Below w.heap.size w W → OwnI (.slice Br r.2.length dr) r.2 W from fun W hb => (ownQ_open (OQr.out W hb)).2.2.1)
  have OSr := Lib.hid (show ∀ W, Below w.heap.size w W → OwnS (.agg #[.bool r.1.1, .slice Ar r.1.2.length cr]) r.1 W from fun W hb => OwnS.mk (OUr.out W hb))
  clear hr
  have bb0 : Below w.heap.size w ((w.alloc (.cells #[.bool r.1.1, .slice Ar r.1.2.length cr, .slice Br r.2.length dr] 35)).alloc (.cells #[.bool false, .slice none 0 0, .int .i64 0] 40)) := below_al (below_al (Below.refl _ _) _) _
  have kr := (box_new w #[.bool r.1.1, .slice Ar r.1.2.length cr, .slice Br r.2.length dr] 35).below (below_al (Below.refl _ _) (.cells #[.bool false, .slice none 0 0, .int .i64 0] 40))
  have ko := (box_new (w.alloc (.cells #[.bool r.1.1, .slice Ar r.1.2.length cr, .slice Br r.2.length dr] 35)) #[.bool false, .slice none 0 0, .int .i64 0] 40)
  rw [show (w.alloc (.cells #[.bool r.1.1, .slice Ar r.1.2.length cr, .slice Br r.2.length dr] 35)).heap.size = w.heap.size + 1 by simp] at ko
  have HKO := Lib.hid (ko.lt (w.heap.size + 1) (by simp))
  by_cases hm : modeB m = true
  · have HM := Lib.hid hm
    have HRO := Lib.hid (roundingOf_mode m hm)
    have HQU := Lib.hid (fun (nm : ByteArray) (vx vd : Value) (x : SI) (D : Nat) (w : World) => quotient_any nm vx vd x D m w hm)
    clear hm
    generalize nameB m = nm at HRO
    generalize fnOf m = fk at HRO HQU
    go_enter Tryz.func159, Tryz.ntmps159
    go_wp2_with fail
    refine (HRO.out _).mono ?_
    rintro e w1 ⟨rfl, b1⟩
    have bb1 := Below.next bb0 b1
    replace kr := kr.below b1
    replace ko := ko.below b1
    have km := box_new (w1) #[.string nm, .func (.func fk) #[] #[]] 172
    have alm := below_al (Below.refl (w1).heap.size (w1)) (.cells #[.string nm, .func (.func fk) #[] #[]] 172)
    have bbm := Below.next bb1 alm
    replace kr := kr.below alm
    replace ko := ko.below alm
    have kr_c0 := kr.here.cell 0 _ rfl
    have kr_c1 := kr.here.cell 1 _ rfl
    have kr_c2 := kr.here.cell 2 _ rfl
    go_wp2_with fail
    clear kr_c0 kr_c1 kr_c2
    refine (implRatOk_any _ r _ hz (OQr.out _ bbm) (HS.out.below bbm)).mono ?_
    rintro e w2 ⟨rfl, b2⟩
    have bb2 := Below.next bbm b2
    replace kr := kr.below b2
    replace ko := ko.below b2
    replace km := km.below b2
    by_cases ok : okQ r = true
    · rw [ok]
      have HO := Lib.hid ok
      have HP := Lib.hid (parts_of ok)
      have e0 := impl_ratDec (k := k) (m := m) ok HM.out
      obtain ⟨Q, hQ⟩ : ∃ Q, ratDecD r k m = Q := ⟨_, rfl⟩
      have HV := Lib.hid hQ
      obtain ⟨X, hX⟩ : ∃ X, mulS r.1 (tenS k) = X := ⟨_, rfl⟩
      have EX := Lib.hid hX
      have hXo : okS X = true := by rw [← hX, mulS_ofZ HP.out.okn]; exact ofZ_ok _
      have hX50 := (natOk_parts (okS_parts hXo).1).2.1
      rw [hX, hQ] at e0
      obtain ⟨Y, hY⟩ : ∃ Y, mkS X.1 (quoL X.1 (nval X.2).toNat (denQ r) m) = Y := ⟨_, rfl⟩
      have EY := Lib.hid hY
      rw [hY] at e0
      have EV := Lib.hid e0
      have hzS : Y.2.length ≤ 1048576 := by rw [← hY]; show (capL _).length ≤ _; unfold capL; split; decide; omega
      have hr18 : r.1.2.length ≤ 1048576 := by have := HP.out.n50; omega
      have hten := tenS_len k
      have hdl : (limbs (denQ r)).length ≤ 18 := by have e := HP.out.d; rw [← e]; exact HP.out.d50
      have hd0 := denQ_pos ok
      have HXO := Lib.hid hXo
      clear ok hX hQ hY e0 hXo
      have hlko := ko.lt (w.heap.size + 1) (by simp)
      have hko := HKO.out
      have hb1 := b1.size
      have kr_c0 := kr.here.cell 0 _ rfl
      have kr_c1 := kr.here.cell 1 _ rfl
      have kr_c2 := kr.here.cell 2 _ rfl
      have km_c0 := km.here.cell 0 _ rfl
      have km_c1 := km.here.cell 1 _ rfl
      go_wp2_with fail
      have HC0 := Lib.hid (show Chg [w.heap.size + 1] w2 w2.drew from (Chg.refl _ _).drew1)
      have HCr := Lib.hid (show Chg [w.heap.size + 1] w2 w2 from Chg.refl _ _)
      have KL := Lib.hid (show ∀ W, Chg [w.heap.size + 1] w2 W → W.cell? ⟨w.heap.size, 0, none⟩ = some (.bool r.1.1) ∧ W.cell? ⟨w.heap.size, 1, none⟩ = some (.slice Ar r.1.2.length cr) ∧ W.cell? ⟨w.heap.size, 2, none⟩ = some (.slice Br r.2.length dr) ∧ W.cell? ⟨w1.heap.size, 0, none⟩ = some (.string nm) ∧ W.cell? ⟨w1.heap.size, 1, none⟩ = some (.func (.func fk) #[] #[]) ∧ Hid (Chg [w.heap.size + 1] w2 W) from fun W hc => ⟨(kr.chg hc (fun i hi hm => by simp at hi hm; omega)).here.cell 0 _ rfl, (kr.chg hc (fun i hi hm => by simp at hi hm; omega)).here.cell 1 _ rfl, (kr.chg hc (fun i hi hm => by simp at hi hm; omega)).here.cell 2 _ rfl, (km.chg hc (fun i hi hm => by simp at hi hm; omega)).here.cell 0 _ rfl, (km.chg hc (fun i hi hm => by simp at hi hm; omega)).here.cell 1 _ rfl, Lib.hid hc⟩)
      have BBF := Lib.hid (show ∀ W, Chg [w.heap.size + 1] w2 W → Below w.heap.size w W from fun W hc => below_chg bb2 hc bb2.size (fun i hi => by simp at hi; omega))
      clear kr_c0 kr_c1 kr_c2 km_c0 km_c1
      go_region_held3 (fun W => W.cell? ⟨w.heap.size, 0, none⟩ = some (.bool r.1.1) ∧ W.cell? ⟨w.heap.size, 1, none⟩ = some (.slice Ar r.1.2.length cr) ∧ W.cell? ⟨w.heap.size, 2, none⟩ = some (.slice Br r.2.length dr) ∧ W.cell? ⟨w1.heap.size, 0, none⟩ = some (.string nm) ∧ W.cell? ⟨w1.heap.size, 1, none⟩ = some (.func (.func fk) #[] #[]) ∧ Hid (Chg [w.heap.size + 1] w2 W))
        ((refine KL.out _ ?_; (first | exact HC6.out | exact HC5.out | exact HC4.out | exact HC3.out | exact HCr.out | exact HC0.out | exact HC6.out.drew1 | exact HC5.out.drew1 | exact HC4.out.drew1 | exact HC3.out.drew1 | exact HCr.out.drew1 | exact HC0.out.drew1 | exact HC6.out.trans (Chg.of_below (below_al (Below.refl _ _) _)) | exact HC5.out.trans (Chg.of_below (below_al (Below.refl _ _) _)) | exact HC4.out.trans (Chg.of_below (below_al (Below.refl _ _) _)) | exact HC3.out.trans (Chg.of_below (below_al (Below.refl _ _) _)) | exact HCr.out.trans (Chg.of_below (below_al (Below.refl _ _) _)) | exact HC0.out.trans (Chg.of_below (below_al (Below.refl _ _) _)) | exact (Chg.setCell HC6.out (by simp) _) | exact (Chg.setCell (Chg.setCell HC6.out (by simp) _) (by simp) _) | exact (Chg.setCell (Chg.setCell (Chg.setCell HC6.out (by simp) _) (by simp) _) (by simp) _) | fail)))
        (first
          | (go_at_call 138; (have hBB := (‹_ ∧ _ ∧ _ ∧ _ ∧ _ ∧ Hid (Chg [w.heap.size + 1] w2 _)›).2.2.2.2.2); (with_reducible refine (tenTo_any k _).mono ?_); rintro e w3 ⟨ut, St, rfl, ot, lt, b3⟩; have HC3 := Lib.hid (hBB.out.trans (Chg.of_below b3)); (have ko_3 := At.below (by first | exact ko | exact At.below ko (below_al (Below.refl _ _) _) | exact At.below (At.below ko (below_al (Below.refl _ _) _)) (below_al (Below.refl _ _) _) | exact At.move ko (fun _ _ => rfl) (Nat.le_refl _)) b3); obtain ⟨At_, ct, rfl⟩ := ownS_form ot.here; have HBZ3 := Lib.hid hBB.out.size; clear hBB)
          | (go_at_call 106; (have hBB := (‹_ ∧ _ ∧ _ ∧ _ ∧ _ ∧ Hid (Chg [w.heap.size + 1] w2 _)›).2.2.2.2.2); (with_reducible refine ((implIntMul_any _ _ r.1 (tenS k) _ hr18 hten (OSr.out _ (BBF.out _ hBB.out)) (At.here (by first | exact ot | exact At.below ot (below_al (Below.refl _ _) _) | exact At.below (At.below ot (below_al (Below.refl _ _) _)) (below_al (Below.refl _ _) _) | exact At.move ot (fun _ _ => rfl) (Nat.le_refl _)))).mono fun _ _ h => newS_is EX.out h).mono ?_); rintro e w4 ⟨um, Sm, rfl, om, lm, b4⟩; have HC4 := Lib.hid (hBB.out.trans (Chg.of_below b4)); (have ko_4 := At.below (by first | exact ko_3 | exact At.below ko_3 (below_al (Below.refl _ _) _) | exact At.below (At.below ko_3 (below_al (Below.refl _ _) _)) (below_al (Below.refl _ _) _) | exact At.move ko_3 (fun _ _ => rfl) (Nat.le_refl _)) b4); (have ot_4 := At.below (by first | exact ot | exact At.below ot (below_al (Below.refl _ _) _) | exact At.below (At.below ot (below_al (Below.refl _ _) _)) (below_al (Below.refl _ _) _) | exact At.move ot (fun _ _ => rfl) (Nat.le_refl _)) b4); obtain ⟨Am, cm, rfl⟩ := ownS_form om.here; have HBZ4 := Lib.hid hBB.out.size; clear hBB)
          | (go_at_call 185; (have hBB := (‹_ ∧ _ ∧ _ ∧ _ ∧ _ ∧ Hid (Chg [w.heap.size + 1] w2 _)›).2.2.2.2.2); (with_reducible refine ((HQU.out nm _ _ X (denQ r) _ HXO.out hd0 hdl (At.here (by first | exact om | exact At.below om (below_al (Below.refl _ _) _) | exact At.below (At.below om (below_al (Below.refl _ _) _)) (below_al (Below.refl _ _) _) | exact At.move om (fun _ _ => rfl) (Nat.le_refl _))) (ownI_eq (ODr.out _ (BBF.out _ hBB.out)) HP.out.d) (HS.out.below (BBF.out _ hBB.out))).mono fun _ _ h => roundVS_eq EY.out h).mono ?_); rintro e w5 ⟨us, Ss, rfl, os, ls, b5⟩; have HC5 := Lib.hid (hBB.out.trans (Chg.of_below b5)); (have ko_5 := At.below (by first | exact ko_4 | exact At.below ko_4 (below_al (Below.refl _ _) _) | exact At.below (At.below ko_4 (below_al (Below.refl _ _) _)) (below_al (Below.refl _ _) _) | exact At.move ko_4 (fun _ _ => rfl) (Nat.le_refl _)) b5); (have ot_5 := At.below (by first | exact ot_4 | exact At.below ot_4 (below_al (Below.refl _ _) _) | exact At.below (At.below ot_4 (below_al (Below.refl _ _) _)) (below_al (Below.refl _ _) _) | exact At.move ot_4 (fun _ _ => rfl) (Nat.le_refl _)) b5); (have om_5 := At.below (by first | exact om | exact At.below om (below_al (Below.refl _ _) _) | exact At.below (At.below om (below_al (Below.refl _ _) _)) (below_al (Below.refl _ _) _) | exact At.move om (fun _ _ => rfl) (Nat.le_refl _)) b5); obtain ⟨As, cs, rfl⟩ := ownS_form os.here; have HBZ5 := Lib.hid hBB.out.size; clear hBB)
          | (go_at_call 105; (have hBB := (‹_ ∧ _ ∧ _ ∧ _ ∧ _ ∧ Hid (Chg [w.heap.size + 1] w2 _)›).2.2.2.2.2); (with_reducible refine ((validDec_any _ Y k _ _ hzS (by first | exact os | exact At.below os (below_al (Below.refl _ _) _) | exact At.below (At.below os (below_al (Below.refl _ _) _)) (below_al (Below.refl _ _) _) | exact At.move os (fun _ _ => rfl) (Nat.le_refl _))).mono fun _ _ h => keptD_eq EV.out h).mono ?_); rintro e w6 ⟨uf, Sf, rfl, of, sf, b6⟩; have HC6 := Lib.hid (hBB.out.trans (Chg.of_below b6)); (have ko_6 := At.below (by first | exact ko_5 | exact At.below ko_5 (below_al (Below.refl _ _) _) | exact At.below (At.below ko_5 (below_al (Below.refl _ _) _)) (below_al (Below.refl _ _) _) | exact At.move ko_5 (fun _ _ => rfl) (Nat.le_refl _)) b6); (have ot_6 := At.below (by first | exact ot_5 | exact At.below ot_5 (below_al (Below.refl _ _) _) | exact At.below (At.below ot_5 (below_al (Below.refl _ _) _)) (below_al (Below.refl _ _) _) | exact At.move ot_5 (fun _ _ => rfl) (Nat.le_refl _)) b6); (have om_6 := At.below (by first | exact om_5 | exact At.below om_5 (below_al (Below.refl _ _) _) | exact At.below (At.below om_5 (below_al (Below.refl _ _) _)) (below_al (Below.refl _ _) _) | exact At.move om_5 (fun _ _ => rfl) (Nat.le_refl _)) b6); (have os_6 := At.below (by first | exact os | exact At.below os (below_al (Below.refl _ _) _) | exact At.below (At.below os (below_al (Below.refl _ _) _)) (below_al (Below.refl _ _) _) | exact At.move os (fun _ _ => rfl) (Nat.le_refl _)) b6); obtain ⟨Af, cf, rfl⟩ := ownD_form of.here; have cz0 := ko_6.here.cell 0 _ rfl; have fz0 := Lib.frozen_of_heap ko_6.here 0; have cz1 := ko_6.here.cell 1 _ rfl; have fz1 := Lib.frozen_of_heap ko_6.here 1; have cz2 := ko_6.here.cell 2 _ rfl; have fz2 := Lib.frozen_of_heap ko_6.here 2; have HBZ6 := Lib.hid hBB.out.size; clear hBB))
      have bb6 := BBF.out _ HC6.out
      replace kr := kr.chg HC6.out (fun i hi hm => by simp at hi hm; omega)
      replace km := km.chg HC6.out (fun i hi hm => by simp at hi hm; omega)
      replace ko := ko_6
      have ot := ot_6
      have om := om_6
      have os := os_6
      have lf : Within Sf _ _ := fun i hi => ⟨(ls i (sf i hi)).1, of.lt i hi⟩
      have HW := Lib.hid (newDb_at (r := w.heap.size + 1) (b := Q.2) of lf (by have := HBZ5.out; omega) (by omega) bb6)
      clear of ko os kr km ot om
      go_wp2
      refine bodyPost_ret (v := .tuple #[.agg #[.bool _, .slice Af _ cf, .int .i64 _], .bool _]) (by simp [results, Tryz.results159, go_sem, cz0, cz1, cz2]; exact ⟨⟨rfl, rfl, rfl⟩, rfl⟩) rfl ?_
      rw [HV.out]
      exact HW.out
    · have ok' : okQ r = false := by simpa using ok
      have HV := Lib.hid (show ratDecD r k m = (zeroD, false) by unfold ratDecD; rw [if_neg (fun h => ok h.1)])
      rw [ok']
      clear ok ok' km kr
      have cz0 := ko.here.cell 0 _ rfl
      have fz0 := Lib.frozen_of_heap ko.here 0
      have cz1 := ko.here.cell 1 _ rfl
      have fz1 := Lib.frozen_of_heap ko.here 1
      have cz2 := ko.here.cell 2 _ rfl
      have fz2 := Lib.frozen_of_heap ko.here 2
      go_wp2
      refine bodyPost_ret (v := .tuple #[.agg #[.bool false, .slice none 0 0, .int .i64 0], .bool false]) (by simp [results, Tryz.results159, go_sem, cz0, cz1, cz2]) rfl ?_
      rw [HV.out]
      first | exact newDb_zero _ bb2 | exact newDb_zero _ (below_set3 bb2 (by omega))
  · have HRO := Lib.hid (roundingOf_none m hm)
    have HV := Lib.hid (show ratDecD r k m = (zeroD, false) by unfold ratDecD; rw [if_neg (fun h => hm h.2.2)])
    clear hm
    go_enter Tryz.func159, Tryz.ntmps159
    go_wp2_with fail
    refine (HRO.out _).mono ?_
    rintro e w1 ⟨rfl, b1⟩
    have bb1 := Below.next bb0 b1
    replace kr := kr.below b1
    replace ko := ko.below b1
    have km := box_new (w1) #[.string ⟨#[]⟩, .nilFunc] 172
    have alm := below_al (Below.refl (w1).heap.size (w1)) (.cells #[.string ⟨#[]⟩, .nilFunc] 172)
    have bbm := Below.next bb1 alm
    replace kr := kr.below alm
    replace ko := ko.below alm
    clear km kr
    have cz0 := ko.here.cell 0 _ rfl
    have fz0 := Lib.frozen_of_heap ko.here 0
    have cz1 := ko.here.cell 1 _ rfl
    have fz1 := Lib.frozen_of_heap ko.here 1
    have cz2 := ko.here.cell 2 _ rfl
    have fz2 := Lib.frozen_of_heap ko.here 2
    go_wp2
    refine bodyPost_ret (v := .tuple #[.agg #[.bool false, .slice none 0 0, .int .i64 0], .bool false]) (by simp [results, Tryz.results159, go_sem, cz0, cz1, cz2]) rfl ?_
    rw [HV.out]
    first | exact newDb_zero _ bbm | exact newDb_zero _ (below_set3 bbm (by omega))
end Go.Proofs.YtofehcpapdlcnaaGreatDoor

namespace Go.Proofs.YtofehcpapdlcnaaGreatDoor
open Go.RowKit

set_option maxHeartbeats 4000000 in
set_option maxRecDepth 100000 in
theorem implDecAt_any (va : Value) (a : DI) (k : Int) (w : World) (hla : a.1.2.length ≤ 1048576) (ha : OwnD va a w) (hsen : Sen w) :
    Calls Tryz.prog 113 #[va, .int .i64 k] w (PostDb (atD a k).1 (atD a k).2 w) := by
  have HS := Lib.hid hsen
  clear hsen
  have Ha := Lib.hid ha
  obtain ⟨Aa, ca, rfl⟩ := ownD_form ha
  have ODa := Lib.hid (show ∀ W, Below w.heap.size w W → OwnD (.agg #[.bool a.1.1, .slice Aa a.1.2.length ca, .int .i64 a.2]) a W from fun W hb => OwnD.below Ha.out hb)
  have OIa := Lib.hid (show ∀ W, Below w.heap.size w W → OwnI (.slice Aa a.1.2.length ca) a.1.2 W from fun W hb => ownD_open (ODa.out W hb))
  have OSa := Lib.hid (show ∀ W, Below w.heap.size w W → OwnS (.agg #[.bool a.1.1, .slice Aa a.1.2.length ca]) a.1 W from fun W hb => OwnS.mk (OIa.out W hb))
  clear ha
  have bb0 : Below w.heap.size w ((w.alloc (.cells #[.bool a.1.1, .slice Aa a.1.2.length ca, .int .i64 a.2] 40)).alloc (.cells #[.bool false, .slice none 0 0, .int .i64 0] 40)) := below_al (below_al (Below.refl _ _) _) _
  have ka := (box_new w #[.bool a.1.1, .slice Aa a.1.2.length ca, .int .i64 a.2] 40).below (below_al (Below.refl _ _) (.cells #[.bool false, .slice none 0 0, .int .i64 0] 40))
  have ko := (box_new (w.alloc (.cells #[.bool a.1.1, .slice Aa a.1.2.length ca, .int .i64 a.2] 40)) #[.bool false, .slice none 0 0, .int .i64 0] 40)
  rw [show (w.alloc (.cells #[.bool a.1.1, .slice Aa a.1.2.length ca, .int .i64 a.2] 40)).heap.size = w.heap.size + 1 by simp] at ko
  have HKO := Lib.hid (ko.lt (w.heap.size + 1) (by simp))
  have zX := szD_len (ratDecD_sz (ratD a) k 0)
  have e0 := at_rat a k
  obtain ⟨Q, hQ⟩ : ∃ Q, atD a k = Q := ⟨_, rfl⟩
  rw [hQ]
  rw [hQ] at e0
  obtain ⟨⟨X, bx⟩, hX⟩ : ∃ q, ratDecD (ratD a) k 0 = q := ⟨_, rfl⟩
  have EX := Lib.hid hX
  rw [hX] at e0 zX
  simp only at zX
  obtain ⟨c, hc⟩ : ∃ c, cmpD X a = c := ⟨_, rfl⟩
  have EC := Lib.hid hc
  have HY := Lib.hid (fun (h1 : bx = true) (h2 : c = 0) => (show Q = (X, true) by rw [← e0]; exact if_pos ⟨h1, hc.trans h2⟩))
  have HN := Lib.hid (fun (h : ¬ (bx = true ∧ c = 0)) => (show Q = (zeroD, false) by rw [← e0]; exact if_neg (fun e => h ⟨e.1, hc.symm.trans e.2⟩)))
  have hzr := ratD_sz a
  clear hQ hX e0 hc
  go_enter Tryz.func113, Tryz.ntmps113
  have ka_c0 := ka.here.cell 0 _ rfl
  have ka_c1 := ka.here.cell 1 _ rfl
  have ka_c2 := ka.here.cell 2 _ rfl
  go_wp2_with fail
  clear ka_c0 ka_c1 ka_c2
  refine (implDecRat_any _ a _ hla (ODa.out _ bb0) (HS.out.below bb0)).mono ?_
  rintro e w1 ⟨up, Sp, rfl, op, lp, b1⟩
  obtain ⟨Ap, cp, Bp, dp, rfl⟩ := ownQ_form op.here
  have bb1 := Below.next bb0 b1
  replace ka := ka.below b1
  replace ko := ko.below b1
  go_wp2_with fail
  refine ((implRatDec_any _ (ratD a) k 0 _ hzr op.here (HS.out.below bb1)).mono fun _ _ h => postDb_is EX.out h).mono ?_
  rintro e w2 ⟨uf, Sy, rfl, oy, ly, b2⟩
  obtain ⟨Ay, cy, rfl⟩ := ownD_form oy.here
  have bb2 := Below.next bb1 b2
  replace ka := ka.below b2
  replace ko := ko.below b2
  replace op := op.below b2
  clear op
  have ky := box_new (w2) #[.bool X.1.1, .slice Ay X.1.2.length cy, .int .i64 X.2] 40
  have aly := below_al (Below.refl (w2).heap.size (w2)) (.cells #[.bool X.1.1, .slice Ay X.1.2.length cy, .int .i64 X.2] 40)
  have bby := Below.next bb2 aly
  replace ka := ka.below aly
  replace ko := ko.below aly
  replace oy := oy.below aly
  cases bx with
  | false =>
    have HV := Lib.hid (HN.out (fun h => absurd h.1 (by decide)))
    clear ky oy ka
    have cz0 := ko.here.cell 0 _ rfl
    have fz0 := Lib.frozen_of_heap ko.here 0
    have cz1 := ko.here.cell 1 _ rfl
    have fz1 := Lib.frozen_of_heap ko.here 1
    have cz2 := ko.here.cell 2 _ rfl
    have fz2 := Lib.frozen_of_heap ko.here 2
    go_wp2
    refine bodyPost_ret (v := .tuple #[.agg #[.bool false, .slice none 0 0, .int .i64 0], .bool false]) (by simp [results, Tryz.results113, go_sem, cz0, cz1, cz2]) rfl ?_
    rw [HV.out]
    first | exact newDb_zero _ bby | exact newDb_zero _ (below_set3 bby (by omega))
  | true =>
    have ky_c0 := ky.here.cell 0 _ rfl
    have ky_c1 := ky.here.cell 1 _ rfl
    have ky_c2 := ky.here.cell 2 _ rfl
    have ka_c0 := ka.here.cell 0 _ rfl
    have ka_c1 := ka.here.cell 1 _ rfl
    have ka_c2 := ka.here.cell 2 _ rfl
    go_wp2_with fail
    clear ky_c0 ky_c1 ky_c2 ka_c0 ka_c1 ka_c2
    refine ((implDecCmp_any _ _ X a _ zX hla oy.here (ODa.out _ bby)).mono fun _ _ h => postn_eqD EC.out h).mono ?_
    rintro e w3 ⟨rfl, b3⟩
    have bb3 := Below.next bby b3
    replace ka := ka.below b3
    replace ko := ko.below b3
    replace oy := oy.below b3
    replace ky := ky.below b3
    by_cases h0 : c = 0
    · have HV := Lib.hid (HY.out (by simp) h0)
      subst h0
      have HW := Lib.hid (postDb_chg (b := true) (T := [w.heap.size + 1]) oy (fun i hi hm => by have := ly i hi; have := HKO.out; have := b1.size; simp at hm; omega) (fun i hi => by simp at hi; omega) (fun i hi => by have := ly i hi; have := HKO.out; have := b1.size; omega) bb3)
      have ky_c0 := ky.here.cell 0 _ rfl
      have ky_c1 := ky.here.cell 1 _ rfl
      have ky_c2 := ky.here.cell 2 _ rfl
      have cz0 := ko.here.cell 0 _ rfl
      have fz0 := Lib.frozen_of_heap ko.here 0
      have cz1 := ko.here.cell 1 _ rfl
      have fz1 := Lib.frozen_of_heap ko.here 1
      have cz2 := ko.here.cell 2 _ rfl
      have fz2 := Lib.frozen_of_heap ko.here 2
      clear oy ky ko ka
      go_wp2
      refine bodyPost_ret (v := .tuple #[.agg #[.bool _, .slice Ay _ cy, .int .i64 _], .bool true]) (by simp [results, Tryz.results113, go_sem, cz0, cz1, cz2]; try exact ⟨rfl, rfl, rfl⟩) rfl ?_
      rw [HV.out]
      refine HW.out _ ?_
      repeat (first | exact Chg.refl _ _ | refine Chg.setCell ?_ (by simp) _)
    · have HV := Lib.hid (HN.out (fun h => h0 h.2))
      have hne : (c == 0) = false := by rw [beq_eq_false_iff_ne]; exact h0
      have hne2 : (c != 0) = true := by rw [bne_iff_ne]; exact h0
      clear ky oy ka
      have cz0 := ko.here.cell 0 _ rfl
      have fz0 := Lib.frozen_of_heap ko.here 0
      have cz1 := ko.here.cell 1 _ rfl
      have fz1 := Lib.frozen_of_heap ko.here 1
      have cz2 := ko.here.cell 2 _ rfl
      have fz2 := Lib.frozen_of_heap ko.here 2
      go_wp2
      refine bodyPost_ret (v := .tuple #[.agg #[.bool false, .slice none 0 0, .int .i64 0], .bool false]) (by simp [results, Tryz.results113, go_sem, cz0, cz1, cz2]) rfl ?_
      rw [HV.out]
      first | exact newDb_zero _ bb3 | exact newDb_zero _ (below_set3 bb3 (by omega))
set_option maxHeartbeats 4000000 in
set_option maxRecDepth 100000 in
theorem implDecLow_any (va : Value) (a : DI) (w : World) (hla : a.1.2.length ≤ 1048576) (ha : OwnD va a w) (hsen : Sen w) :
    Calls Tryz.prog 62 #[va] w (NewV (fun u => OwnD u (lowD a)) w) := by
  have HS := Lib.hid hsen
  clear hsen
  have Ha := Lib.hid ha
  obtain ⟨Aa, ca, rfl⟩ := ownD_form ha
  have ODa := Lib.hid (show ∀ W, Below w.heap.size w W → OwnD (.agg #[.bool a.1.1, .slice Aa a.1.2.length ca, .int .i64 a.2]) a W from fun W hb => OwnD.below Ha.out hb)
  have OIa := Lib.hid (show ∀ W, Below w.heap.size w W → OwnI (.slice Aa a.1.2.length ca) a.1.2 W from fun W hb => ownD_open (ODa.out W hb))
  have OSa := Lib.hid (show ∀ W, Below w.heap.size w W → OwnS (.agg #[.bool a.1.1, .slice Aa a.1.2.length ca]) a.1 W from fun W hb => OwnS.mk (OIa.out W hb))
  clear ha
  have bb0 : Below w.heap.size w ((w.alloc (.cells #[.bool a.1.1, .slice Aa a.1.2.length ca, .int .i64 a.2] 40)).alloc (.cells #[.bool false, .slice none 0 0, .int .i64 0] 40)) := below_al (below_al (Below.refl _ _) _) _
  have ka := (box_new w #[.bool a.1.1, .slice Aa a.1.2.length ca, .int .i64 a.2] 40).below (below_al (Below.refl _ _) (.cells #[.bool false, .slice none 0 0, .int .i64 0] 40))
  have ko := (box_new (w.alloc (.cells #[.bool a.1.1, .slice Aa a.1.2.length ca, .int .i64 a.2] 40)) #[.bool false, .slice none 0 0, .int .i64 0] 40)
  rw [show (w.alloc (.cells #[.bool a.1.1, .slice Aa a.1.2.length ca, .int .i64 a.2] 40)).heap.size = w.heap.size + 1 by simp] at ko
  have HKO := Lib.hid (ko.lt (w.heap.size + 1) (by simp))
  obtain ⟨z, hz⟩ : ∃ z, zerosN a.1.2 = z := ⟨_, rfl⟩
  have EZ := Lib.hid hz
  obtain ⟨mn, hmn⟩ : ∃ m, min a.2 z = m := ⟨_, rfl⟩
  have hmn2 : (if a.2 < z then a.2 else z) = mn := by rw [← hmn]; split <;> omega
  have hmn3 : (if z < a.2 then z else a.2) = mn := by rw [← hmn]; split <;> omega
  obtain ⟨j, hj⟩ : ∃ j, IntKind.i64.wrap (a.2 - mn) = j := ⟨_, rfl⟩
  obtain ⟨c, hc⟩ : ∃ c, cmpS a.1 zeroS = c := ⟨_, rfl⟩
  have EC := Lib.hid hc
  have H0 := Lib.hid (fun h : c = 0 => (show (atD a 0).1 = lowD a by have h1 := low_impl a; unfold lowK at h1; rw [hc, if_pos h] at h1; exact h1))
  have H1 := Lib.hid (fun h : ¬ c = 0 => (show (atD a j).1 = lowD a by
    have h1 := low_impl a
    by_cases ok : okD a = true
    · have p := partsD ok
      have p1 := p.lo
      have p2 := p.hi
      have hz0 : 0 ≤ z := by rw [← hz]; unfold zerosN; split <;> omega
      have e : j = lowK a := by
        rw [← hj, ← hmn]
        unfold lowK
        rw [hc, if_neg h, hz]
        rw [IntWalk.i64_in _ (by omega)]
        split <;> omega
      rw [e]
      exact h1
    · have e : ∀ q, (atD a q).1 = zeroD := fun q => by unfold atD; rw [if_neg (fun h => ok h.1)]
      rw [e] at h1 ⊢
      exact h1))
  obtain ⟨Q, hQ⟩ : ∃ Q, lowD a = Q := ⟨_, rfl⟩
  rw [hQ] at H0 H1
  rw [hQ]
  clear hQ hc hz
  have HNZ := Lib.hid (show ∀ (v : Value) (W : World), OwnI v a.1.2 W → Calls Tryz.prog 112 #[v] W (Postn z W) from fun v W h => (implNatZeros_any v a.1.2 0 _ W hla h.row).mono fun _ _ k => ⟨by rw [← EZ.out]; exact k.1, k.2 ▸ Below.refl _ _⟩)
  obtain ⟨W0, hW0⟩ : ∃ W0, W0 = ((w.alloc (.cells #[.bool a.1.1, .slice Aa a.1.2.length ca, .int .i64 a.2] 40)).alloc (.cells #[.bool false, .slice none 0 0, .int .i64 0] 40)) := ⟨_, rfl⟩
  rw [← hW0] at bb0 ka ko HKO
  have HW0 := Lib.hid hW0
  clear hW0
  go_enter Tryz.func62, Tryz.ntmps62
  have ka_c0 := ka.here.cell 0 _ rfl
  have ka_c1 := ka.here.cell 1 _ rfl
  have ka_c2 := ka.here.cell 2 _ rfl
  rw [HW0.out] at ka_c0 ka_c1 ka_c2
  go_wp2_with fail
  rw [← HW0.out]
  clear ka_c0 ka_c1 ka_c2
  have HC0 := Lib.hid (show Chg [] W0 W0.drew from (Chg.refl _ _).drew1)
  have HCr := Lib.hid (show Chg [] W0 W0 from Chg.refl _ _)
  have KL := Lib.hid (show ∀ W, Chg [] W0 W → W.cell? ⟨w.heap.size, 0, none⟩ = some (.bool a.1.1) ∧ W.cell? ⟨w.heap.size, 1, none⟩ = some (.slice Aa a.1.2.length ca) ∧ W.cell? ⟨w.heap.size, 2, none⟩ = some (.int .i64 a.2) ∧ Hid (Chg [] W0 W) from fun W hc => ⟨(ka.chg hc (fun i hi hm => by simp at hm)).here.cell 0 _ rfl, (ka.chg hc (fun i hi hm => by simp at hm)).here.cell 1 _ rfl, (ka.chg hc (fun i hi hm => by simp at hm)).here.cell 2 _ rfl, Lib.hid hc⟩)
  have BBF := Lib.hid (show ∀ W, Chg [] W0 W → Below w.heap.size w W from fun W hc => below_chg bb0 hc bb0.size (fun i hi => by simp at hi))
  go_region_held3 (fun W => W.cell? ⟨w.heap.size, 0, none⟩ = some (.bool a.1.1) ∧ W.cell? ⟨w.heap.size, 1, none⟩ = some (.slice Aa a.1.2.length ca) ∧ W.cell? ⟨w.heap.size, 2, none⟩ = some (.int .i64 a.2) ∧ Hid (Chg [] W0 W))
    ((refine KL.out _ ?_; (first | exact HC1.out | exact HCr.out | exact HC0.out | exact HC1.out.drew1 | exact HCr.out.drew1 | exact HC0.out.drew1 | exact HC1.out.trans (Chg.of_below (below_al (Below.refl _ _) _)) | exact HCr.out.trans (Chg.of_below (below_al (Below.refl _ _) _)) | exact HC0.out.trans (Chg.of_below (below_al (Below.refl _ _) _)) | fail)))
    (first
      | (go_at_call 112; (have hBB := (‹_ ∧ _ ∧ _ ∧ Hid (Chg [] W0 _)›).2.2.2); (with_reducible refine (HNZ.out _ _ (OIa.out _ (BBF.out _ hBB.out))).mono ?_); rintro e w1 ⟨rfl, b1⟩; have HC1 := Lib.hid (hBB.out.trans (Chg.of_below b1)); have HBZ1 := Lib.hid hBB.out.size; clear hBB))
  all_goals
    have bb1 := BBF.out _ HC1.out
    replace ka := ka.chg HC1.out (fun i hi hm => by simp at hm)
    replace ko := ko.chg HC1.out (fun i hi hm => by simp at hm)
    have ka_c0 := ka.here.cell 0 _ rfl
    have ka_c1 := ka.here.cell 1 _ rfl
    have ka_c2 := ka.here.cell 2 _ rfl
    go_wp2_with fail
    clear ka_c0 ka_c1 ka_c2
    refine ((implIntSign_any _ a.1 _ hla (OSa.out _ bb1)).mono fun _ _ h => postn_eqD EC.out h).mono ?_
    rintro e w2 ⟨rfl, b2⟩
    have bb2 := Below.next bb1 b2
    replace ka := ka.below b2
    replace ko := ko.below b2
    by_cases h0 : c = 0
    · have HE := Lib.hid (H0.out h0)
      subst h0
      have zX := szD_len (atD_sz a 0)
      have EX := Lib.hid (HE.out)
      have HKL := Lib.hid (ko.lt (w.heap.size + 1) (by simp))
      have ka_c0 := ka.here.cell 0 _ rfl
      have ka_c1 := ka.here.cell 1 _ rfl
      have ka_c2 := ka.here.cell 2 _ rfl
      go_wp2_with fail
      clear ka_c0 ka_c1 ka_c2
      refine (implDecAt_any _ a 0 _ hla (ODa.out _ bb2) (HS.out.below bb2)).mono ?_
      rintro e w3 ⟨ux, Sx, rfl, ox, lx, b3⟩
      rw [EX.out] at ox zX
      obtain ⟨Ax, cx, rfl⟩ := ownD_form ox.here
      have bb3 := Below.next bb2 b3
      replace ka := ka.below b3
      replace ko := ko.below b3
      have kx := box_new (w3) #[.bool Q.1.1, .slice Ax Q.1.2.length cx, .int .i64 Q.2] 40
      have alx := below_al (Below.refl (w3).heap.size (w3)) (.cells #[.bool Q.1.1, .slice Ax Q.1.2.length cx, .int .i64 Q.2] 40)
      have bbx := Below.next bb3 alx
      replace ka := ka.below alx
      replace ko := ko.below alx
      replace ox := ox.below alx
      have HW := Lib.hid (newV_chg (φ := fun v => OwnD v Q) (T := [w.heap.size + 1]) ox (fun i hi hm => by have := lx i hi; have := HKL.out; simp at hm; omega) (fun i hi => by simp at hi; omega) (fun i hi => by have := lx i hi; have := HKL.out; omega) bbx)
      have kx_c0 := kx.here.cell 0 _ rfl
      have kx_c1 := kx.here.cell 1 _ rfl
      have kx_c2 := kx.here.cell 2 _ rfl
      have cz0 := ko.here.cell 0 _ rfl
      have fz0 := Lib.frozen_of_heap ko.here 0
      have cz1 := ko.here.cell 1 _ rfl
      have fz1 := Lib.frozen_of_heap ko.here 1
      have cz2 := ko.here.cell 2 _ rfl
      have fz2 := Lib.frozen_of_heap ko.here 2
      clear ox kx ko ka
      go_wp2
      refine bodyPost_ret (v := .agg #[.bool _, .slice Ax _ cx, .int .i64 _]) (by simp [results, Tryz.results62, go_sem, cz0, cz1, cz2]; try exact ⟨rfl, rfl, rfl⟩) rfl ?_
      refine HW.out _ ?_
      repeat (first | exact Chg.refl _ _ | refine Chg.setCell ?_ (by simp) _)
    · have HE := Lib.hid (H1.out h0)
      have hne : (c == 0) = false := by rw [beq_eq_false_iff_ne]; exact h0
      clear h0
      have zX := szD_len (atD_sz a j)
      have EX := Lib.hid (HE.out)
      have HKL := Lib.hid (ko.lt (w.heap.size + 1) (by simp))
      have ka_c0 := ka.here.cell 0 _ rfl
      have ka_c1 := ka.here.cell 1 _ rfl
      have ka_c2 := ka.here.cell 2 _ rfl
      go_wp2_with fail
      clear ka_c0 ka_c1 ka_c2
      refine (implDecAt_any _ a j _ hla (ODa.out _ bb2) (HS.out.below bb2)).mono ?_
      rintro e w3 ⟨ux, Sx, rfl, ox, lx, b3⟩
      rw [EX.out] at ox zX
      obtain ⟨Ax, cx, rfl⟩ := ownD_form ox.here
      have bb3 := Below.next bb2 b3
      replace ka := ka.below b3
      replace ko := ko.below b3
      have kx := box_new (w3) #[.bool Q.1.1, .slice Ax Q.1.2.length cx, .int .i64 Q.2] 40
      have alx := below_al (Below.refl (w3).heap.size (w3)) (.cells #[.bool Q.1.1, .slice Ax Q.1.2.length cx, .int .i64 Q.2] 40)
      have bbx := Below.next bb3 alx
      replace ka := ka.below alx
      replace ko := ko.below alx
      replace ox := ox.below alx
      have HW := Lib.hid (newV_chg (φ := fun v => OwnD v Q) (T := [w.heap.size + 1]) ox (fun i hi hm => by have := lx i hi; have := HKL.out; simp at hm; omega) (fun i hi => by simp at hi; omega) (fun i hi => by have := lx i hi; have := HKL.out; omega) bbx)
      have kx_c0 := kx.here.cell 0 _ rfl
      have kx_c1 := kx.here.cell 1 _ rfl
      have kx_c2 := kx.here.cell 2 _ rfl
      have cz0 := ko.here.cell 0 _ rfl
      have fz0 := Lib.frozen_of_heap ko.here 0
      have cz1 := ko.here.cell 1 _ rfl
      have fz1 := Lib.frozen_of_heap ko.here 1
      have cz2 := ko.here.cell 2 _ rfl
      have fz2 := Lib.frozen_of_heap ko.here 2
      clear ox kx ko ka
      go_wp2
      refine bodyPost_ret (v := .agg #[.bool _, .slice Ax _ cx, .int .i64 _]) (by simp [results, Tryz.results62, go_sem, cz0, cz1, cz2]; try exact ⟨rfl, rfl, rfl⟩) rfl ?_
      refine HW.out _ ?_
      repeat (first | exact Chg.refl _ _ | refine Chg.setCell ?_ (by simp) _)
end Go.Proofs.YtofehcpapdlcnaaGreatDoor

namespace Go.Proofs.YtofehcpapdlcnaaGreatDoor
open Go.RowKit

set_option maxHeartbeats 4000000 in
set_option maxRecDepth 100000 in
theorem implPercent_any (vd : Value) (d : DI) (w : World) (hl : d.1.2.length ≤ 1048576) (hd : OwnD vd d w) (ht : Tab w) (hsen : Sen w) :
    Calls Tryz.prog 24 #[vd] w (PostT (pctT d) w) := by
  have HT := Lib.hid ht
  have HS := Lib.hid hsen
  clear ht hsen
  have Hd := Lib.hid hd
  obtain ⟨Ad, cd, rfl⟩ := ownD_form hd
  have ODd := Lib.hid (show ∀ W, Below w.heap.size w W → OwnD (.agg #[.bool d.1.1, .slice Ad d.1.2.length cd, .int .i64 d.2]) d W from fun W hb => OwnD.below Hd.out hb)
  have OId := Lib.hid (show ∀ W, Below w.heap.size w W → OwnI (.slice Ad d.1.2.length cd) d.1.2 W from fun W hb => ownD_open (ODd.out W hb))
  have OSd := Lib.hid (show ∀ W, Below w.heap.size w W → OwnS (.agg #[.bool d.1.1, .slice Ad d.1.2.length cd]) d.1 W from fun W hb => OwnS.mk (OId.out W hb))
  clear hd
  have bb0 : Below w.heap.size w (w.alloc (.cells #[.bool d.1.1, .slice Ad d.1.2.length cd, .int .i64 d.2] 40)) := below_al (Below.refl _ _) _
  have kd := (box_new w #[.bool d.1.1, .slice Ad d.1.2.length cd, .int .i64 d.2] 40)
  have EY := Lib.hid (show taxB d = true → pctT d = textD (lowD (mulD d hunD).1) ++ ⟨#[37]⟩ from pctT_yes)
  have EN := Lib.hid (show taxB d = false → pctT d = ⟨#[]⟩ from pctT_no)
  generalize pctT d = T at *
  obtain ⟨tb, htb⟩ : ∃ b, taxB d = b := ⟨_, rfl⟩
  rw [htb] at EY EN
  have ETB := Lib.hid htb
  clear htb
  go_enter Tryz.func24, Tryz.ntmps24
  have kd_c0 := kd.here.cell 0 _ rfl
  have kd_c1 := kd.here.cell 1 _ rfl
  have kd_c2 := kd.here.cell 2 _ rfl
  go_wp2_with fail
  clear kd_c0 kd_c1 kd_c2
  refine (implTaxRateOk_any _ d _ hl (ODd.out _ bb0)).mono ?_
  rintro e w1 ⟨rfl, b1⟩
  rw [ETB.out]
  have bb1 := Below.next bb0 b1
  replace kd := kd.below b1
  cases tb with
  | false =>
    have HV := Lib.hid (EN.out rfl)
    clear kd EY EN
    go_wp2
    go_ret
    exact ⟨ret_strP HV.out.symm, bb1⟩
  | true =>
    have HV := Lib.hid (EY.out rfl)
    clear EY EN
    obtain ⟨O, hO⟩ : ∃ O, ofZ 100 = O := ⟨_, rfl⟩
    have EO := Lib.hid hO
    have HOL := Lib.hid (show O.2.length ≤ 1048576 by have := ofZ_len 100; rw [hO] at this; omega)
    have hmz := hun_szP d
    have hlz := low_lenP (mulD d hunD).1
    obtain ⟨⟨P, pb⟩, hP⟩ : ∃ Q, mulD d hunD = Q := ⟨_, rfl⟩
    have EP := Lib.hid (show mulD d (O, 0) = (P, pb) by rw [← hO]; exact hP)
    rw [hP] at HV hmz hlz
    dsimp only at HV hmz hlz
    clear hP hO
    obtain ⟨L, hL⟩ : ∃ L, lowD P = L := ⟨_, rfl⟩
    have EL := Lib.hid hL
    rw [hL] at HV hlz
    clear hL
    have kd_c0 := kd.here.cell 0 _ rfl
    have kd_c1 := kd.here.cell 1 _ rfl
    have kd_c2 := kd.here.cell 2 _ rfl
    go_upto_region 3 with fail
    go_cut [3, 4] (fun s1 s2 wx => NewLocV 40 (fun v => OwnD v P) w1 s1 wx ∧ s2 = .bool pb)
    case first =>
      have HC0 := Lib.hid (show Chg [] w1 w1.drew from (Chg.refl _ _).drew1)
      have HCr := Lib.hid (show Chg [] w1 w1 from Chg.refl _ _)
      have KL := Lib.hid (show ∀ W, Chg [] w1 W → W.cell? ⟨w.heap.size, 0, none⟩ = some (.bool d.1.1) ∧ W.cell? ⟨w.heap.size, 1, none⟩ = some (.slice Ad d.1.2.length cd) ∧ W.cell? ⟨w.heap.size, 2, none⟩ = some (.int .i64 d.2) ∧ Hid (Chg [] w1 W) from fun W hc => ⟨(kd.chg hc (fun i hi hm => by simp at hm)).here.cell 0 _ rfl, (kd.chg hc (fun i hi hm => by simp at hm)).here.cell 1 _ rfl, (kd.chg hc (fun i hi hm => by simp at hm)).here.cell 2 _ rfl, Lib.hid hc⟩)
      have BBF := Lib.hid (show ∀ W, Chg [] w1 W → Below w.heap.size w W from fun W hc => below_chg bb1 hc bb1.size (fun i hi => by simp at hi))
      clear kd_c0 kd_c1 kd_c2
      go_region_held3 (fun W => W.cell? ⟨w.heap.size, 0, none⟩ = some (.bool d.1.1) ∧ W.cell? ⟨w.heap.size, 1, none⟩ = some (.slice Ad d.1.2.length cd) ∧ W.cell? ⟨w.heap.size, 2, none⟩ = some (.int .i64 d.2) ∧ Hid (Chg [] w1 W))
        ((refine KL.out _ ?_; (first | exact HC3.out | exact HC2.out | exact HCr.out | exact HC0.out | exact HC3.out.drew1 | exact HC2.out.drew1 | exact HCr.out.drew1 | exact HC0.out.drew1 | exact HC3.out.trans (Chg.of_below (below_al (Below.refl _ _) _)) | exact HC2.out.trans (Chg.of_below (below_al (Below.refl _ _) _)) | exact HCr.out.trans (Chg.of_below (below_al (Below.refl _ _) _)) | exact HC0.out.trans (Chg.of_below (below_al (Below.refl _ _) _)) | exact (Chg.setNew HC3.out (by first | exact HC3.out.size | exact HC2.out.size | exact HCr.out.size | exact HC0.out.size) _) | exact (Chg.setNew (Chg.setNew HC3.out (by first | exact HC3.out.size | exact HC2.out.size | exact HCr.out.size | exact HC0.out.size) _) (by first | exact HC3.out.size | exact HC2.out.size | exact HCr.out.size | exact HC0.out.size) _) | exact (Chg.setNew (Chg.setNew (Chg.setNew HC3.out (by first | exact HC3.out.size | exact HC2.out.size | exact HCr.out.size | exact HC0.out.size) _) (by first | exact HC3.out.size | exact HC2.out.size | exact HCr.out.size | exact HC0.out.size) _) (by first | exact HC3.out.size | exact HC2.out.size | exact HCr.out.size | exact HC0.out.size) _) | fail)))
        (first
          | (go_at_call 60; (have hBB := (‹_ ∧ _ ∧ _ ∧ Hid (Chg [] w1 _)›).2.2.2); (with_reducible refine ((implIntOf_any 100 _ (by omega) (by omega)).mono fun _ _ h => newS_is EO.out h).mono ?_); rintro e w2 ⟨ui, Si, rfl, oi, li, b2⟩; have HC2 := Lib.hid (hBB.out.trans (Chg.of_below b2)); obtain ⟨Ai, ci, rfl⟩ := ownS_form oi.here; (first | (have early2 : At [w1.heap.size] (BoxAt w1.heap.size #[.bool false, .slice none 0 0, .int .i64 0] 40) w2 := At.below (box_new w1.drew _ _) b2) | (have early2 := At.below (box_new _ #[.bool false, .slice none 0 0, .int .i64 0] 40) b2) | (have early2 := At.below early1 b2) | skip); have HBZ2 := Lib.hid hBB.out.size; clear hBB)
          | (go_at_call 59; (have hBB := (‹_ ∧ _ ∧ _ ∧ Hid (Chg [] w1 _)›).2.2.2); (with_reducible refine ((implDecMul_any _ _ d (O, 0) _ hl HOL.out (ODd.out _ (BBF.out _ hBB.out)) (OwnD.mk (q := (O, 0)) (ownS_openD (At.here (by first | exact oi | exact At.below oi (below_al (Below.refl _ _) _) | exact At.below (At.below oi (below_al (Below.refl _ _) _)) (below_al (Below.refl _ _) _) | exact At.move oi (fun _ _ => rfl) (Nat.le_refl _) | exact At.below (At.move (w' := w1.drew) oi (fun _ _ => rfl) (Nat.le_refl _)) (below_al (Below.refl _ _) _)))))).mono fun _ _ h => postDb_is EP.out h).mono ?_); rintro e w3 ⟨uf, Sf, rfl, of, lf, b3⟩; have HC3 := Lib.hid (hBB.out.trans (Chg.of_below b3)); (have oi_3 := At.below (by first | exact oi | exact At.below oi (below_al (Below.refl _ _) _) | exact At.below (At.below oi (below_al (Below.refl _ _) _)) (below_al (Below.refl _ _) _) | exact At.move oi (fun _ _ => rfl) (Nat.le_refl _) | exact At.below (At.move (w' := w1.drew) oi (fun _ _ => rfl) (Nat.le_refl _)) (below_al (Below.refl _ _) _)) b3); obtain ⟨Af, cf, rfl⟩ := ownD_form of.here; (first | have hbxg := At.below_lt (box_new _ #[.bool false, .slice none 0 0, .int .i64 0] 40) b3 | have hbxg := At.below_lt early2 b3 | skip); (try (have hbxf := hbxg.1; have HGB := Lib.hid hbxg.2; clear hbxg)); (try (have cz0 := hbxf.here.cell 0 _ rfl; have fz0 := Lib.frozen_of_heap hbxf.here 0; have cz1 := hbxf.here.cell 1 _ rfl; have fz1 := Lib.frozen_of_heap hbxf.here 1; have cz2 := hbxf.here.cell 2 _ rfl; have fz2 := Lib.frozen_of_heap hbxf.here 2)); have HBZ3 := Lib.hid hBB.out.size; clear hBB))
      all_goals (go_wp2_with fail; go_meet; first | exact ⟨newLocV_last of lf HBZ3.out (below_of_chg HC3.out), rfl⟩ | exact ⟨newLocV_early3 hbxf.here of lf (by first | exact HC2.out.size | exact HCr.out.size | exact HC0.out.size) HGB.out (below_of_chg HC3.out), rfl⟩)
    rename World => w2
    clear kd_c0 kd_c1 kd_c2
    obtain ⟨⟨gy, csy, Sy, rfl, ky, oy, ny, ly, b2⟩, rfl⟩ := hcut
    obtain ⟨Ay, cy, ey⟩ := ownD_form oy.here
    injection ey with ey
    subst ey
    have bb2 := Below.next bb1 b2
    replace kd := kd.below b2
    have ky_c0 := ky.here.cell 0 _ rfl
    have ky_c1 := ky.here.cell 1 _ rfl
    have ky_c2 := ky.here.cell 2 _ rfl
    go_wp2_with fail
    clear ky_c0 ky_c1 ky_c2
    refine ((implDecLow_any _ P _ hmz oy.here (HS.out.below bb2)).mono fun _ _ h => newVD_eq EL.out h).mono ?_
    rintro e w3 ⟨ug, Sg, rfl, og, lg, b3⟩
    obtain ⟨Ag, cg, rfl⟩ := ownD_form og.here
    have bb3 := Below.next bb2 b3
    replace kd := kd.below b3
    replace ky := ky.below b3
    replace oy := oy.below b3
    go_wp2_with fail
    refine (implDecText_any _ L _ hlz og.here (HT.out.below bb3)).mono ?_
    rintro e w4 ⟨rfl, b4⟩
    have bb4 := Below.next bb3 b4
    replace kd := kd.below b4
    replace ky := ky.below b4
    replace oy := oy.below b4
    replace og := og.below b4
    clear kd ky oy og
    have hxs := textD_size L
    generalize textD L = X at *
    have hq1 : ¬ (9223372036854775807 < X.size + 1) := by omega
    have hq2 : ¬ (9223372036854775807 < X.size + (⟨#[37]⟩ : ByteArray).size) := hq1
    go_wp2
    go_ret
    exact ⟨ret_strP HV.out.symm, bb4⟩
end Go.Proofs.YtofehcpapdlcnaaGreatDoor

namespace Go.Proofs.YtofehcpapdlcnaaGreatDoor
open Go.ChangeShapes Go.WideShapes Go.ChangeAt Go.RowKit

theorem Tryz.own : ownKnob Tryz.prog.godebug = none := by kernel_rfl
theorem Tryz.laidOut : laidOutB Tryz.prog = true := by kernel_rfl

section
variable {H : Type} {enc : TypeId × Value → H} {P : Program}

/-- the types of a list can all be read, and all lie in the program's table -/
def legible (P : Program) (ts : List TypeId) : Bool := ts.all fun t => P.readableRec t && decide (t < P.types.size)

theorem args_below (hl : laidOutB P = true) {W W' : World} (hb : Below W.heap.size W W') :
    ∀ {ts : List TypeId} {vs : List Value} {ds : List (DataW H)} {ps : List MemPlace}, legible P ts = true → DataW.TrodAll enc P W 0 (fun _ => true) true ts vs ds ps → (∀ x ∈ ps, x.block < W.heap.size) →
      DataW.TrodAll enc P W' 0 (fun b => decide (b < W.heap.size)) true ts vs ds ps
  | [], _, _, _, _, h, _ => by
    obtain ⟨rfl, rfl, rfl⟩ := trodAll_nil h
    rfl
  | t :: ts, _, _, _, hr, h, hlt => by
    obtain ⟨v, vs, d, ds, p, q, rfl, rfl, rfl, h1, h2⟩ := trodAll_cons h
    simp only [legible, List.all_cons, Bool.and_eq_true, decide_eq_true_eq] at hr
    exact ⟨p, q, Below.trod hl hr.1.1 hr.1.2 h1 hb (fun x hx => hlt x (List.mem_append_left _ hx)), args_below hl hb (by simpa only [legible] using hr.2) h2 (fun x hx => hlt x (List.mem_append_right _ hx)), rfl⟩

end

end Go.Proofs.YtofehcpapdlcnaaGreatDoor

namespace Go.Proofs.YtofehcpapdlcnaaGreatDoor
open Go.ChangeShapes Go.WideShapes Go.ChangeAt Go.RowKit Go.Joins

section
variable {H : Type} {enc : TypeId × Value → H} {P : Program} {W : World} {base : Nat} {t e : TypeId}

/-- the cell of a slice of ints, wherever it stands -/
theorem cell_ints {fuel : Nat} {a0 : Option Addr} {len0 cap0 : Nat} {x : DataW H × List MemPlace} (ht : P.underlying t = some (.slice e)) (he : P.underlying e = some (.int .i64)) (hc : P.cellsOf e = 1)
    (hf : DataW.trod enc P W 0 (fun _ => true) true fuel t [.slice a0 len0 cap0] = some x) :
    ∃ xs : List Int, Row W 0 W.heap.size (.slice a0 len0 cap0) (xs.map (Value.int .i64)) ∧ xs.length ≤ maxLen := by
  rcases open_ints ht he hc hf with ⟨hcs, _⟩ | ⟨a, len, cap, ss, hcs, _, hl, hm, hz, _, hcell, hsz⟩
  · have hcs' : Value.slice a0 len0 cap0 = .slice none 0 0 := by simpa using hcs
    cases hcs'
    exact ⟨[], Row.nil_ _ _, by simp⟩
  · have hcs' : Value.slice a0 len0 cap0 = .slice (some a) len cap := by simpa using hcs
    obtain ⟨rfl, rfl, rfl⟩ : a0 = some a ∧ len = len0 ∧ cap = cap0 := by cases hcs'; exact ⟨rfl, rfl, rfl⟩
    have hzl : ss.length = cap := by simpa using hz
    have hlen : (ss.take len).length = len := by rw [List.length_take]; omega
    refine ⟨ss.take len, ⟨some a, cap, by rw [List.length_map, hlen], fun j u hu => ?_⟩, by omega⟩
    rw [List.getElem?_map] at hu
    obtain ⟨s, hs, rfl⟩ := Option.map_eq_some_iff.1 hu
    have hj : j < len := by rw [← hlen]; exact (List.getElem?_eq_some_iff.1 hs).1
    have hs' : ss[j]? = some s := by rw [← hs, List.getElem?_take_of_lt hj]
    have hc1 := hcell j (by omega)
    rw [List.getD_eq_getElem?_getD, hs'] at hc1
    exact ⟨a, rfl, Nat.zero_le _, by have := cell_lt hc1; rwa [block_add] at this, hc1⟩
end

theorem Tryz.cellsSigned : Tryz.prog.cellsOf 24 = 2 := by kernel_rfl
theorem Tryz.cellsInt1 : Tryz.prog.cellsOf 3 = 1 := by kernel_rfl
end Go.Proofs.YtofehcpapdlcnaaGreatDoor

namespace Go.Proofs.YtofehcpapdlcnaaGreatDoor
open Go.ChangeShapes Go.WideShapes Go.ChangeAt Go.RowKit Go.Joins

theorem Tryz.cellsDec : Tryz.prog.cellsOf 28 = 3 := by kernel_rfl
set_option maxHeartbeats 400000 in
set_option maxRecDepth 100000 in
theorem arg_dec {H : Type} {enc : TypeId × Value → H} {W : World} {base : Nat} {v : Value} {d : DataW H} {p : List MemPlace}
    (hv : Value.okWide Tryz.prog W .any base 28 v) (h : DataW.Trod enc Tryz.prog W 0 (fun _ => true) true 28 v d p) : ∃ x : DI, RdD W v x ∧ x.1.2.length ≤ maxLen ∧ (-9223372036854775808 ≤ x.2 ∧ x.2 ≤ 9223372036854775807) := by
  obtain ⟨cs, rfl, hsz⟩ := okWide_struct Tryz.underlying28 hv
  obtain ⟨c0, c1, c2, rfl⟩ := array3 (hsz.trans Tryz.cellsDec)
  obtain ⟨fuel, hf⟩ := h
  obtain ⟨y0, y1, n, hx, _, h0, h1⟩ := trod_struct2 Tryz.underlying28 hf
  have k0 : Tryz.prog.cellsOf 24 = 2 := Tryz.cellsSigned
  have k1 : Tryz.prog.cellsOf 22 = 1 := by kernel_rfl
  have k2 : Tryz.prog.cellsOf 3 = 1 := Tryz.cellsInt1
  have kb : Tryz.prog.cellsOf 4 = 1 := by kernel_rfl
  simp only [Value.cells, k0, k2, List.drop_zero, List.take_succ_cons, List.take_zero, List.drop_succ_cons] at h0 h1
  obtain ⟨z0, z1, m, _, _, g0, g1⟩ := trod_struct2 Tryz.underlying24 h0
  simp only [kb, k1, List.drop_zero, List.take_succ_cons, List.take_zero, List.drop_succ_cons] at g0 g1
  obtain ⟨b, e0, _⟩ := DataW.trod_bool Tryz.underlying4 g0
  obtain ⟨a1, l1, cc1, e1⟩ := slice_form Tryz.underlying22 g1
  obtain ⟨k, e2, _, hw⟩ := DataW.trod_int Tryz.underlying3 h1
  simp at e0 e1 e2
  subst e0 e1 e2
  obtain ⟨xs, hr, hl⟩ := cell_ints Tryz.underlying22 Tryz.underlying3 Tryz.cellsInt1 g1
  exact ⟨((b, xs), k), ⟨_, rfl, hr⟩, hl, by simpa [Lit.wf, IntKind.min, IntKind.max, IntKind.signed, IntKind.bits] using hw⟩
end Go.Proofs.YtofehcpapdlcnaaGreatDoor
