/-
  What holds, takeMost and divide of impl.nat do: long division, a limb of the quotient at a time.
  What NatDiv, NatGcd and NatCut of package impl return; the sentinel for a division by zero is at hand.
  Chapter 6 of package impl: ratSized, RatOk and RatMake.
  Chapter 6 of package impl: the methods of operands.
  Chapter 6 of package impl: RatAdd, RatSub, RatMul and RatDiv.
  Chapter 6 of package impl: RatInt, RatZero, RatNeg, RatCmp and RatSign.
  Impl's MoneyRat: the units as a fraction.
  The law of MoneySum, walked.
  The law FnExactMoneySum for arguments of any size, over the contracts of both packages.
  Arguments of type []laws.Money, opened.
-/
import Derived.Deep.RegionHeld3
import Derived.Test.YtcenmdiblbooeaaDoorJA10
namespace Go.Proofs.YtcenmdiblbooeaaDoor
open Go.RowKit

/-- a number without zeros at its end -/
def Trim (xs : List Int) : Prop := DigN xs ∧ xs.getLastD 1 ≠ 0
theorem limbs_trim (n : Nat) : Trim (limbs n) := ⟨limbs_digN n, limbs_lastN n⟩
theorem Trim.drop {xs : List Int} (h : Trim xs) (k : Nat) : Trim (xs.drop k) := by
  refine ⟨h.1.drop k, ?_⟩
  rcases Nat.lt_or_ge k xs.length with hk | hk
  · have h2 := h.2
    rw [List.getLastD_eq_getLast?, List.getLast?_eq_getElem?, List.getElem?_drop]
    rw [List.getLastD_eq_getLast?, List.getLast?_eq_getElem?] at h2
    rw [List.length_drop, show k + (xs.length - k - 1) = xs.length - 1 by omega]
    exact h2
  · rw [List.drop_of_length_le hk]
    decide
theorem nval_shift {xs : List Int} (h : DigN xs) (k : Nat) : nval (xs.drop k) = nval xs / bp k := by
  have h1 := nval_split xs k
  have hp := bp_pos k
  have h2 := nval_nonneg _ (h.take k)
  have h3 : nval (xs.take k) < bp k := by
    have h4 := nval_lt _ (h.take k)
    have h5 := bp_mono (show (xs.take k).length ≤ k by rw [List.length_take]; omega)
    omega
  rw [h1, Int.add_mul_ediv_left _ _ (by omega), Int.ediv_eq_zero_of_lt h2 h3, Int.zero_add]
/-- whether the divisor, shifted, goes into the number -/
def holdsB (N Y : Int) (sh : Nat) : Bool := decide (Y * bp sh ≤ N)
theorem holds_iff (N Y : Int) (sh : Nat) : Y * bp sh ≤ N ↔ Y ≤ N / bp sh := (Int.le_ediv_iff_mul_le (bp_pos sh)).symm

theorem drop_row {w : World} {lo hi : Nat} {A : Option Addr} {n c : Nat} {xs : List Value} (h : Row w lo hi (.slice A n c) xs) (k : Nat) (_hk : k ≤ xs.length) : n = xs.length ∧ Row w lo hi (.slice (A.map (·.add k)) (n - k) (c - k)) (xs.drop k) := by
  obtain ⟨A', c', e, h⟩ := h
  injection e with e1 e2 e3
  subst e1 e2 e3
  refine ⟨rfl, A.map (·.add k), _, by rw [List.length_drop], fun j u hj => ?_⟩
  rw [List.getElem?_drop] at hj
  obtain ⟨a, rfl, h1, h2, h3⟩ := h _ _ hj
  refine ⟨_, rfl, by rw [block_add]; exact h1, by rw [block_add]; exact h2, ?_⟩
  rw [← h3]
  congr 1
  unfold Addr.add
  by_cases hk0 : k = 0 <;> by_cases hj0 : j = 0 <;> simp_all [Nat.add_assoc]

set_option maxHeartbeats 1000000 in
set_option maxRecDepth 100000 in
theorem holds_any (b : Nat) (v : Value) (cur : List Int) (vy : Value) (ys : List Int) (lo hi lo2 hi2 : Nat) (sh : Nat) (w : World) (hcl : cur.length ≤ 1048576) (hyl : ys.length ≤ 1048576) (hsh : sh ≤ 1048576)
    (hc : Trim cur) (hy : Trim ys) (hy0 : 0 < ys.length) (hv : w.cell? ⟨b, 0, none⟩ = some v) (hrc : Row w lo2 hi2 v (intsV cur)) (hcap : ∀ A n c, v = .slice A n c → n ≤ c) (hry : Row w lo hi vy (intsV ys)) :
    Calls Tryd.prog 156 #[.pointer (some ⟨b, 0, none⟩), vy, .int .i64 sh] w fun e w' => e = .returned (.bool (holdsB (nval cur) (nval ys) sh)) ∧ ∃ q, w.drewN q = w' := by
  have hcell := hrc
  obtain ⟨A, c, rfl, hA⟩ := hcell
  have hcp := hcap _ _ _ rfl
  rw [intsV_length] at hrc hv hcp
  clear hA hcap
  by_cases hs : sh < cur.length
  · obtain ⟨-, hd⟩ := drop_row hrc sh (by rw [intsV_length]; omega)
    rw [show (intsV cur).drop sh = intsV (cur.drop sh) by simp [intsV]] at hd
    obtain ⟨a, rfl⟩ : ∃ a, A = some a := by
      obtain ⟨A', c', e, hA⟩ := hrc
      obtain ⟨a, e2, _⟩ := hA 0 _ (intsV_at cur 0 (by omega))
      injection e with e1
      exact ⟨a, e1.trans e2⟩
    have HV := Lib.hid (show holdsB (nval cur) (nval ys) sh = decide (0 ≤ cmpI (nval (cur.drop sh)) (nval ys)) by
      unfold holdsB
      rw [nval_shift hc.1, Bool.eq_iff_iff, decide_eq_true_eq, decide_eq_true_eq, holds_iff]
      unfold cmpI
      constructor
      · intro h; rw [if_neg (by omega)]; split <;> omega
      · intro h
        by_cases hlt : nval cur / bp sh < nval ys
        · rw [if_pos hlt] at h; omega
        · omega)
    have hcm : cmpI (nval (cur.drop sh)) (nval ys) = -1 ∨ cmpI (nval (cur.drop sh)) (nval ys) = 0 ∨ cmpI (nval (cur.drop sh)) (nval ys) = 1 := by unfold cmpI; split; exact .inl rfl; split; exact .inr (.inr rfl); exact .inr (.inl rfl)
    go_enter Tryd.func156, Tryd.ntmps156
    go_wp2_with fail
    refine (compareLimbs_any _ vy (cur.drop sh) ys _ _ _ _ _ (by rw [List.length_drop]; omega) (by omega) (hc.drop sh) hy hd hry).mono ?_
    rintro e w1 ⟨rfl, q, rfl⟩
    have HV2 := HV.out
    generalize cmpI (nval (cur.drop sh)) (nval ys) = z at *
    go_wp2
    go_ret
    exact ⟨ret_bool HV.out.symm, q, rfl⟩
  · have HV := Lib.hid (show holdsB (nval cur) (nval ys) sh = false by
      unfold holdsB
      rw [decide_eq_false_iff_not]
      intro h
      have h1 := nval_lt cur hc.1
      have h2 := bp_mono (show cur.length ≤ sh by omega)
      have h3 := nval_ge ys hy.1 hy.2 hy0
      have h4 := Int.mul_le_mul_of_nonneg_right (show 1 ≤ nval ys by have := bp_pos (ys.length - 1); omega) (show 0 ≤ bp sh by have := bp_pos sh; omega)
      omega)
    go_enter Tryd.func156, Tryd.ntmps156
    go_wp2
    go_ret
    exact ⟨ret_bool HV.out.symm, 0, rfl⟩

theorem NatOn.reads {T : List Nat} {b : Nat} {xs : List Int} {w : World} (h : NatOn T b xs w) : ∃ v, w.cell? ⟨b, 0, none⟩ = some v ∧ Row w 0 w.heap.size v (intsV xs) ∧ (∀ A n c, v = .slice A n c → n ≤ c) := by
  obtain ⟨v, hb, ho, _, _⟩ := h
  refine ⟨v, by rw [Lib.cell_of_heap hb]; rfl, Row.of_own ho, ?_⟩
  rintro A n c rfl
  rcases ho.2 with ⟨h1, h2⟩ | ⟨g, cap, cur, e1, _, _, hn, _⟩
  · injection h1 with h3 h4 h5; omega
  · injection e1 with h3 h4 h5; omega
theorem NatOn.drewN {T : List Nat} {b : Nat} {xs : List Int} {w : World} (h : NatOn T b xs w) (q : Nat) : NatOn T b xs (w.drewN q) := h
theorem Kept.drewN {T : List Nat} {b : Nat} {xs : List Int} {w w' : World} (h : Kept T b xs w w') (q : Nat) : Kept T b xs w (w'.drewN q) := ⟨h.1, ⟨h.2.os, h.2.tape, h.2.output, h.2.size, h.2.block⟩⟩
theorem limbs_small (m n : Int) (h0 : 0 ≤ m) (h : m ≤ n) (k : Nat) (hk : (limbs n.toNat).length ≤ k) : (limbs m.toNat).length ≤ k := Nat.le_trans (limbs_mono h0 h) hk
/-- where the divisor goes in, the number is long enough -/
theorem holds_long {N : Int} {ys : List Int} {sh : Nat} (hN : 0 ≤ N) (hy : Trim ys) (hy0 : 0 < ys.length) (h : nval ys * bp sh ≤ N) : sh + ys.length ≤ (limbs N.toNat).length := by
  have h1 := nval_lt _ (limbs_digN N.toNat)
  rw [limbs_toNat N hN] at h1
  have h2 := nval_ge ys hy.1 hy.2 hy0
  have h3 := Int.mul_le_mul_of_nonneg_right h2 (show 0 ≤ bp sh by have := bp_pos sh; omega)
  rw [← bp_add] at h3
  rcases Nat.lt_or_ge (limbs N.toNat).length (sh + ys.length) with hl | hl
  · have := bp_mono (show (limbs N.toNat).length ≤ ys.length - 1 + sh by omega)
    omega
  · exact hl
/-- one round of takeMost -/
theorem most_next {N0 N t D g : Int} (hD : 0 < D) (h0 : N0 < 1000000000 * D) (hN : N = N0 - t * D) (hg : g * D ≤ N) (_ht : 0 ≤ t) : t + g < 1000000000 ∧ N - g * D = N0 - (t + g) * D ∧ 0 ≤ N - g * D := by
  have e : (t + g) * D = t * D + g * D := Int.add_mul _ _ _
  refine ⟨factor_lt hD (N := N0) (by omega) h0, by omega, by omega⟩
theorem most_done {N0 N t D : Int} (hD : 0 < D) (hN : N = N0 - t * D) (h0 : 0 ≤ N) (h1 : N < D) : t = N0 / D ∧ N = N0 % D := by
  have e : N0 = N + t * D := by omega
  rw [e, Int.add_mul_ediv_right _ _ (by omega), Int.ediv_eq_zero_of_lt h0 h1, Int.add_mul_emod_self_right, Int.emod_eq_of_lt h0 h1]
  exact ⟨by omega, rfl⟩

set_option maxHeartbeats 1000000 in
set_option maxRecDepth 100000 in
theorem takeMost_on (T S : List Nat) (b : Nat) (xs : List Int) (vy : Value) (ys : List Int) (lo hi sh : Nat) (w : World) (hxl : xs.length ≤ 1048576) (hyl : ys.length ≤ 1048576) (hsh : sh ≤ 1048576)
    (hx : Trim xs) (hy : Trim ys) (hy0 : 0 < ys.length) (hN : nval xs < 1000000000 * (nval ys * bp sh)) (hST : ∀ g ∈ S, g ∉ T) (hr : At S (fun w => Row w lo hi vy (intsV ys)) w) (h : NatOn T b xs w) :
    Calls Tryd.prog 151 #[.pointer (some ⟨b, 0, none⟩), vy, .int .i64 sh] w fun e w' =>
      e = .returned (.int .i64 (nval xs / (nval ys * bp sh))) ∧ Kept T b (limbs (nval xs % (nval ys * bp sh)).toNat) w w' := by
  have hx0 := nval_nonneg xs hx.1
  have hxe : xs = limbs (nval xs).toNat := by rw [← trim_limbs xs hx.1, trim_last xs hx.2]
  have hy1 := nval_ge ys hy.1 hy.2 hy0
  have hD : 0 < nval ys * bp sh := Int.mul_pos (by have := bp_pos (ys.length - 1); omega) (bp_pos sh)
  rw [hxe] at h hxl
  have HST := Lib.hid hST
  have HR0 := Lib.hid hr
  have HY := Lib.hid hy
  have HY0 := Lib.hid hy0
  have HN := Lib.hid hN
  have HD := Lib.hid hD
  have HX := Lib.hid hx0
  have HXL := Lib.hid hxl
  clear hx hy hN hST hr hxe hx0 hD hy1 hy0 hxl
  generalize nval xs = N0 at *
  go_enter Tryd.func151, Tryd.ntmps151
  go_wp2
  go_loopg [7] N0.toNat (fun n t wr => ∃ (N tt : Int), t = .int .i64 tt ∧ 0 ≤ tt ∧ tt ≤ 999999999 ∧ Hid (n = N.toNat ∧ 0 ≤ N ∧ N ≤ N0 ∧ N = N0 - tt * (nval ys * bp sh)) ∧ Kept T b (limbs N.toNat) w wr)
  case atStart => exact ⟨N0, 0, rfl, by omega, by omega, Lib.hid ⟨rfl, HX.out, Int.le_refl _, by omega⟩, h, Chg.refl _ _⟩
  case round =>
    obtain ⟨N, tt, rfl, ht0, ht1, HI, hat⟩ := hrel
    obtain ⟨v, hv, hrc, hcp⟩ := NatOn.reads hat.1
    have hrow := HR0.out.chg hat.2 HST.out
    have hlen := limbs_small N N0 HI.out.2.1 HI.out.2.2.1 _ HXL.out
    have hnv := limbs_toNat N HI.out.2.1
    by_cases hge : nval ys * bp sh ≤ N
    · have HB := Lib.hid (show holdsB (nval (limbs N.toNat)) (nval ys) sh = true by unfold holdsB; rw [hnv]; exact decide_eq_true hge)
      have hgl := guess_le (limbs_digN N.toNat) HY.out.1 HY0.out sh
      have hg0 := guess_nonneg (limbs_digN N.toNat) HY.out.1 sh
      rw [hnv] at hgl
      have HNB := Lib.hid (show nval (limbs N.toNat) < 1000000000 * (nval ys * bp sh) by rw [hnv]; have := HN.out; have := HI.out.2.2.1; omega)
      have HLL := Lib.hid (holds_long HI.out.2.1 HY.out HY0.out hge)
      have hmax : max 1 (guessN (limbs N.toNat) ys sh) * (nval ys * bp sh) ≤ N := by
        rcases Int.le_total 1 (guessN (limbs N.toNat) ys sh) with h1 | h1
        · rw [Int.max_eq_right h1]; exact hgl
        · rw [Int.max_eq_left h1]; omega
      have hm1 : 1 ≤ max 1 (guessN (limbs N.toNat) ys sh) := Int.le_max_left _ _
      have hnext := most_next HD.out HN.out HI.out.2.2.2 hmax ht0
      have hmle : max 1 (guessN (limbs N.toNat) ys sh) ≤ 999999999 := by have := hnext.1; omega
      have HM := Lib.hid hmax
      have HNX := Lib.hid hnext
      have htm : tt + max 1 (guessN (limbs N.toNat) ys sh) ≤ 999999999 := by have := hnext.1; omega
      clear hge hgl hmax hnext
      go_wp2_with fail
      refine (holds_any b v _ vy ys _ _ _ _ sh _ hlen hyl hsh (limbs_trim _) HY.out HY0.out hv hrc hcp hrow.here).mono ?_
      rintro e w1 ⟨rfl, q1, rfl⟩
      rw [HB.out]
      go_wp2_with fail
      refine (guess_any b v _ vy ys _ _ _ _ sh (wr.drewN q1) hlen hyl hsh (limbs_digN _) HY.out.1 HY0.out HY.out.2 HNB.out hv (hrc.drewN _) (hrow.here.drewN _)).mono ?_
      rintro e w1 ⟨rfl, q2, rfl⟩
      generalize guessN (limbs N.toNat) ys sh = gz at *
      go_wp2_with fail
      clear hg0
      generalize max 1 gz = g at *
      have hle : g * bp sh * nval ys ≤ nval (limbs N.toNat) := by
        rw [hnv, Int.mul_assoc, Int.mul_comm (bp sh)]
        exact HM.out
      refine (takeTimes_on T S b (limbs N.toNat) vy ys lo hi g sh (wr.drewN (q1 + q2)) hlen HLL.out (by omega) (by omega) (limbs_digN _) HY.out.1 hle HST.out (hrow.drewN _) hat.1).mono ?_
      rintro e w1 ⟨rfl, hat1⟩
      rw [hnv, Int.mul_assoc, Int.mul_comm (bp sh)] at hat1
      have HK := Lib.hid (show Kept T b (limbs (N - g * (nval ys * bp sh)).toNat) w w1 from (hat.drewN (q1 + q2)).trans hat1)
      have hpos : 1 * (nval ys * bp sh) ≤ g * (nval ys * bp sh) := Int.mul_le_mul_of_nonneg_right hm1 (by have := HD.out; omega)
      have HP := Lib.hid hpos
      clear hpos hle hat1 hlen hnv hv hrc hcp hrow
      go_wp2_with fail
      go_roundg (N - g * (nval ys * bp sh)).toNat
      case measure =>
        have h1 := HI.out.1
        have h2 := HP.out
        have h3 := HD.out
        have h4 := HNX.out.2.2
        omega
      case rel => exact ⟨N - g * (nval ys * bp sh), tt + g, rfl, by omega, htm, Lib.hid ⟨rfl, HNX.out.2.2, by have := HI.out.2.2.1; have := HP.out; have := HD.out; omega, HNX.out.2.1⟩, HK.out⟩
    · have HB := Lib.hid (show holdsB (nval (limbs N.toNat)) (nval ys) sh = false by unfold holdsB; rw [hnv]; exact decide_eq_false hge)
      have HE := Lib.hid (most_done HD.out HI.out.2.2.2 HI.out.2.1 (by omega))
      clear hge
      go_wp2_with fail
      refine (holds_any b v _ vy ys _ _ _ _ sh _ hlen hyl hsh (limbs_trim _) HY.out HY0.out hv hrc hcp hrow.here).mono ?_
      rintro e w1 ⟨rfl, q1, rfl⟩
      rw [HB.out]
      go_wp2_with fail
      go_ret
      exact ⟨ret_int HE.out.1, by rw [← HE.out.2]; exact hat.drewN q1⟩

theorem NatAt.chg {T : List Nat} {B b : Nat} {xs : List Int} {w w' : World} (h : NatAt B b xs w) (c : Chg T w w') (hT : ∀ g ∈ T, g < B) : NatAt B b xs w' := by
  obtain ⟨U, hU, hB⟩ := h.on
  exact (hU.at_.chg c (fun g hg hm => by have := hB g hg; have := hT g hm; omega)).here.natAt hB
theorem NatOn.belowB {T : List Nat} {B b : Nat} {xs : List Int} {w w' : World} (h : NatOn T b xs w) (hb : Below B w w') (hT : ∀ g ∈ T, g < B) : NatOn T b xs w' :=
  (h.at_.move (fun g hg => hb.block g (hT g hg)) hb.size).here
theorem chg_below {T : List Nat} {w w1 w2 : World} (c : Chg T w w1) (hb : Below w.heap.size w1 w2) : Chg T w w2 :=
  ⟨hb.os.trans c.os, hb.tape.trans c.tape, hb.output.trans c.output, Nat.le_trans c.size hb.size, fun i hi hn => (hb.block i hi).trans (c.block i hi hn)⟩

/-- a long division that has come down to place k -/
def DivideR (X Y : Int) (M k : Nat) (N : Int) (qs : List Int) : Prop :=
  0 ≤ N ∧ N ≤ X ∧ N < Y * bp k ∧ X = N + Y * nval qs ∧ DigN qs ∧ qs.length ≤ M ∧ ∀ j, j < k → qs.getD j 0 = 0
theorem DivideR.start {xs ys : List Int} (hx : Trim xs) (hy : Trim ys) (hy0 : 0 < ys.length) (M : Nat) : DivideR (nval xs) (nval ys) M ((xs.length : Int) - (ys.length : Int) + 1).toNat (nval xs) [] := by
  have h1 := nval_lt xs hx.1
  have h2 := nval_ge ys hy.1 hy.2 hy0
  refine ⟨nval_nonneg xs hx.1, Int.le_refl _, ?_, (by show _ = _ + nval ys * 0; rw [Int.mul_zero, Int.add_zero]), (fun d hd => by cases hd), Nat.zero_le _, fun j _ => by simp⟩
  generalize hk : ((xs.length : Int) - (ys.length : Int) + 1).toNat = k
  have h3 := Int.mul_le_mul_of_nonneg_right h2 (show 0 ≤ bp k by have := bp_pos k; omega)
  rw [← bp_add] at h3
  have h4 := bp_mono (show xs.length ≤ ys.length - 1 + k by omega)
  omega
theorem getD_set_other (xs : List Int) (p j : Nat) (d : Int) (h : j ≠ p) : (xs.set p d).getD j 0 = xs.getD j 0 := by
  rw [List.getD_eq_getElem?_getD, List.getElem?_set_ne (Ne.symm h), List.getD_eq_getElem?_getD]
theorem getD_pad (xs : List Int) (n j : Nat) : (padL xs n).getD j 0 = xs.getD j 0 := by
  unfold padL
  rw [List.getD_eq_getElem?_getD, List.getD_eq_getElem?_getD]
  rcases Nat.lt_or_ge j xs.length with h | h
  · rw [List.getElem?_append_left h]
  · rw [List.getElem?_append_right h, List.getElem?_replicate, List.getElem?_eq_none h]
    split <;> rfl
theorem DivideR.next {X Y : Int} {M k : Nat} {N : Int} {qs : List Int} (h : DivideR X Y M (k + 1) N qs) (hY : 0 < Y) (hM : k < M) :
    0 ≤ N / (Y * bp k) ∧ N / (Y * bp k) ≤ 999999999 ∧ DivideR X Y M k (N % (Y * bp k)) (addAtL qs k (N / (Y * bp k))) := by
  obtain ⟨h0, hX, h1, h2, h3, h4, h5⟩ := h
  have hD : 0 < Y * bp k := Int.mul_pos hY (bp_pos k)
  have hq0 : 0 ≤ N / (Y * bp k) := Int.ediv_nonneg h0 (by omega)
  have hr0 := Int.emod_nonneg N (show Y * bp k ≠ 0 by omega)
  have hr1 := Int.emod_lt_of_pos N hD
  have he := Int.emod_add_mul_ediv N (Y * bp k)
  rw [bp_succ, Int.mul_left_comm] at h1
  have hq1 : N / (Y * bp k) < 1000000000 := Int.ediv_lt_of_lt_mul hD h1
  have hg := h5 k (Nat.lt_succ_self _)
  have hC : addAtC qs k (N / (Y * bp k)) = 0 := by unfold addAtC; rw [hg]; omega
  have hv := addAt_val qs k (N / (Y * bp k))
  rw [hC, Int.zero_mul, Int.add_zero] at hv
  refine ⟨hq0, by omega, hr0, ?_, hr1, ?_, addAt_dig h3 _ _, by rw [addAt_length]; omega, ?_⟩
  · have := Int.mul_nonneg (show 0 ≤ Y * bp k by omega) hq0
    omega
  · rw [hv, Int.mul_add, h2]
    have e : Y * (N / (Y * bp k) * bp k) = Y * bp k * (N / (Y * bp k)) := by rw [Int.mul_comm (N / (Y * bp k)), Int.mul_assoc]
    rw [e]
    omega
  · intro j hj
    unfold addAtL
    rw [getD_set_other _ _ _ _ (by omega), getD_pad]
    exact h5 j (by omega)
theorem DivideR.done {X Y : Int} {M : Nat} {N : Int} {qs : List Int} (h : DivideR X Y M 0 N qs) (hY : 0 < Y) : N = X % Y ∧ trimL qs = limbs (X / Y).toNat := by
  obtain ⟨h0, hX, h1, h2, h3, _, _⟩ := h
  have h1' : N < Y := by rw [show bp 0 = 1 from rfl, Int.mul_one] at h1; exact h1
  rw [trim_limbs qs h3, h2, Int.add_mul_ediv_left _ _ (by omega), Int.ediv_eq_zero_of_lt h0 h1', Int.zero_add, Int.add_mul_emod_self_left, Int.emod_eq_of_lt h0 h1']
  exact ⟨rfl, rfl⟩

/-- what divide leaves: the quotient, new; the rest in the number itself -/
def DividePost (T : List Nat) (b : Nat) (X Y : Int) (w : World) (e : Ending) (w' : World) : Prop :=
  ∃ v, e = .returned (.tuple #[v, .nilIface]) ∧ w'.ownsRow w.heap.size 3 1 v (limbs (X / Y).toNat).length (intsV (limbs (X / Y).toNat)) ∧ Kept T b (limbs (X % Y).toNat) w w'

set_option maxHeartbeats 1000000 in
set_option maxRecDepth 100000 in
theorem divide_on (T S : List Nat) (b : Nat) (xs : List Int) (vy : Value) (ys : List Int) (lo hi : Nat) (w : World) (hxl : xs.length ≤ 300000) (hyl : ys.length ≤ 300000)
    (hx : Trim xs) (hy : Trim ys) (hy0 : 0 < ys.length) (hST : ∀ g ∈ S, g ∉ T) (hr : At S (fun w => Row w lo hi vy (intsV ys)) w) (h : NatOn T b xs w) :
    Calls Tryd.prog 138 #[.pointer (some ⟨b, 0, none⟩), vy] w (DividePost T b (nval xs) (nval ys) w) := by
  have hxe : xs = limbs (nval xs).toNat := by rw [← trim_limbs xs hx.1, trim_last xs hx.2]
  have hY : 0 < nval ys := by have := nval_ge ys hy.1 hy.2 hy0; have := bp_pos (ys.length - 1); omega
  have hz : ((ys.length : Int) == 0) = false := by rw [beq_eq_false_iff_ne]; omega
  have HST := Lib.hid hST
  have HR0 := Lib.hid hr
  have HY := Lib.hid hy
  have HY0 := Lib.hid hy0
  have HYP := Lib.hid hY
  have hTlt : ∀ g ∈ T, g < w.heap.size := h.at_.lt
  have HTL := Lib.hid hTlt
  have hbl := h.lt
  obtain ⟨v0, hv0, hrc0, hcp0⟩ := NatOn.reads h
  obtain ⟨A0, c0, rfl, _⟩ := hrc0
  rw [intsV_length] at hv0
  have hvy := hr.here
  obtain ⟨A, c, rfl, _⟩ := hvy
  rw [intsV_length] at HR0 ⊢
  have HS := Lib.hid (DivideR.start hx hy hy0 (max xs.length 1))
  have HX0 := Lib.hid (show NatOn T b (limbs (nval xs).toNat) w by rw [← hxe]; exact h)
  have HXL := Lib.hid (show (limbs (nval xs).toNat).length ≤ 300000 by rw [← hxe]; exact hxl)
  clear hx hy hST hr hxe h hcp0 hY hTlt hy0
  go_enter Tryd.func138, Tryd.ntmps138
  have hva : ∀ o, (w.alloc o).cell? ⟨b, 0, none⟩ = some (.slice A0 xs.length c0) := fun o => (World.cell?_alloc_past _ _ _ hbl).trans hv0
  go_wp2
  go_loopw [7] (fun s wr => ∃ (z N : Int) (qs : List Int), s = .int .i64 z ∧ -300000 ≤ z ∧ z + 1 ≤ max xs.length 1 ∧ Hid (DivideR (nval xs) (nval ys) (max xs.length 1) (z + 1).toNat N qs) ∧ NatOn T b (limbs N.toNat) wr ∧ NatAt w.heap.size w.heap.size qs wr ∧ Chg T w wr) (fun s _ => (intOf s + 1).toNat)
  case atStart =>
    refine ⟨_, _, [], rfl, by omega, by have := HY0.out; omega, HS, ?_, NatAt.new (Nat.le_refl _) (World.ownsRow_nil _ _ _ _), Chg.of_below ((Below.refl _ _).alloc (Nat.le_refl _) _)⟩
    exact (HX0.out.at_.below ((Below.refl _ _).alloc (Nat.le_refl _) _)).here
  case round =>
    obtain ⟨z, N, qs, rfl, hz0, hz1, HD, hat, hq, hc⟩ := hrel
    by_cases hge : 0 ≤ z
    · obtain ⟨k, rfl⟩ := Int.eq_ofNat_of_zero_le hge
      have hk1 : ((k : Int) + 1).toNat = k + 1 := by omega
      rw [hk1] at HD
      obtain ⟨hq0, hq1, hnext⟩ := HD.out.next HYP.out (by omega)
      have HN := Lib.hid hnext
      have hN0 := HD.out.1
      have hnv := limbs_toNat N hN0
      have HNB := Lib.hid (show nval (limbs N.toNat) < 1000000000 * (nval ys * bp k) by
        rw [hnv]
        have := HD.out.2.2.1
        rw [bp_succ, Int.mul_left_comm] at this
        exact this)
      have hlen := limbs_small N (nval xs) hN0 HD.out.2.1 _ HXL.out
      have hqsl := HD.out.2.2.2.2.2.1
      have HDQ := Lib.hid HD.out.2.2.2.2.1
      have hrow := HR0.out.chg hc HST.out
      clear hge hnext hk1
      go_wp2_with fail
      refine (takeMost_on T S b (limbs N.toNat) _ ys lo hi k wr (by omega) (by omega) (by omega) (limbs_trim _) HY.out HY0.out HNB.out HST.out hrow hat).mono ?_
      rintro e w1 ⟨rfl, hat1⟩
      rw [hnv] at hat1 ⊢
      have hqa := hq.chg hat1.2 HTL.out
      have hc1 := hc.trans hat1.2
      have hon1 := hat1.1
      have HKI := Lib.hid (show (((k : Nat) : Int) - 1 + 1).toNat = k by omega)
      generalize N / (nval ys * bp k) = q at *
      generalize N % (nval ys * bp k) = N' at *
      clear hat1 hat hq hc hrow hnv hN0
      go_wp2_with fail
      refine (addAt_any w.heap.size w.heap.size qs k q _ (by omega) (by omega) hq0 (by omega) HDQ.out hqa).mono ?_
      rintro e w2 ⟨rfl, hq2, hb2⟩
      have hon2 := NatOn.belowB hon1 hb2 HTL.out
      have hc2 := chg_below hc1 hb2
      clear hqa hon1 hc1
      go_wp2
      go_roundw
      case rel => exact ⟨(k : Int) - 1, N', _, rfl, by omega, by omega, by rw [HKI.out]; exact HN, hon2, hq2, hc2⟩
      case measure => simp [intOf]
    · have HE := Lib.hid (show (z + 1).toNat = 0 by omega)
      rw [HE.out] at HD
      have HF := Lib.hid (HD.out.done HYP.out)
      have hqsl := HD.out.2.2.2.2.2.1
      go_wp2_with fail
      refine (natTrim_any w.heap.size w.heap.size qs _ (by omega) hq).mono ?_
      rintro e w1 ⟨rfl, hq1, hb1⟩
      have hon1 := NatOn.belowB hat hb1 HTL.out
      have hc1 := chg_below hc hb1
      rw [HF.out.2] at hq1
      obtain ⟨_, v, hvb, hown, _⟩ := hq1
      have hcv : w1.cell? ⟨w.heap.size, 0, none⟩ = some v := by rw [Lib.cell_of_heap hvb]; rfl
      have HO := Lib.hid hown
      have HB := Lib.hid hvb
      clear hvb hown
      go_wp2
      go_ret2
      exact ⟨v, rfl, HO.out, by rw [← HF.out.1]; exact hon1, hc1⟩
set_option maxHeartbeats 400000 in
set_option maxRecDepth 100000 in
theorem divide_zero (b : Nat) (A : Option Addr) (c : Nat) (x : Value) (w : World) (hs : w.cell? ⟨1, 0, none⟩ = some x) :
    Calls Tryd.prog 138 #[.pointer (some ⟨b, 0, none⟩), .slice A 0 c] w fun e w' => e = .returned (.tuple #[.slice none 0 0, x]) ∧ ∃ q, w.drewN q = w' := by
  go_enter Tryd.func138, Tryd.ntmps138
  go_wp2
  go_quiet (fail)
  go_wp2
  go_ret2
  exact ⟨rfl, _, rfl⟩
/-- the limbs' row with the blocks on which it leans -/
theorem NatOn.rowAt {T : List Nat} {b : Nat} {xs : List Int} {w : World} (h : NatOn T b xs w) : ∃ v, w.cell? ⟨b, 0, none⟩ = some v ∧ At T (fun w' => Row w' 0 w.heap.size v (intsV xs)) w := by
  have hat := h.at_
  obtain ⟨v, hb, ho, _, rfl⟩ := h
  refine ⟨v, by rw [Lib.cell_of_heap hb]; rfl, Row.of_own ho, hat.lt, fun w' hk => ?_⟩
  have hr := Row.of_own ho
  obtain ⟨_, ⟨rfl, _⟩ | ⟨g, cap, cur, rfl, _⟩⟩ := ho
  · obtain ⟨A, c, e, h⟩ := hr
    injection e with e1 e2 e3
    subst e1
    refine ⟨none, c, by rw [← e2, ← e3], fun j u hj => ?_⟩
    obtain ⟨a, e4, _⟩ := h j u hj
    cases e4
  · obtain ⟨A, c, e, h⟩ := hr
    injection e with e1 e2 e3
    subst e1
    refine ⟨some ⟨g, 0, none⟩, c, by rw [← e2, ← e3], fun j u hj => ?_⟩
    obtain ⟨a, e4, k1, k2, k3⟩ := h j u hj
    cases e4
    refine ⟨_, rfl, k1, k2, ?_⟩
    rw [← k3]
    have hg := hk g (by simp [Value.ownBlock])
    unfold World.cell?
    rw [block_add, hg]
end Go.Proofs.YtcenmdiblbooeaaDoor

namespace Go.Proofs.YtcenmdiblbooeaaDoor
open Go.RowKit

theorem Below.of_chg {T : List Nat} {B : Nat} {w w1 w2 : World} (hb : Below B w w1) (c : Chg T w1 w2) (hB : B ≤ w1.heap.size) (hT : ∀ g ∈ T, B ≤ g) : Below B w w2 := below_chg hb c hB hT
theorem ok_trim {xs : List Int} (h : natOkB xs = true) : Trim xs := ok_dig h
/-- a row at hand, with blocks below B -/
theorem Row.onB {w : World} {lo hi B : Nat} {v : Value} {xs : List Value} (h : Row w lo hi v xs) (hB : hi ≤ B) : ∃ S, At S (fun w => Row w lo hi v xs) w ∧ ∀ g ∈ S, g < B := by
  obtain ⟨S, h1, h2⟩ := h.on
  exact ⟨S, h1, fun g hg => by have := (h2 g hg).2; omega⟩

set_option maxHeartbeats 1000000 in
set_option maxRecDepth 100000 in
theorem implNatDiv_any (va vb : Value) (a b : List Int) (la ha lb hb_ : Nat) (w : World) (hal : a.length ≤ 1048576) (hbl : b.length ≤ 1048576) (_hha : ha ≤ w.heap.size) (hhb : hb_ ≤ w.heap.size)
    (hra : Row w la ha va (intsV a)) (hrb : Row w lb hb_ vb (intsV b)) (hs : Sen w) :
    Calls Tryd.prog 123 #[va, vb] w (TwoRows (divN a b).1 (divN a b).2 w) := by
  by_cases oa : natOkB a = true
  · by_cases ob : natOkB b = true
    · have ha50 := (natOk_parts oa).2.1
      have hb50 := (natOk_parts ob).2.1
      have OA := Lib.hid oa
      have OB := Lib.hid ob
      by_cases h0 : 0 < b.length
      · have HV := Lib.hid (show divN a b = (limbs (nval a / nval b).toNat, limbs (nval a % nval b).toNat) by unfold divN; rw [if_pos ⟨oa, ob, h0⟩])
        have H0 := Lib.hid h0
        clear h0
        go_enter Tryd.func123, Tryd.ntmps123
        go_wp2_with fail
        refine (implNatOk_same va a la ha _ (by omega) hra).mono ?_
        rintro e w' ⟨rfl, rfl⟩
        rw [oa]
        go_wp2_with fail
        refine (implNatOk_same vb b lb hb_ _ (by omega) hrb).mono ?_
        rintro e w' ⟨rfl, rfl⟩
        rw [ob]
        clear oa ob
        go_wp2_with fail
        refine (copyNat_any va a la ha _ hal hra).mono ?_
        rintro e w1 ⟨bn, rfl, hat, b1⟩
        obtain ⟨T, hT, hTB⟩ := hat.on
        obtain ⟨S, hS, hSB⟩ := (hrb.below b1 hhb).onB hhb
        have hTlt := hT.at_.lt
        have HTB := Lib.hid hTB
        have HTL := Lib.hid hTlt
        have hst : ∀ g ∈ S, g ∉ T := fun g hg hm => by have := hSB g hg; have := hTB g hm; omega
        have HST := Lib.hid hst
        clear hSB hTB hst hTlt
        go_wp2_with fail
        refine (divide_on T S bn a vb b lb hb_ _ (by omega) (by omega) (ok_trim OA.out) (ok_trim OB.out) H0.out HST.out hS hT).mono ?_
        rintro e w2 ⟨v2, rfl, o2, hk2⟩
        have b2 : Below w.heap.size w w2 := Below.of_chg b1 hk2.2 b1.size HTB.out
        obtain ⟨es, hes⟩ := hs.below b2
        go_wp2_with fail
        refine (is_nil es _).mono ?_
        rintro e w' ⟨rfl, rfl⟩
        have hon := hk2.1
        obtain ⟨v3, hb3, o3, _, hTe⟩ := hon
        have hc3 : w2.cell? ⟨bn, 0, none⟩ = some v3 := by rw [Lib.cell_of_heap hb3]; rfl
        have HO3 := Lib.hid o3
        have HO2 := Lib.hid o2
        have HTE := Lib.hid hTe
        clear o3 o2 hTe hb3 hk2
        go_wp2
        go_quiet (fail)
        go_wp2
        go_ret2
        have hz1 := b1.size
        refine ⟨v2, v3, rfl, ?_, ?_, ?_, below_drewN b2 _⟩
        · rw [HV.out]
          exact own_base HO2.out hz1
        · rw [HV.out]
          exact own_raise HO3.out (fun g hg => HTB.out g (by rw [HTE.out, hg]; simp))
        · intro x y hx hy hxy
          have h1 := (own_lt HO2.out hx).1
          have h2 := HTL.out y (by rw [HTE.out, hy]; simp)
          omega
      · have HV := Lib.hid (show divN a b = ([], []) by unfold divN; rw [if_neg (fun h => h0 h.2.2)])
        obtain rfl : b = [] := List.eq_nil_of_length_eq_zero (by omega)
        have hrb0 := hrb
        obtain ⟨Ab, cb, rfl, _⟩ := hrb0
        clear h0
        go_enter Tryd.func123, Tryd.ntmps123
        go_wp2_with fail
        refine (implNatOk_same va a la ha _ (by omega) hra).mono ?_
        rintro e w' ⟨rfl, rfl⟩
        rw [oa]
        go_wp2_with fail
        refine (implNatOk_same _ [] lb hb_ _ (by simp) hrb).mono ?_
        rintro e w' ⟨rfl, rfl⟩
        rw [ob]
        clear oa ob
        go_wp2_with fail
        refine (copyNat_any va a la ha _ hal hra).mono ?_
        rintro e w1 ⟨bn, rfl, hat, b1⟩
        obtain ⟨es, hes⟩ := hs.below b1
        go_wp2_with fail
        refine (divide_zero bn Ab cb _ _ hes).mono ?_
        rintro e w2 ⟨rfl, q, rfl⟩
        go_wp2_with fail
        refine (is_same es _).mono ?_
        rintro e w' ⟨rfl, rfl⟩
        go_wp2
        go_ret2
        rw [HV.out]
        exact two_nil (below_drewN b1 _)
    · have ob' : natOkB b = false := by simpa using ob
      have HV := Lib.hid (show divN a b = ([], []) by unfold divN; rw [if_neg (fun h => ob h.2.1)])
      clear ob
      go_enter Tryd.func123, Tryd.ntmps123
      go_wp2_with fail
      refine (implNatOk_same va a la ha _ (by omega) hra).mono ?_
      rintro e w' ⟨rfl, rfl⟩
      rw [oa]
      go_wp2_with fail
      refine (implNatOk_same vb b lb hb_ _ (by omega) hrb).mono ?_
      rintro e w' ⟨rfl, rfl⟩
      rw [ob']
      go_wp2
      go_ret2
      rw [HV.out]
      exact two_nil (Below.refl _ _)
  · have oa' : natOkB a = false := by simpa using oa
    have HV := Lib.hid (show divN a b = ([], []) by unfold divN; rw [if_neg (fun h => oa h.1)])
    clear oa
    go_enter Tryd.func123, Tryd.ntmps123
    go_wp2_with fail
    refine (implNatOk_same va a la ha _ (by omega) hra).mono ?_
    rintro e w' ⟨rfl, rfl⟩
    rw [oa']
    go_wp2
    go_ret2
    rw [HV.out]
    exact two_nil (Below.refl _ _)
theorem implNatDiv_at (a b : List Int) (hla : a.length ≤ 1048576) (hlb : b.length ≤ 1048576) : ∀ (ua ub : Value) (W : World), OwnI ua a W → OwnI ub b W → Sen W → Calls Tryd.prog 123 #[ua, ub] W (PostII (divN a b).1 (divN a b).2 W) :=
  fun ua ub W ha hb hs => (implNatDiv_any ua ub a b _ _ _ _ W hla hlb (Nat.le_refl _) (Nat.le_refl _) ha.row hb.row hs).mono fun _ _ h => h.postII


/-- the two numbers of Euclid's algorithm -/
def EuclS (w : World) (G n : Nat) (x y : Value) (wr : World) : Prop :=
  ∃ (X Y bx by_ : Nat) (Tx Ty : List Nat), n = Y ∧ Nat.gcd X Y = G ∧ (limbs X).length ≤ 50 ∧ (limbs Y).length ≤ 50 ∧ x = .pointer (some ⟨bx, 0, none⟩) ∧ y = .pointer (some ⟨by_, 0, none⟩) ∧
    NatOn Tx bx (limbs X) wr ∧ NatOn Ty by_ (limbs Y) wr ∧ (∀ g ∈ Ty, g ∉ Tx) ∧ (∀ g ∈ Tx, w.heap.size ≤ g) ∧ (∀ g ∈ Ty, w.heap.size ≤ g) ∧ Below w.heap.size w wr
set_option maxHeartbeats 1000000 in
set_option maxRecDepth 100000 in
theorem implNatGcd_any (va vb : Value) (a b : List Int) (la ha lb hb_ : Nat) (w : World) (hal : a.length ≤ 1048576) (hbl : b.length ≤ 1048576) (hhb : hb_ ≤ w.heap.size)
    (hra : Row w la ha va (intsV a)) (hrb : Row w lb hb_ vb (intsV b)) (hs : Sen w) :
    Calls Tryd.prog 122 #[va, vb] w (NewInts (gcdN a b) w) := by
  by_cases oa : natOkB a = true
  · by_cases ob : natOkB b = true
    · have HV := Lib.hid (show gcdN a b = limbs (Nat.gcd (nval a).toNat (nval b).toNat) by unfold gcdN; rw [if_pos ⟨oa, ob⟩])
      have LA := Lib.hid (natOk_limbs oa)
      have LB := Lib.hid (natOk_limbs ob)
      have ha50 := (natOk_parts oa).2.1
      have hb50 := (natOk_parts ob).2.1
      go_enter Tryd.func122, Tryd.ntmps122
      go_wp2_with fail
      refine (implNatOk_same va a la ha _ (by omega) hra).mono ?_
      rintro e w' ⟨rfl, rfl⟩
      rw [oa]
      go_wp2_with fail
      refine (implNatOk_same vb b lb hb_ _ (by omega) hrb).mono ?_
      rintro e w' ⟨rfl, rfl⟩
      rw [ob]
      clear oa ob
      go_wp2_with fail
      refine (copyNat_any va a la ha _ hal hra).mono ?_
      rintro e w1 ⟨bx, rfl, hatx, b1⟩
      go_wp2_with fail
      refine (copyNat_any vb b lb hb_ _ hbl (hrb.below b1 hhb)).mono ?_
      rintro e w2 ⟨by_, rfl, haty, b2⟩
      obtain ⟨Tx, hTx, hBx⟩ := hatx.on
      obtain ⟨Ty, hTy, hBy⟩ := haty.on
      have hz := b1.size
      have HS : Hid (EuclS w (Nat.gcd (nval a).toNat (nval b).toNat) (nval b).toNat (.pointer (some ⟨bx, 0, none⟩)) (.pointer (some ⟨by_, 0, none⟩)) w2) := Lib.hid
        ⟨(nval a).toNat, (nval b).toNat, bx, by_, Tx, Ty, rfl, rfl, by rw [← LA.out]; exact ha50, by rw [← LB.out]; exact hb50, rfl, rfl, by rw [← LA.out]; exact (hTx.at_.below b2).here, by rw [← LB.out]; exact hTy,
          fun g hg hm => by have := hBy g hg; have := hTx.at_.lt g hm; omega, hBx, fun g hg => by have := hBy g hg; omega, Below.next b1 b2⟩
      clear hTx hTy hBx hBy hatx haty hz
      go_wp2
      go_loopg [5, 6] (nval b).toNat (fun n x y wr => EuclS w (Nat.gcd (nval a).toNat (nval b).toNat) n x y wr)
      case atStart => exact HS.out
      case round =>
        clear HS b1 b2
        obtain ⟨X, Y, bx, by_, Tx, Ty, hn, hG, hX, hY, rfl, rfl, hx, hy, hap, hBx, hBy, hb⟩ := hrel
        have HNE := Lib.hid hn
        have HG := Lib.hid hG
        have HAP := Lib.hid hap
        have HBX := Lib.hid hBx
        have HBY := Lib.hid hBy
        obtain ⟨v, hcv, hrow⟩ := NatOn.rowAt hy
        clear hn hG hap hBx hBy
        by_cases hpos : 0 < Y
        · have hlen : 0 < (limbs Y).length := by rw [limbs_pos Y (by omega)]; simp
          go_wp2_with fail
          refine (divide_on Tx Ty bx (limbs X) v (limbs Y) 0 wr.heap.size wr (by omega) (by omega) (limbs_trim X) (limbs_trim Y) hlen HAP.out hrow hx).mono ?_
          rintro e w3 ⟨q, rfl, _, hk⟩
          rw [limbs_val, limbs_val] at hk
          have b3 : Below w.heap.size w w3 := Below.of_chg hb hk.2 hb.size HBX.out
          have hy3 := (hy.at_.chg hk.2 HAP.out).here
          obtain ⟨es, hes⟩ := hs.below b3
          rw [show ((X : Int) % (Y : Int)).toNat = X % Y by omega] at hk
          have hx3 := hk.1
          clear hk hx hy hb hrow hcv
          go_wp2_with fail
          refine (is_nil es _).mono ?_
          rintro e w' ⟨rfl, rfl⟩
          have hmod := Nat.mod_lt X hpos
          have hml : (limbs (X % Y)).length ≤ 50 := Nat.le_trans (by have := limbs_mono (m := ((X % Y : Nat) : Int)) (n := (Y : Int)) (by omega) (by omega); rw [Int.toNat_natCast, Int.toNat_natCast] at this; exact this) hY
          have HR : Hid (EuclS w (Nat.gcd (nval a).toNat (nval b).toNat) (X % Y) (.pointer (some ⟨by_, 0, none⟩)) (.pointer (some ⟨bx, 0, none⟩)) w3) := Lib.hid
            ⟨Y, X % Y, by_, bx, Ty, Tx, rfl, (gcd_step X Y).trans HG.out, hY, hml, rfl, rfl, hy3, hx3, apart_symm HAP.out, HBY.out, HBX.out, b3⟩
          clear hx3 hy3 b3
          go_wp2
          go_roundg (X % Y)
          case measure => rw [HNE.out]; exact hmod
          case rel => exact HR.out
        · obtain rfl : Y = 0 := by omega
          have hv0 : ∃ A c, v = .slice A 0 c := by
            obtain ⟨A, c, e, _⟩ := hrow.here
            rw [limbs_none] at e
            exact ⟨A, c, e⟩
          obtain ⟨A0, c0, rfl⟩ := hv0
          obtain ⟨es, hes⟩ := hs.below hb
          obtain ⟨u, hbu, ou, _, hTe⟩ := hx
          have hcu : wr.cell? ⟨bx, 0, none⟩ = some u := by rw [Lib.cell_of_heap hbu]; rfl
          have HU := Lib.hid ou
          have HTE := Lib.hid hTe
          have HGX := Lib.hid (show Nat.gcd (nval a).toNat (nval b).toNat = X by rw [← HG.out, Nat.gcd_zero_right])
          clear ou hTe hbu
          go_wp2_with fail
          refine (divide_zero bx A0 c0 _ _ hes).mono ?_
          rintro e w3 ⟨rfl, q, rfl⟩
          go_wp2_with fail
          refine (is_same es _).mono ?_
          rintro e w' ⟨rfl, rfl⟩
          go_wp2
          go_ret
          exact ⟨u, rfl, by rw [HV.out, HGX.out]; exact own_raise HU.out (fun g hg => HBX.out g (by rw [HTE.out, hg]; simp)), below_drewN hb q⟩
    · have ob' : natOkB b = false := by simpa using ob
      have HV := Lib.hid (show gcdN a b = [] by unfold gcdN; rw [if_neg (fun h => ob h.2)])
      clear ob
      go_enter Tryd.func122, Tryd.ntmps122
      go_wp2_with fail
      refine (implNatOk_same va a la ha _ (by omega) hra).mono ?_
      rintro e w' ⟨rfl, rfl⟩
      rw [oa]
      go_wp2_with fail
      refine (implNatOk_same vb b lb hb_ _ (by omega) hrb).mono ?_
      rintro e w' ⟨rfl, rfl⟩
      rw [ob']
      go_wp2
      go_ret
      rw [HV.out]
      exact new_nil (Below.refl _ _)
  · have oa' : natOkB a = false := by simpa using oa
    have HV := Lib.hid (show gcdN a b = [] by unfold gcdN; rw [if_neg (fun h => oa h.1)])
    clear oa
    go_enter Tryd.func122, Tryd.ntmps122
    go_wp2_with fail
    refine (implNatOk_same va a la ha _ (by omega) hra).mono ?_
    rintro e w' ⟨rfl, rfl⟩
    rw [oa']
    go_wp2
    go_ret
    rw [HV.out]
    exact new_nil (Below.refl _ _)
theorem implNatGcd_at (a b : List Int) (hla : a.length ≤ 1048576) (hlb : b.length ≤ 1048576) : ∀ (ua ub : Value) (W : World), OwnI ua a W → OwnI ub b W → Sen W → Calls Tryd.prog 122 #[ua, ub] W (PostI (gcdN a b) W) :=
  fun ua ub W ha hb hs => (implNatGcd_any ua ub a b _ _ _ _ W hla hlb (Nat.le_refl _) ha.row hb.row hs).mono fun _ _ h => h.newV
end Go.Proofs.YtcenmdiblbooeaaDoor

namespace Go.Proofs.YtcenmdiblbooeaaDoor
open Go.RowKit

set_option maxHeartbeats 400000 in
set_option maxRecDepth 100000 in
theorem ratSized_any (v : Value) (x : QI) (w : World) (h : OwnQ v x w) :
    Calls Tryd.prog 124 #[v] w (Postb (decide (x.1.2.length ≤ 18 ∧ 0 < x.2.length ∧ x.2.length ≤ 18)) w) := by
  obtain ⟨A, c, B, f, rfl⟩ := ownQ_form h
  have bb0 : Below w.heap.size w (w.alloc (.cells #[.bool x.1.1, .slice A x.1.2.length c, .slice B x.2.length f] 49)) := below_al (Below.refl _ _) _
  clear h
  by_cases g1 : x.1.2.length ≤ 18
  · have h1 : decide ((x.1.2.length : Int) ≤ 18) = true := decide_eq_true (by omega)
    by_cases g2 : 0 < x.2.length
    · by_cases g3 : x.2.length ≤ 18
      · have h3 : decide ((x.2.length : Int) ≤ 18) = true := decide_eq_true (by omega)
        have HV := Lib.hid (show decide (x.1.2.length ≤ 18 ∧ 0 < x.2.length ∧ x.2.length ≤ 18) = true from decide_eq_true ⟨g1, g2, g3⟩)
        clear g1 g3
        go_enter Tryd.func124, Tryd.ntmps124
        go_wp2
        go_ret
        exact ⟨ret_bool HV.out.symm, bb0⟩
      · have h3 : decide ((x.2.length : Int) ≤ 18) = false := decide_eq_false (by omega)
        have HV := Lib.hid (show decide (x.1.2.length ≤ 18 ∧ 0 < x.2.length ∧ x.2.length ≤ 18) = false from decide_eq_false (fun h => g3 h.2.2))
        clear g1 g3
        go_enter Tryd.func124, Tryd.ntmps124
        go_wp2
        go_ret
        exact ⟨ret_bool HV.out.symm, bb0⟩
    · have HV := Lib.hid (show decide (x.1.2.length ≤ 18 ∧ 0 < x.2.length ∧ x.2.length ≤ 18) = false from decide_eq_false (fun h => g2 h.2.1))
      clear g1
      go_enter Tryd.func124, Tryd.ntmps124
      go_wp2
      go_ret
      exact ⟨ret_bool HV.out.symm, bb0⟩
  · have h1 : decide ((x.1.2.length : Int) ≤ 18) = false := decide_eq_false (by omega)
    have HV := Lib.hid (show decide (x.1.2.length ≤ 18 ∧ 0 < x.2.length ∧ x.2.length ≤ 18) = false from decide_eq_false (fun h => g1 h.1))
    clear g1
    go_enter Tryd.func124, Tryd.ntmps124
    go_wp2
    go_ret
    exact ⟨ret_bool HV.out.symm, bb0⟩
theorem okQ_cmp {x : QI} (h1 : okS x.1 = true) (h2 : natOkB x.2 = true) (h3 : x.1.2.length ≤ 18 ∧ 0 < x.2.length ∧ x.2.length ≤ 18) : (cmpN (gcdN x.1.2 x.2) (limbs 1) == 0) = okQ x := by
  have hg := gcdN_small x.1.2 x.2
  have pn := (okS_parts h1).1
  have okg : natOkB (gcdN x.1.2 x.2) = true := by
    have e : gcdN x.1.2 x.2 = limbs (Nat.gcd (nval x.1.2).toNat (nval x.2).toNat) := by unfold gcdN; rw [if_pos ⟨pn, h2⟩]
    rw [e] at hg ⊢
    exact limbs_okL _ hg
  have ok1 : natOkB (limbs 1) = true := by rw [one_limbs]; rfl
  have k := gcd_one_iff pn h2
  unfold cmpN
  rw [if_pos ⟨okg, ok1⟩, one_limbs]
  have hV : okQ x = decide (Nat.gcd (nval x.1.2).toNat (nval x.2).toNat = 1) := by unfold okQ; rw [h1, h2]; simp [h3]
  rw [hV]
  by_cases hc : cmpI (nval (gcdN x.1.2 x.2)) (nval [1]) = 0
  · rw [decide_eq_true (k.1 hc), hc]; rfl
  · rw [decide_eq_false (fun e => hc (k.2 e)), beq_eq_false_iff_ne]; exact hc
theorem okQ_false {x : QI} (h : ¬ (okS x.1 = true ∧ natOkB x.2 = true ∧ x.1.2.length ≤ 18 ∧ 0 < x.2.length ∧ x.2.length ≤ 18)) : okQ x = false := by
  rcases Bool.eq_false_or_eq_true (okQ x) with e | e
  · have p := okQ_parts e
    exact absurd ⟨p.1, p.2.1, p.2.2.2.2.1, p.2.2.1, p.2.2.2.1⟩ h
  · exact e
set_option maxHeartbeats 400000 in
set_option maxRecDepth 100000 in
theorem natResult_same {K : NatK} (b : Nat) (A : Option Addr) (c : Nat) (xs : List Int) (w : World) (hl : xs.length ≤ 50) (hb : w.heap[b]? = some (.cells (.slice A xs.length c :: K.rest).toArray K.ty (0, 0))) :
    Calls Tryd.prog 110 #[.pointer (some ⟨b, 0, none⟩)] w fun e w' => e = .returned (.slice A xs.length c) ∧ w = w' := by
  have hc : w.cell? ⟨b, 0, none⟩ = some (.slice A xs.length c) := NatX.cell hb
  clear hb
  have h50 : decide ((50 : Int) < (xs.length : Int)) = false := decide_eq_false (by omega)
  clear hl
  go_enter Tryd.func110, Tryd.ntmps110
  go_wp2
  go_ret
  exact ⟨rfl, rfl⟩
set_option maxHeartbeats 1000000 in
set_option maxRecDepth 100000 in
theorem signed_same (n : Bool) (b : Nat) (A : Option Addr) (c : Nat) (xs : List Int) (sg : Bool) (w : World) (hl : xs.length ≤ 50) (hsg : (n && decide (0 < xs.length)) = sg) (h : BoxAt b #[.slice A xs.length c, .bool n] 104 w) :
    Calls Tryd.prog 91 #[.pointer (some ⟨b, 0, none⟩)] w fun e w' => e = .returned (.agg #[.bool sg, .slice A xs.length c]) ∧ Below w.heap.size w w' := by
  have hbb := below_al (Below.refl w.heap.size w) (.cells #[.bool false, .slice none 0 0] 30)
  have kr := box_new w #[.bool false, .slice none 0 0] 30
  have hx := (box_at h).below hbb
  have hlt := (box_at h).lt b (by simp)
  obtain ⟨W0, hW0⟩ : ∃ W0, W0 = w.alloc (.cells #[.bool false, .slice none 0 0] 30) := ⟨_, rfl⟩
  rw [← hW0] at hx hbb kr
  have HW := Lib.hid hW0
  have HX := Lib.hid hx.here
  clear hW0 h
  have cn : W0.cell? ⟨b, 1, none⟩ = some (.bool n) := hx.here.cell 1 _ rfl
  have cz0 := kr.here.cell 0 _ rfl
  have cz1 := kr.here.cell 1 _ rfl
  have fz0 := Lib.frozen_of_heap kr.here 0
  have fz1 := Lib.frozen_of_heap kr.here 1
  have HBB := Lib.hid hbb
  clear kr hx hlt hbb
  have HSG := Lib.hid hsg
  clear hsg
  by_cases h0 : 0 < xs.length
  · have e0 := Lib.hid (show sg = n by rw [← HSG.out, decide_eq_true h0, Bool.and_true])
    cases n
    all_goals
      go_enter Tryd.func91, Tryd.ntmps91
      go_wp2_with fail
      rw [← HW.out]
      refine (natResult_same (K := intK _) b A c xs _ hl HX.out).mono ?_
      rintro e w1 ⟨rfl, rfl⟩
      go_wp2
      refine bodyPost_ret (v := .agg #[.bool _, .slice A xs.length c]) (by simp [results, Tryd.results91, go_sem, cz0, cz1]; rfl) rfl ?_
      rw [e0.out]
      exact ⟨rfl, below_set2 HBB.out (Nat.le_refl _)⟩
  · have e0 := Lib.hid (show sg = false by rw [← HSG.out, decide_eq_false h0, Bool.and_false])
    cases n
    all_goals
      go_enter Tryd.func91, Tryd.ntmps91
      go_wp2_with fail
      rw [← HW.out]
      refine (natResult_same (K := intK _) b A c xs _ hl HX.out).mono ?_
      rintro e w1 ⟨rfl, rfl⟩
      go_wp2
      refine bodyPost_ret (v := .agg #[.bool _, .slice A xs.length c]) (by simp [results, Tryd.results91, go_sem, cz0, cz1]; rfl) rfl ?_
      rw [e0.out]
      exact ⟨rfl, below_set2 HBB.out (Nat.le_refl _)⟩
set_option maxHeartbeats 2000000 in
set_option maxRecDepth 100000 in
theorem implRatMake_any (va vb : Value) (a b : SI) (w : World) (hza : szS a ≤ 1048576) (hzb : szS b ≤ 1048576) (ha : OwnS va a w) (hb : OwnS vb b w) (hs : Sen w) :
    Calls Tryd.prog 106 #[va, vb] w (PostQb (makeQ a b).1 (makeQ a b).2 w) := by
  have HS := Lib.hid hs
  clear hs
  have Ha := Lib.hid ha
  obtain ⟨Aa, ca, rfl⟩ := ownS_form ha
  have OSa := Lib.hid (show ∀ W, Below w.heap.size w W → OwnS (.agg #[.bool a.1, .slice Aa a.2.length ca]) a W from fun W hb => OwnS.below Ha.out hb)
  have OIa := Lib.hid (show ∀ W, Below w.heap.size w W → OwnI (.slice Aa a.2.length ca) a.2 W from fun W hb => ownS_open (OSa.out W hb))
  clear ha
  have Hb := Lib.hid hb
  obtain ⟨Ab, cb, rfl⟩ := ownS_form hb
  have OSb := Lib.hid (show ∀ W, Below w.heap.size w W → OwnS (.agg #[.bool b.1, .slice Ab b.2.length cb]) b W from fun W hb => OwnS.below Hb.out hb)
  have OIb := Lib.hid (show ∀ W, Below w.heap.size w W → OwnI (.slice Ab b.2.length cb) b.2 W from fun W hb => ownS_open (OSb.out W hb))
  clear hb
  have hla : a.2.length ≤ 1048576 := by unfold szS szI at hza; omega
  have hlb : b.2.length ≤ 1048576 := by unfold szS szI at hzb; omega
  clear hza hzb
  have bb0 : Below w.heap.size w (((w.alloc (.cells #[.bool a.1, .slice Aa a.2.length ca] 30)).alloc (.cells #[.bool b.1, .slice Ab b.2.length cb] 30)).alloc (.cells #[.bool false, .slice none 0 0, .slice none 0 0] 49)) := below_al (below_al (below_al (Below.refl _ _) _) _) _
  have ka := (box_new w #[.bool a.1, .slice Aa a.2.length ca] 30).below (below_al (below_al (Below.refl _ _) (.cells #[.bool b.1, .slice Ab b.2.length cb] 30)) (.cells #[.bool false, .slice none 0 0, .slice none 0 0] 49))
  have kb := (box_new (w.alloc (.cells #[.bool a.1, .slice Aa a.2.length ca] 30)) #[.bool b.1, .slice Ab b.2.length cb] 30).below (below_al (Below.refl _ _) (.cells #[.bool false, .slice none 0 0, .slice none 0 0] 49))
  rw [show (w.alloc (.cells #[.bool a.1, .slice Aa a.2.length ca] 30)).heap.size = w.heap.size + 1 by simp] at kb
  have ko := (box_new ((w.alloc (.cells #[.bool a.1, .slice Aa a.2.length ca] 30)).alloc (.cells #[.bool b.1, .slice Ab b.2.length cb] 30)) #[.bool false, .slice none 0 0, .slice none 0 0] 49)
  rw [show ((w.alloc (.cells #[.bool a.1, .slice Aa a.2.length ca] 30)).alloc (.cells #[.bool b.1, .slice Ab b.2.length cb] 30)).heap.size = w.heap.size + 1 + 1 by simp] at ko
  have HKO := Lib.hid (ko.lt (w.heap.size + 1 + 1) (by simp))
  go_enter Tryd.func106, Tryd.ntmps106
  have ka_c0 := ka.here.cell 0 _ rfl
  have ka_c1 := ka.here.cell 1 _ rfl
  go_wp2_with fail
  clear ka_c0 ka_c1
  refine (implIntOk_any _ a _ hla (OwnS.rd (OSa.out _ bb0))).mono ?_
  rintro e w1 ⟨rfl, b1⟩
  have bb1 := Below.next bb0 b1
  replace ka := ka.below b1
  replace kb := kb.below b1
  replace ko := ko.below b1
  by_cases oka : okS a = true
  · rw [oka]
    have HOa := Lib.hid oka
    clear oka
    have kb_c0 := kb.here.cell 0 _ rfl
    have kb_c1 := kb.here.cell 1 _ rfl
    go_wp2_with fail
    clear kb_c0 kb_c1
    refine (implIntSign_any _ b _ hlb (OSb.out _ bb1)).mono ?_
    rintro e w2 ⟨rfl, b2⟩
    have bb2 := Below.next bb1 b2
    replace ka := ka.below b2
    replace kb := kb.below b2
    replace ko := ko.below b2
    by_cases okb : cmpS b zeroS = 0
    · have HV := Lib.hid (show makeQ a b = (zeroQ, false) from makeQ_none (fun h => h.2 okb))
      rw [okb]
      clear okb
      have ko_c0 := ko.here.cell 0 _ rfl
      have ko_c1 := ko.here.cell 1 _ rfl
      have ko_c2 := ko.here.cell 2 _ rfl
      have cz0 := ko.here.cell 0 _ rfl
      have fz0 := Lib.frozen_of_heap ko.here 0
      have cz1 := ko.here.cell 1 _ rfl
      have fz1 := Lib.frozen_of_heap ko.here 1
      have cz2 := ko.here.cell 2 _ rfl
      have fz2 := Lib.frozen_of_heap ko.here 2
      go_wp2
      refine bodyPost_ret (v := .tuple #[.agg #[.bool false, .slice none 0 0, .slice none 0 0], .bool false]) (by simp [results, Tryd.results106, go_sem, cz0, cz1, cz2]) rfl ?_
      rw [HV.out]
      first | exact newQb_zero _ bb2 | exact newQb_zero _ (below_set3 bb2 (by omega))
    · have hne : (cmpS b zeroS == 0) = false := by rw [beq_eq_false_iff_ne]; exact okb
      obtain ⟨X, Y, eg, ex, ey, lx, ly, hy0, HV0⟩ := makeQ_parts HOa.out okb
      have EX := Lib.hid ex
      have EY := Lib.hid ey
      have HVm := Lib.hid HV0
      have hgl := gcdN_small a.2 b.2
      obtain ⟨G, hG⟩ : ∃ G, gcdN a.2 b.2 = G := ⟨_, rfl⟩
      have EG := Lib.hid hG
      rw [hG] at hgl
      have EXG := Lib.hid (show (divN a.2 G).1 = limbs X by rw [← hG]; exact ex)
      have EYG := Lib.hid (show (divN b.2 G).1 = limbs Y by rw [← hG]; exact ey)
      have kb50 := (natOk_parts (okS_parts (cmpS_ok okb)).1).2.1
      have ka50 := (natOk_parts (okS_parts HOa.out).1).2.1
      generalize cmpS b zeroS = z at *
      clear eg ex ey HV0 hG okb
      have ka_c0 := ka.here.cell 0 _ rfl
      have ka_c1 := ka.here.cell 1 _ rfl
      have kb_c0 := kb.here.cell 0 _ rfl
      have kb_c1 := kb.here.cell 1 _ rfl
      go_wp2_with fail
      clear ka_c0 ka_c1 kb_c0 kb_c1
      refine (implNatGcd_any _ _ a.2 b.2 0 _ 0 _ _ hla hlb (Nat.le_refl _) (OIa.out _ bb2).row (OIb.out _ bb2).row (HS.out.below bb2)).mono ?_
      rintro e w3 ⟨vg, rfl, og0, b3⟩
      rw [EG.out] at og0
      have og := own_at' og0
      obtain ⟨Ag, cg, rfl⟩ := own_len og0
      have bb3 := Below.next bb2 b3
      replace ka := ka.below b3
      replace kb := kb.below b3
      replace ko := ko.below b3
      clear hne og0
      have ka_c0 := ka.here.cell 0 _ rfl
      have ka_c1 := ka.here.cell 1 _ rfl
      go_wp2_with fail
      clear ka_c0 ka_c1
      refine (implNatDiv_any _ _ a.2 G 0 _ 0 _ _ hla (by omega) (Nat.le_refl _) (Nat.le_refl _) (OIa.out _ bb3).row (At.here og).row (HS.out.below bb3)).mono ?_
      rintro e w4 ⟨vx, vx2, rfl, ox0, _, _, b4⟩
      rw [EXG.out] at ox0
      have ox := own_at' ox0
      obtain ⟨Ax, cx, rfl⟩ := own_len ox0
      have bb4 := Below.next bb3 b4
      replace ka := ka.below b4
      replace kb := kb.below b4
      replace ko := ko.below b4
      replace og := og.below b4
      have kb_c0 := kb.here.cell 0 _ rfl
      have kb_c1 := kb.here.cell 1 _ rfl
      go_wp2_with fail
      clear kb_c0 kb_c1
      refine (implNatDiv_any _ _ b.2 G 0 _ 0 _ _ hlb (by omega) (Nat.le_refl _) (Nat.le_refl _) (OIb.out _ bb4).row (At.here og).row (HS.out.below bb4)).mono ?_
      rintro e w5 ⟨vy, vy2, rfl, oy0, _, _, b5⟩
      rw [EYG.out] at oy0
      obtain ⟨Ay, cy, rfl⟩ := own_len oy0
      have bb5 := Below.next bb4 b5
      replace ka := ka.below b5
      replace kb := kb.below b5
      replace ko := ko.below b5
      replace og := og.below b5
      replace ox := ox.below b5
      have hap : ∀ g, (Value.slice Ax (limbs X).length cx).ownBlock = some g → (Value.slice Ay (limbs Y).length cy).ownBlock ≠ some g := fun g h1 h2 => by
        have h3 := (own_lt ox0 h1).2
        have h4 := (own_lt oy0 h2).1
        omega
      have ox1 := own_up ox0 b5
      obtain ⟨sg, hsg⟩ : ∃ sg, ((!(a.1 == b.1)) && decide (0 < (limbs X).length)) = sg := ⟨_, rfl⟩
      have ESG := Lib.hid hsg
      have EM := Lib.hid (show mkS (!(a.1 == b.1)) (limbs X) = (sg, limbs X) by unfold mkS capL; rw [if_neg (by omega), hsg])
      have of := partsQ_at (x := ((sg, limbs X), limbs Y)) ox1 oy0 hap
      have lf0 : Within (partsB (Value.slice Ax (limbs X).length cx) (Value.slice Ay (limbs Y).length cy)) w3.heap.size w5.heap.size := fun g hg => by
        rcases List.mem_append.1 hg with hg | hg
        · exact own_within ox1 g hg
        · have := own_within oy0 g hg
          have := b4.size
          omega
      have LF := Lib.hid lf0
      have HS2 := Lib.hid (show w.heap.size + 1 + 1 < w3.heap.size from Nat.lt_of_lt_of_le HKO.out (by have := b1.size; have := b2.size; have := b3.size;  omega))
      clear ox0 oy0 ox1 hap lf0 hsg ox og
      have ka_c0 := ka.here.cell 0 _ rfl
      have ka_c1 := ka.here.cell 1 _ rfl
      have kb_c0 := kb.here.cell 0 _ rfl
      have kb_c1 := kb.here.cell 1 _ rfl
      have kn := box_new (w5) #[.slice Ax (limbs X).length cx, .bool (!(a.1 == b.1))] 104
      have aln := below_al (Below.refl (w5).heap.size (w5)) (.cells #[.slice Ax (limbs X).length cx, .bool (!(a.1 == b.1))] 104)
      have bbn := Below.next bb5 aln
      replace ka := ka.below aln
      replace kb := kb.below aln
      replace ko := ko.below aln
      replace of := of.below aln
      go_wp2_with fail
      clear ka_c0 ka_c1 kb_c0 kb_c1
      refine (signed_same _ _ Ax cx (limbs X) sg _ lx ESG.out kn.here).mono ?_
      rintro e w6 ⟨rfl, b6⟩
      have bb6 := Below.next bbn b6
      replace ka := ka.below b6
      replace kb := kb.below b6
      replace ko := ko.below b6
      replace of := of.below b6
      replace kn := kn.below b6
      clear kn
      have kr := box_new (w6) #[.bool sg, .slice Ax (limbs X).length cx, .slice Ay (limbs Y).length cy] 49
      have alr := below_al (Below.refl (w6).heap.size (w6)) (.cells #[.bool sg, .slice Ax (limbs X).length cx, .slice Ay (limbs Y).length cy] 49)
      have bbr := Below.next bb6 alr
      replace ka := ka.below alr
      replace kb := kb.below alr
      replace ko := ko.below alr
      replace of := of.below alr
      have kr_c0 := kr.here.cell 0 _ rfl
      have kr_c1 := kr.here.cell 1 _ rfl
      have kr_c2 := kr.here.cell 2 _ rfl
      go_wp2_with fail
      clear kr_c0 kr_c1 kr_c2
      refine (ratSized_any _ ((sg, limbs X), limbs Y) _ of.here).mono ?_
      rintro e w7 ⟨rfl, b7⟩
      have bb7 := Below.next bbr b7
      replace ka := ka.below b7
      replace kb := kb.below b7
      replace ko := ko.below b7
      replace of := of.below b7
      replace kr := kr.below b7
      by_cases hsz : (limbs X).length ≤ 18 ∧ 0 < (limbs Y).length ∧ (limbs Y).length ≤ 18
      · have HV := Lib.hid (show makeQ a b = (((sg, limbs X), limbs Y), true) by rw [HVm.out, if_pos ⟨hsz.1, hsz.2.2⟩, EM.out])
        rw [decide_eq_true hsz]
        clear hsz
        have hkz := kr.here.cell 0 _ rfl
        have hkz1 := kr.here.cell 1 _ rfl
        have hkz2 := kr.here.cell 2 _ rfl
        have HW := Lib.hid (newQb_at (x := ((sg, limbs X), limbs Y)) (r := w.heap.size + 1 + 1) (b := true) of (within_up LF.out (Nat.le_refl _) (by have := b6.size; have := b7.size; have := aln.size; have := alr.size; omega)) HS2.out (by omega) bb7)
        have cz0 := ko.here.cell 0 _ rfl
        have fz0 := Lib.frozen_of_heap ko.here 0
        have cz1 := ko.here.cell 1 _ rfl
        have fz1 := Lib.frozen_of_heap ko.here 1
        have cz2 := ko.here.cell 2 _ rfl
        have fz2 := Lib.frozen_of_heap ko.here 2
        clear of ko kr
        go_wp2
        refine bodyPost_ret (v := .tuple #[.agg #[.bool sg, .slice Ax _ cx, .slice Ay _ cy], .bool true]) (by simp [results, Tryd.results106, go_sem, cz0, cz1, cz2]; exact ⟨rfl, rfl⟩) rfl ?_
        rw [HV.out]
        exact HW.out
      · have HV := Lib.hid (show makeQ a b = (zeroQ, false) by rw [HVm.out, if_neg (fun h => hsz ⟨h.1, hy0, h.2⟩)])
        rw [decide_eq_false hsz]
        clear hsz
        have ko_c0 := ko.here.cell 0 _ rfl
        have ko_c1 := ko.here.cell 1 _ rfl
        have ko_c2 := ko.here.cell 2 _ rfl
        have cz0 := ko.here.cell 0 _ rfl
        have fz0 := Lib.frozen_of_heap ko.here 0
        have cz1 := ko.here.cell 1 _ rfl
        have fz1 := Lib.frozen_of_heap ko.here 1
        have cz2 := ko.here.cell 2 _ rfl
        have fz2 := Lib.frozen_of_heap ko.here 2
        go_wp2
        refine bodyPost_ret (v := .tuple #[.agg #[.bool false, .slice none 0 0, .slice none 0 0], .bool false]) (by simp [results, Tryd.results106, go_sem, cz0, cz1, cz2]) rfl ?_
        rw [HV.out]
        first | exact newQb_zero _ bb7 | exact newQb_zero _ (below_set3 bb7 (by omega))
  · have oka' : okS a = false := by simpa using oka
    have HV := Lib.hid (show makeQ a b = (zeroQ, false) from makeQ_none (fun h => oka h.1))
    rw [oka']
    clear oka oka'
    have ko_c0 := ko.here.cell 0 _ rfl
    have ko_c1 := ko.here.cell 1 _ rfl
    have ko_c2 := ko.here.cell 2 _ rfl
    have cz0 := ko.here.cell 0 _ rfl
    have fz0 := Lib.frozen_of_heap ko.here 0
    have cz1 := ko.here.cell 1 _ rfl
    have fz1 := Lib.frozen_of_heap ko.here 1
    have cz2 := ko.here.cell 2 _ rfl
    have fz2 := Lib.frozen_of_heap ko.here 2
    go_wp2
    refine bodyPost_ret (v := .tuple #[.agg #[.bool false, .slice none 0 0, .slice none 0 0], .bool false]) (by simp [results, Tryd.results106, go_sem, cz0, cz1, cz2]) rfl ?_
    rw [HV.out]
    first | exact newQb_zero _ bb1 | exact newQb_zero _ (below_set3 bb1 (by omega))
end Go.Proofs.YtcenmdiblbooeaaDoor

namespace Go.Proofs.YtcenmdiblbooeaaDoor
open Go.RowKit

/-- a struct result of two cells that lies in its cells at block r -/
theorem newV_at2 {φ : Value → World → Prop} {r B : Nat} {S : List Nat} {c0 c1 : Value} {w W : World} (o : At S (φ (.agg #[c0, c1])) W) (l : Within S B W.heap.size) (hrB : r < B) (hr : w.heap.size ≤ r) (hW : Below w.heap.size w W) :
    NewV φ w (.returned (.agg #[c0, c1])) ((W.setCell ⟨r, 0, none⟩ c0).setCell ⟨r, 1, none⟩ c1) := by
  have hc : Chg [r] W ((W.setCell ⟨r, 0, none⟩ c0).setCell ⟨r, 1, none⟩ c1) := ((Chg.refl _ _).setCell (by simp) _).setCell (by simp) _
  have hz := hc.size
  exact ⟨_, S, rfl, o.chg hc (fun i hi hm => by have := l i hi; simp at hm; omega), fun i hi => by have := l i hi; omega, below_set2 hW hr⟩
theorem newVS_eq {x y : SI} (e : x = y) {w w' : World} {n : Ending} (h : NewV (fun v => OwnS v x) w n w') : NewV (fun v => OwnS v y) w n w' := by rw [← e]; exact h
end Go.Proofs.YtcenmdiblbooeaaDoor

namespace Go.Proofs.YtcenmdiblbooeaaDoor
open Go.RowKit

theorem szS_ofZ (z : Int) : szS (ofZ z) ≤ 1048576 := by have := ofZ_len z; unfold szS szI; omega
theorem part_sz_left {r s : QI} (hr : Parts r) (hs : Parts s) : szS (leftS r s) ≤ 1048576 := by rw [(leftS_eq hr hs).1]; exact szS_ofZ _
theorem part_sz_right {r s : QI} (hr : Parts r) (hs : Parts s) : szS (leftS s r) ≤ 1048576 := part_sz_left hs hr
theorem part_sz_numerators {r s : QI} (hr : Parts r) (hs : Parts s) : szS (topS r s) ≤ 1048576 := by rw [(topS_eq hr hs).1]; exact szS_ofZ _
theorem part_sz_denominators {r s : QI} (hr : Parts r) (hs : Parts s) : szS (denS r s) ≤ 1048576 := by
  have h := denS_eq hr hs
  rw [h.1]
  unfold szS szI
  simp only
  have := h.2.2
  omega
theorem part_sz_sum {r s : QI} (_ : Parts r) (_ : Parts s) : szS (addS (leftS r s) (leftS s r)) ≤ 1048576 := by unfold addS; split; exact szS_ofZ _; decide
theorem part_sz_difference {r s : QI} (_ : Parts r) (_ : Parts s) : szS (subS (leftS r s) (leftS s r)) ≤ 1048576 := by unfold subS; split; exact szS_ofZ _; decide
theorem negQ_ok {s : QI} (h : (negQ s).2 = true) : okQ s = true := by
  unfold negQ at h
  split at h
  · rename_i k; exact k
  · cases h
theorem subQ_none {r s : QI} (h : ¬ (okQ r = true ∧ okQ s = true)) : subQ r s = (zeroQ, false) := by
  unfold subQ
  split
  · rename_i k
    have ks := negQ_ok k
    unfold addQ
    rw [if_neg (fun e => h ⟨e.1, ks⟩)]
  · rfl
theorem At.imp_at {u d : Value} {n : Bool} {x : SI} {ys : List Int} {S T : List Nat} {w : World} (h : At (S ++ T) (fun w => OwnS (.agg #[.bool n, u]) x w ∧ OwnI d ys w) w) (hap : ∀ g, u.ownBlock = some g → d.ownBlock = some g → False) : At (S ++ T) (OwnQ (.agg #[.bool x.1, u, d]) (x, ys)) w :=
  h.imp fun _ k => ⟨u, d, rfl, ownS_open k.1, k.2, fun g h1 h2 => hap g h1 h2⟩
end Go.Proofs.YtcenmdiblbooeaaDoor

namespace Go.Proofs.YtcenmdiblbooeaaDoor
open Go.RowKit

set_option maxHeartbeats 2000000 in
set_option maxRecDepth 100000 in
theorem implRatInt_any (va : Value) (a : SI) (w : World) (hza : szS a ≤ 1048576) (ha : OwnS va a w) (hsen : Sen w) :
    Calls Tryd.prog 77 #[va] w (PostQb (makeQ a (ofZ 1)).1 (makeQ a (ofZ 1)).2 w) := by
  have HS := Lib.hid hsen
  clear hsen
  have Ha := Lib.hid ha
  obtain ⟨Aa, ca, rfl⟩ := ownS_form ha
  have OSa := Lib.hid (show ∀ W, Below w.heap.size w W → OwnS (.agg #[.bool a.1, .slice Aa a.2.length ca]) a W from fun W hb => OwnS.below Ha.out hb)
  have OIa := Lib.hid (show ∀ W, Below w.heap.size w W → OwnI (.slice Aa a.2.length ca) a.2 W from fun W hb => ownS_open (OSa.out W hb))
  clear ha
  have bb0 : Below w.heap.size w ((w.alloc (.cells #[.bool a.1, .slice Aa a.2.length ca] 30)).alloc (.cells #[.bool false, .slice none 0 0, .slice none 0 0] 49)) := below_al (below_al (Below.refl _ _) _) _
  have ka := (box_new w #[.bool a.1, .slice Aa a.2.length ca] 30).below (below_al (Below.refl _ _) (.cells #[.bool false, .slice none 0 0, .slice none 0 0] 49))
  have ko := (box_new (w.alloc (.cells #[.bool a.1, .slice Aa a.2.length ca] 30)) #[.bool false, .slice none 0 0, .slice none 0 0] 49)
  rw [show (w.alloc (.cells #[.bool a.1, .slice Aa a.2.length ca] 30)).heap.size = w.heap.size + 1 by simp] at ko
  have HKO := Lib.hid (ko.lt (w.heap.size + 1) (by simp))
  obtain ⟨Q, hQ⟩ : ∃ Q, makeQ a (ofZ 1) = Q := ⟨_, rfl⟩
  have EQ := Lib.hid hQ
  rw [hQ]
  clear hQ
  obtain ⟨W0, hW0⟩ : ∃ W0, W0 = ((w.alloc (.cells #[.bool a.1, .slice Aa a.2.length ca] 30)).alloc (.cells #[.bool false, .slice none 0 0, .slice none 0 0] 49)) := ⟨_, rfl⟩
  rw [← hW0] at bb0 ka ko HKO
  have HW0 := Lib.hid hW0
  clear hW0
  have hz0 := HKO.out
  go_enter Tryd.func77, Tryd.ntmps77
  have ka_c0 := ka.here.cell 0 _ rfl
  have ka_c1 := ka.here.cell 1 _ rfl
  go_wp2_with fail
  rw [← HW0.out]
  have HC0 := Lib.hid (show Chg [w.heap.size + 1] W0 W0.drew from (Chg.refl _ _).drew1)
  have HCr := Lib.hid (show Chg [w.heap.size + 1] W0 W0 from Chg.refl _ _)
  have KL := Lib.hid (show ∀ W, Chg [w.heap.size + 1] W0 W → W.cell? ⟨w.heap.size, 0, none⟩ = some (.bool a.1) ∧ W.cell? ⟨w.heap.size, 1, none⟩ = some (.slice Aa a.2.length ca) ∧ Hid (Chg [w.heap.size + 1] W0 W) from fun W hc => ⟨(ka.chg hc (fun i hi hm => by simp at hi hm; omega)).here.cell 0 _ rfl, (ka.chg hc (fun i hi hm => by simp at hi hm; omega)).here.cell 1 _ rfl, Lib.hid hc⟩)
  have BBF := Lib.hid (show ∀ W, Chg [w.heap.size + 1] W0 W → Below w.heap.size w W from fun W hc => below_chg bb0 hc bb0.size (fun i hi => by simp at hi; omega))
  clear ka_c0 ka_c1
  go_region_held3 (fun W => W.cell? ⟨w.heap.size, 0, none⟩ = some (.bool a.1) ∧ W.cell? ⟨w.heap.size, 1, none⟩ = some (.slice Aa a.2.length ca) ∧ Hid (Chg [w.heap.size + 1] W0 W))
    ((refine KL.out _ ?_; (first | exact HC2.out | exact HC1.out | exact HCr.out | exact HC0.out | exact HC2.out.drew1 | exact HC1.out.drew1 | exact HCr.out.drew1 | exact HC0.out.drew1 | exact HC2.out.trans (Chg.of_below (below_al (Below.refl _ _) _)) | exact HC1.out.trans (Chg.of_below (below_al (Below.refl _ _) _)) | exact HCr.out.trans (Chg.of_below (below_al (Below.refl _ _) _)) | exact HC0.out.trans (Chg.of_below (below_al (Below.refl _ _) _)) | exact (Chg.setCell HC2.out (by simp) _) | exact (Chg.setCell (Chg.setCell HC2.out (by simp) _) (by simp) _) | exact (Chg.setCell (Chg.setCell (Chg.setCell HC2.out (by simp) _) (by simp) _) (by simp) _) | fail)))
    (first
      | (go_at_call 58; (have hBB := (‹_ ∧ _ ∧ Hid (Chg [w.heap.size + 1] W0 _)›).2.2); (with_reducible refine ((implIntOf_any 1 _ (by decide) (by decide)).mono fun _ _ h => NewS.newV h).mono ?_); rintro e w1 ⟨ui, Si, rfl, oi, li, b1⟩; have HC1 := Lib.hid (hBB.out.trans (Chg.of_below b1)); (have ko_1 := At.below (by first | exact ko | exact At.below ko (below_al (Below.refl _ _) _) | exact At.below (At.below ko (below_al (Below.refl _ _) _)) (below_al (Below.refl _ _) _) | exact At.move ko (fun _ _ => rfl) (Nat.le_refl _)) b1); obtain ⟨Ai, ci, rfl⟩ := ownS_form oi.here; have HBZ1 := Lib.hid hBB.out.size; clear hBB)
      | (go_at_call 106; (have hBB := (‹_ ∧ _ ∧ Hid (Chg [w.heap.size + 1] W0 _)›).2.2); (with_reducible refine ((implRatMake_any _ _ a (ofZ 1) _ hza one_szS (OSa.out _ (BBF.out _ hBB.out)) (At.here (by first | exact oi | exact At.below oi (below_al (Below.refl _ _) _) | exact At.below (At.below oi (below_al (Below.refl _ _) _)) (below_al (Below.refl _ _) _) | exact At.move oi (fun _ _ => rfl) (Nat.le_refl _))) (HS.out.below (BBF.out _ hBB.out))).mono fun _ _ h => postQb_eq EQ.out h).mono ?_); rintro e w2 ⟨uf, Sf, rfl, of, lf, b2⟩; have HC2 := Lib.hid (hBB.out.trans (Chg.of_below b2)); (have ko_2 := At.below (by first | exact ko_1 | exact At.below ko_1 (below_al (Below.refl _ _) _) | exact At.below (At.below ko_1 (below_al (Below.refl _ _) _)) (below_al (Below.refl _ _) _) | exact At.move ko_1 (fun _ _ => rfl) (Nat.le_refl _)) b2); (have oi_2 := At.below (by first | exact oi | exact At.below oi (below_al (Below.refl _ _) _) | exact At.below (At.below oi (below_al (Below.refl _ _) _)) (below_al (Below.refl _ _) _) | exact At.move oi (fun _ _ => rfl) (Nat.le_refl _)) b2); obtain ⟨Af, cf, Bf, df, rfl⟩ := ownQ_form of.here; have cz0 := ko_2.here.cell 0 _ rfl; have fz0 := Lib.frozen_of_heap ko_2.here 0; have cz1 := ko_2.here.cell 1 _ rfl; have fz1 := Lib.frozen_of_heap ko_2.here 1; have cz2 := ko_2.here.cell 2 _ rfl; have fz2 := Lib.frozen_of_heap ko_2.here 2; have HBZ2 := Lib.hid hBB.out.size; clear hBB))
  have bb2 := BBF.out _ HC2.out
  replace ka := ka.chg HC2.out (fun i hi hm => by simp at hi hm; omega)
  replace ko := ko_2
  have oi := oi_2
  have HW := Lib.hid (newQb_at (r := w.heap.size + 1) (b := Q.2) of lf (by have := HBZ2.out; omega) (by omega) bb2)
  clear of ko ka oi
  go_wp2
  refine bodyPost_ret (v := .tuple #[.agg #[.bool _, .slice Af _ cf, .slice Bf _ df], .bool _]) (by simp [results, Tryd.results77, go_sem, cz0, cz1, cz2]; exact ⟨⟨rfl, rfl, rfl⟩, rfl⟩) rfl ?_
  exact HW.out
end Go.Proofs.YtcenmdiblbooeaaDoor

namespace Go.Proofs.YtcenmdiblbooeaaDoor
open Go.RowKit

set_option maxHeartbeats 2000000 in
set_option maxRecDepth 100000 in
theorem implMoneyRat_any (vm : Value) (m : MI) (w : World) (hz : szS m.2 ≤ 1048576) (hm : OwnM vm m w) (ht : CurTab w) (hs : Sen w) : Calls Tryd.prog 38 #[vm] w (NewV (fun v => OwnQ v (ratM m)) w) := by
  have HT := Lib.hid ht
  have HS := Lib.hid hs
  clear ht hs
  have Hm := Lib.hid hm
  obtain ⟨Am, cm, rfl⟩ := ownM_form hm
  have OMm := Lib.hid (show ∀ W, Below w.heap.size w W → OwnM (.agg #[.string m.1, .bool m.2.1, .slice Am m.2.2.length cm]) m W from fun W hb => OwnM.below Hm.out hb)
  have OSm := Lib.hid (show ∀ W, Below w.heap.size w W → OwnS (.agg #[.bool m.2.1, .slice Am m.2.2.length cm]) m.2 W from fun W hb => OwnS.mk (ownM_open (OMm.out W hb)))
  clear hm
  have hl : m.2.2.length ≤ 1048576 := by unfold szS szI at hz; omega
  have bb0 : Below w.heap.size w ((w.alloc (.cells #[.string m.1, .bool m.2.1, .slice Am m.2.2.length cm] 32)).alloc (.cells #[.bool false, .slice none 0 0, .slice none 0 0] 49)) := below_al (below_al (Below.refl _ _) _) _
  have km := (box_new w #[.string m.1, .bool m.2.1, .slice Am m.2.2.length cm] 32).below (below_al (Below.refl _ _) (.cells #[.bool false, .slice none 0 0, .slice none 0 0] 49))
  have ko := box_new (w.alloc (.cells #[.string m.1, .bool m.2.1, .slice Am m.2.2.length cm] 32)) #[.bool false, .slice none 0 0, .slice none 0 0] 49
  rw [show (w.alloc (.cells #[.string m.1, .bool m.2.1, .slice Am m.2.2.length cm] 32)).heap.size = w.heap.size + 1 by simp] at ko
  have hko := ko.lt (w.heap.size + 1) (by simp)
  have HKO := Lib.hid hko
  go_enter Tryd.func38, Tryd.ntmps38
  have km_c0 := km.here.cell 0 _ rfl
  have km_c1 := km.here.cell 1 _ rfl
  have km_c2 := km.here.cell 2 _ rfl
  go_wp2_with fail
  clear km_c0 km_c1 km_c2 hko
  refine (implMoneyOk_any _ m _ hl (OMm.out _ bb0) (HT.out.below bb0)).mono ?_
  rintro e w1 ⟨rfl, b1⟩
  have bb1 := Below.next bb0 b1
  replace km := km.below b1
  replace ko := ko.below b1
  by_cases hk : okM m = true
  · rw [hk]
    have HV := Lib.hid (show ratM m = (makeQ m.2 (ofZ 1)).1 by unfold ratM; rw [if_pos hk])
    clear hk
    have km_c0 := km.here.cell 0 _ rfl
    have km_c1 := km.here.cell 1 _ rfl
    have km_c2 := km.here.cell 2 _ rfl
    go_wp2_with fail
    clear km_c0 km_c1 km_c2
    refine (implRatInt_any _ m.2 _ hz (OSm.out _ bb1) (HS.out.below bb1)).mono ?_
    generalize makeQ m.2 (ofZ 1) = Q at *
    rintro e w2 ⟨uf, Sf, rfl, of, lf, b2⟩
    obtain ⟨Af, cf, Bf, df, rfl⟩ := ownQ_form of.here
    have bb2 := Below.next bb1 b2
    have al := below_al (Below.refl w2.heap.size w2) (.cells #[.bool Q.1.1.1, .slice Af Q.1.1.2.length cf, .slice Bf Q.1.2.length df] 49)
    have kr := box_new w2 #[.bool Q.1.1.1, .slice Af Q.1.1.2.length cf, .slice Bf Q.1.2.length df] 49
    have z1 := b1.size
    have hz0 := HKO.out
    have HW := Lib.hid (newV_chg (φ := fun v => OwnQ v Q.1) (T := [w.heap.size + 1]) (of.below al) (fun i hi hm => by have := (lf i hi).1; simp at hm; omega) (fun i hi => by simp at hi; omega) (fun i hi => by have := (lf i hi).1; have := bb1.size; omega) (Below.next bb2 al))
    have ko2 := (ko.below b2).below al
    have cz0 := ko2.here.cell 0 _ rfl
    have cz1 := ko2.here.cell 1 _ rfl
    have cz2 := ko2.here.cell 2 _ rfl
    have fz0 := Lib.frozen_of_heap ko2.here 0
    have fz1 := Lib.frozen_of_heap ko2.here 1
    have fz2 := Lib.frozen_of_heap ko2.here 2
    have kr0 := kr.here.cell 0 _ rfl
    have kr1 := kr.here.cell 1 _ rfl
    have kr2 := kr.here.cell 2 _ rfl
    clear ko ko2 of al kr km bb2 b2 hz0
    go_wp2
    refine bodyPost_ret (v := .agg #[.bool Q.1.1.1, .slice Af Q.1.1.2.length cf, .slice Bf Q.1.2.length df]) (by simp [results, Tryd.results38, go_sem, cz0, cz1, cz2]) rfl ?_
    rw [HV.out]
    refine HW.out _ ?_
    repeat (first | exact Chg.refl _ _ | refine Chg.setCell ?_ (by simp) _)
  · have hk' : okM m = false := by simpa using hk
    rw [hk']
    have HV := Lib.hid (show ratM m = zeroQ by unfold ratM; rw [if_neg hk])
    clear hk hk'
    have cz0 := ko.here.cell 0 _ rfl
    have cz1 := ko.here.cell 1 _ rfl
    have cz2 := ko.here.cell 2 _ rfl
    have fz0 := Lib.frozen_of_heap ko.here 0
    have fz1 := Lib.frozen_of_heap ko.here 1
    have fz2 := Lib.frozen_of_heap ko.here 2
    have HW := Lib.hid (newV_chg (φ := fun v => OwnQ v zeroQ) (v := .agg #[.bool false, .slice none 0 0, .slice none 0 0]) (T := [w.heap.size + 1]) (S := []) ⟨⟨_, _, rfl, World.ownsRow_nil _ _ _ _, World.ownsRow_nil _ _ _ _, fun g hg => by cases hg⟩, fun _ hg => absurd hg List.not_mem_nil, fun w' _ => ⟨_, _, rfl, World.ownsRow_nil _ _ _ _, World.ownsRow_nil _ _ _ _, fun g hg => by cases hg⟩⟩ (fun i hi => absurd hi List.not_mem_nil) (fun i hi => by simp at hi; omega) (fun i hi => absurd hi List.not_mem_nil) bb1)
    clear ko km
    go_wp2
    refine bodyPost_ret (v := .agg #[.bool false, .slice none 0 0, .slice none 0 0]) (by simp [results, Tryd.results38, go_sem, cz0, cz1, cz2]) rfl ?_
    rw [HV.out]
    refine HW.out _ ?_
    repeat (first | exact Chg.refl _ _ | refine Chg.setCell ?_ (by simp) _)
end Go.Proofs.YtcenmdiblbooeaaDoor

namespace Go.Proofs.YtcenmdiblbooeaaDoor
open Go.RowKit

theorem szML_mem {l : List MI} {x : MI} (h : x ∈ l) : szM x ≤ szML l := by
  induction l with
  | nil => cases h
  | cons y l ih =>
    have h0 := szML_nonneg l
    have hy := szM_nonneg y
    show _ ≤ szM y + szML l
    rcases List.mem_cons.1 h with rfl | h
    · omega
    · have := ih h; omega
theorem mkML_sz (l : List MI) : mkML l ≤ 2 * l.length + szML l := by
  induction l with
  | nil => exact Int.le_refl _
  | cons x l ih => show 2 + szS x.2 + mkML l ≤ 2 * ((l.length + 1 : Nat) : Int) + (szM x + szML l); unfold szM; omega
set_option maxHeartbeats 4000000 in
set_option maxRecDepth 100000 in
theorem lawMoneySum_walk (c : ByteArray) (va : Value) (l : List MI) (R0 : MI) (R1 : Bool) (w : World)
    (hS : ∀ (u : Value) (lo hi : Nat) (W : World), OwnML u l lo hi W → Calls Tryd.prog 43 #[.string c, u] W (PostMb R0 R1 W))
    (hI : ∀ (u : Value) (lo hi : Nat) (W : World), OwnML u l lo hi W → CurTab W → Calls Tryd.prog 45 #[.string c, u] W (PostMb R0 R1 W))
    (ht0 : CurTab w) (hlc : c.size ≤ 1048576) (hl : l.length + szML l ≤ 1048576) (hlR0 : szM R0 ≤ 1048576) (ra : RdML w va l) :
    Calls Tryd.prog 13 #[.string c, va] w fun e w' => e = .returned (.bool true) ∧ Below w.heap.size w w' := by
  have HS := Lib.hid hS
  have HI := Lib.hid hI
  clear hS hI
  have HT0 := Lib.hid ht0
  clear ht0
  have hsl := szML_nonneg l
  have hsR0 := szM_nonneg R0
  have hmR0 := mkM_range R0
  have hmk0 := mkML_nonneg l
  have hmk1 := mkML_sz l
  have hll : l.length ≤ 1048576 := by omega
  have HLX := Lib.hid (show ∀ x ∈ l, szM x ≤ 1048576 from fun x hx => by have := szML_mem hx; omega)
  have HLX' := Lib.hid (show ∀ x ∈ l, capM x from fun x hx => capM_of (HLX.out x hx))
  have RF : Hid (∀ W, Below w.heap.size w W → RdML W va l) := Lib.hid fun W hb => ra.below hb
  obtain ⟨Ava, cva, rfl, _⟩ := ra
  have bb0 : Below w.heap.size w w := Below.refl _ _
  go_enter Tryd.func13, Tryd.ntmps13
  go_wp2_with fail
  refine (szMoneyS_any _ l 1048576 _ (by omega) HLX'.out (by omega) (by omega) (RF.out _ bb0)).mono ?_
  rintro e w1 ⟨rfl, bb1⟩
  rw [leftI_of (by omega)]
  have hn : decide (((1048576 : Int) - (l.length + szML l) : Int) < 0) = false := decide_eq_false (by omega)
  go_upto_region 7 with fail
  go_cut [6, 7] (fun s t1 wx => NewLocV 32 (fun v => OwnM v R0) w1 s wx ∧ t1 = .bool R1)
  case first =>
    go_wp2_with fail
    refine (toMoneyS_any _ l _ hll HLX.out (RF.out _ bb1)).mono ?_
    rintro e wt ⟨ut, rfl, ot, bt⟩
    obtain ⟨gt_, et_, rfl, _⟩ := id ot
    go_wp2_with fail
    refine (HS.out _ _ _ _ ot).mono ?_
    rintro e wf ⟨uf, Sf, rfl, of, lf, bf⟩
    obtain ⟨Af, cf, rfl⟩ := ownM_form of.here
    go_wp2_with fail
    go_meet
    exact ⟨newLocV_last of lf bt.size (Below.next bt bf), rfl⟩
  rename World => w2
  obtain ⟨⟨gw0, csw0, Sw0, rfl, kw0, ow0, nw0, lw0, b2⟩, rfl⟩ := hcut
  obtain ⟨Aw0, cw0, ew0⟩ := ownM_form ow0.here
  injection ew0 with ew0
  subst ew0
  have bb2 := Below.next bb1 b2
  go_wp2_with fail
  refine (toMoneyS_any _ l _ hll HLX.out (RF.out _ bb2)).mono ?_
  rintro e w3 ⟨ux, rfl, ox, b3⟩
  have HX := Lib.hid ox
  obtain ⟨gx, ex, rfl, _⟩ := ox
  have bb3 := Below.next bb2 b3
  replace kw0 := kw0.below b3
  replace ow0 := ow0.below b3
  go_upto_region 9 with fail
  go_cut [9, 10] (fun s t1 wx => NewLocV 32 (fun v => OwnM v R0) w3 s wx ∧ t1 = .bool R1)
  case first =>
    go_wp2_with fail
    refine (HI.out _ _ _ _ HX.out (HT0.out.below bb3)).mono ?_
    rintro e wf ⟨uf, Sf, rfl, of, lf, bf⟩
    obtain ⟨Af, cf, rfl⟩ := ownM_form of.here
    go_wp2_with fail
    go_meet
    exact ⟨newLocV_last of lf (Nat.le_refl _) bf, rfl⟩
  rename World => w4
  obtain ⟨⟨gg0, csg0, Sg0, rfl, kg0, og0, ng0, lg0, b4⟩, rfl⟩ := hcut
  obtain ⟨Ag0, cg0, eg0⟩ := ownM_form og0.here
  injection eg0 with eg0
  subst eg0
  have bb4 := Below.next bb3 b4
  replace kw0 := kw0.below b4
  replace ow0 := ow0.below b4
  have kg0_c0 := kg0.here.cell 0 _ rfl
  have kg0_c1 := kg0.here.cell 1 _ rfl
  have kg0_c2 := kg0.here.cell 2 _ rfl
  have kw0_c0 := kw0.here.cell 0 _ rfl
  have kw0_c1 := kw0.here.cell 1 _ rfl
  have kw0_c2 := kw0.here.cell 2 _ rfl
  go_wp2_with fail
  clear kg0_c0 kg0_c1 kg0_c2 kw0_c0 kw0_c1 kw0_c2
  refine (eqM_cal _ _ R0 R0 _ (capM_of (by omega)) (OwnM.rd og0.here) (OwnM.rd ow0.here)).mono ?_
  rintro e w5 ⟨rfl, b5⟩
  rw [decide_refl]
  have bb5 := Below.next bb4 b5
  replace kw0 := kw0.below b5
  replace ow0 := ow0.below b5
  replace kg0 := kg0.below b5
  replace og0 := og0.below b5
  have b35 := Below.next b4 b5
  go_wp2_with fail
  refine (toMoneyS_any _ l _ hll HLX.out (RF.out _ bb5)).mono ?_
  rintro e wt ⟨ut, rfl, ot, bt⟩
  have b3t := Below.next b35 bt
  have HOT := Lib.hid ot
  obtain ⟨gt_, et_, rfl, _⟩ := ot
  go_wp2_with fail
  refine (eqMoneyS_any _ _ l l _ (by omega) HLX'.out (HX.out.below b3t).rd HOT.out.rd).mono ?_
  rintro e w6 ⟨rfl, b6⟩
  rw [decide_refl]
  have b36 := Below.next b3t b6
  have b56 := Below.next bt b6
  have bb6 := Below.next bb5 b56
  replace kw0 := kw0.below b56
  replace ow0 := ow0.below b56
  replace kg0 := kg0.below b56
  replace og0 := og0.below b56
  have HX6 := Lib.hid (HX.out.below b36)
  have hz23 := b3.size
  have hz2 := bb2.size
  have HZ23 := Lib.hid hz23
  have HZ12 := Lib.hid (show w.heap.size ≤ w3.heap.size from bb3.size)
  clear b35 b3t b36 b56 HOT bt b6 b5 b4 HX
  go_wp2_with fail
  refine (markMoneyS_any _ l w2.heap.size w3.heap.size 1 _ (by omega) (by omega) HX6.out).mono ?_
  rintro e w7 ⟨rfl, c7⟩
  have bb7 := below_chg bb6 c7 bb6.size (fun i hi => by have := (rangeM_mem hi).1; omega)
  replace kw0 := kw0.chg c7 (fun i hi hm => by have h1 := (lw0 i (by simp at hi; subst hi; exact List.mem_cons_self ..)).2; have h2 := (rangeM_mem hm).1; omega)
  replace ow0 := ow0.chg c7 (fun i hi hm => by have h1 := (lw0 i (List.mem_cons_of_mem _ hi)).2; have h2 := (rangeM_mem hm).1; omega)
  replace kg0 := kg0.chg c7 (fun i hi hm => by have h1 := (lg0 i (by simp at hi; subst hi; exact List.mem_cons_self ..)).1; have h2 := (rangeM_mem hm).2; omega)
  replace og0 := og0.chg c7 (fun i hi hm => by have h1 := (lg0 i (List.mem_cons_of_mem _ hi)).1; have h2 := (rangeM_mem hm).2; omega)
  have hk : decide (((1 + mkML l) : Int) < 0) = false := decide_eq_false (by omega)
  clear HX6 c7 hz23 b3
  have kg0_c0 := kg0.here.cell 0 _ rfl
  have kg0_c1 := kg0.here.cell 1 _ rfl
  have kg0_c2 := kg0.here.cell 2 _ rfl
  have kw0_c0 := kw0.here.cell 0 _ rfl
  have kw0_c1 := kw0.here.cell 1 _ rfl
  have kw0_c2 := kw0.here.cell 2 _ rfl
  go_wp2_with fail
  clear kg0_c0 kg0_c1 kg0_c2 kw0_c0 kw0_c1 kw0_c2
  refine (eqM_cal _ _ R0 R0 _ (capM_of (by omega)) (OwnM.rd og0.here) (OwnM.rd ow0.here)).mono ?_
  rintro e w8 ⟨rfl, b8⟩
  rw [decide_refl]
  have bb8 := Below.next bb7 b8
  replace kw0 := kw0.below b8
  replace ow0 := ow0.below b8
  replace kg0 := kg0.below b8
  replace og0 := og0.below b8
  clear hk
  have AP_w0_g0 := Lib.hid (Within.apart lw0 lg0 (.inl (by have := HZ23.out; omega)))
  have F_g0 := Lib.hid (Within.from (B := w.heap.size) lg0 HZ12.out)
  have N_g0 := Lib.hid ng0
  have kg0_c0 := kg0.here.cell 0 _ rfl
  have kg0_c1 := kg0.here.cell 1 _ rfl
  have kg0_c2 := kg0.here.cell 2 _ rfl
  go_wp2_with fail
  clear kg0_c0 kg0_c1 kg0_c2
  refine (markM_cal _ R0 _ (1) _ (by omega) (by omega) og0).mono ?_
  rintro e w9 ⟨rfl, mkg0, c9⟩
  clear og0
  have bb9 := below_chg bb8 c9 bb8.size (fun i hi => F_g0.out i (List.mem_cons_of_mem _ hi))
  replace kw0 := kw0.chg c9 (fun i hi hm => AP_w0_g0.out i (by simp at hi; subst hi; exact List.mem_cons_self ..) (List.mem_cons_of_mem _ hm))
  replace ow0 := ow0.chg c9 (fun i hi hm => AP_w0_g0.out i (List.mem_cons_of_mem _ hi) (List.mem_cons_of_mem _ hm))
  replace kg0 := kg0.chg c9 (fun i hi hm => by simp at hi; subst hi; exact N_g0.out hm)
  have kg0_c0 := kg0.here.cell 0 _ rfl
  have kg0_c1 := kg0.here.cell 1 _ rfl
  have kg0_c2 := kg0.here.cell 2 _ rfl
  go_wp2_with fail
  clear kg0_c0 kg0_c1 kg0_c2
  refine (heldM_cal _ R0 (1) _ (by omega) (by omega) mkg0.here).mono ?_
  rintro e w10 ⟨rfl, b10⟩
  have bb10 := Below.next bb9 b10
  replace kw0 := kw0.below b10
  replace ow0 := ow0.below b10
  replace kg0 := kg0.below b10
  replace mkg0 := mkg0.below b10
  have hq10 : decide ((1 : Int) + mkM R0 < 0) = false := decide_eq_false (by omega)
  go_upto_region 26 with fail
  go_cut [14, 15] (fun s t1 wx => NewLocV 32 (fun v => OwnM v R0) w10 s wx ∧ t1 = .bool R1)
  case first =>
    go_wp2_with fail
    refine (toMoneyS_any _ l _ hll HLX.out (RF.out _ bb10)).mono ?_
    rintro e wt ⟨ut, rfl, ot, bt⟩
    obtain ⟨gt_, et_, rfl, _⟩ := id ot
    go_wp2_with fail
    refine (HI.out _ _ _ _ ot (HT0.out.below (Below.next bb10 bt))).mono ?_
    rintro e wf ⟨uf, Sf, rfl, of, lf, bf⟩
    obtain ⟨Af, cf, rfl⟩ := ownM_form of.here
    go_wp2_with fail
    go_meet
    exact ⟨newLocV_last of lf bt.size (Below.next bt bf), rfl⟩
  rename World => w11
  obtain ⟨⟨gh0, csh0, Sh0, rfl, kh0, oh0, nh0, lh0, b11⟩, rfl⟩ := hcut
  obtain ⟨Ah0, ch0, eh0⟩ := ownM_form oh0.here
  injection eh0 with eh0
  subst eh0
  have bb11 := Below.next bb10 b11
  replace kw0 := kw0.below b11
  replace ow0 := ow0.below b11
  replace kg0 := kg0.below b11
  replace mkg0 := mkg0.below b11
  have kh0_c0 := kh0.here.cell 0 _ rfl
  have kh0_c1 := kh0.here.cell 1 _ rfl
  have kh0_c2 := kh0.here.cell 2 _ rfl
  have kw0_c0 := kw0.here.cell 0 _ rfl
  have kw0_c1 := kw0.here.cell 1 _ rfl
  have kw0_c2 := kw0.here.cell 2 _ rfl
  go_wp2_with fail
  clear kh0_c0 kh0_c1 kh0_c2 kw0_c0 kw0_c1 kw0_c2
  refine (eqM_cal _ _ R0 R0 _ (capM_of (by omega)) (OwnM.rd oh0.here) (OwnM.rd ow0.here)).mono ?_
  rintro e w12 ⟨rfl, b12⟩
  rw [decide_refl]
  have bb12 := Below.next bb11 b12
  replace kw0 := kw0.below b12
  replace ow0 := ow0.below b12
  replace kg0 := kg0.below b12
  replace mkg0 := mkg0.below b12
  replace kh0 := kh0.below b12
  replace oh0 := oh0.below b12
  have kg0_c0 := kg0.here.cell 0 _ rfl
  have kg0_c1 := kg0.here.cell 1 _ rfl
  have kg0_c2 := kg0.here.cell 2 _ rfl
  go_wp2_with fail
  clear kg0_c0 kg0_c1 kg0_c2
  refine (heldM_cal _ R0 (1) _ (by omega) (by omega) mkg0.here).mono ?_
  rintro e w13 ⟨rfl, b13⟩
  have bb13 := Below.next bb12 b13
  replace kw0 := kw0.below b13
  replace ow0 := ow0.below b13
  replace kg0 := kg0.below b13
  replace mkg0 := mkg0.below b13
  replace kh0 := kh0.below b13
  replace oh0 := oh0.below b13
  have hq13 : decide ((1 : Int) + mkM R0 < 0) = false := decide_eq_false (by omega)
  go_wp2
  go_ret
  exact ⟨rfl, bb13⟩
end Go.Proofs.YtcenmdiblbooeaaDoor

namespace Go.Proofs.YtcenmdiblbooeaaDoor
open Go.RowKit

theorem sumM_sz (cu : ByteArray) (l : List MI) : szM (sumM cu l).1 ≤ 1048576 := by unfold sumM; split; exact makeM_sz _ _; decide
set_option maxHeartbeats 1000000 in
set_option maxRecDepth 100000 in
theorem lawMoneySum (c : ByteArray) (va : Value) (l : List MI) (w : World) (ht : CurTab w) (hm : l.length ≤ 9223372036854775807) (hx : ∀ x ∈ l, capM x) (ra : RdML w va l) :
    Calls Tryd.prog 13 #[.string c, va] w fun e w' => e = .returned (.bool true) ∧ Below w.heap.size w w' := by
  have hsl := szML_nonneg l
  by_cases hlc : c.size ≤ 1048576
  · by_cases hl : l.length + szML l ≤ 1048576
    · have hlx : ∀ x ∈ l, x.2.2.length ≤ 1048576 := fun x hx => by have := szM_len (q := x) (by have := szML_mem hx; omega); exact this.2
      exact lawMoneySum_walk c va l (sumM c l).1 (sumM c l).2 w (fun u lo hi W h => specMoneySum_any c u l W (by omega) hlx h.ownR) (fun u lo hi W h t => implMoneySum_any c u l W (by omega) hlx h.ownR h.roomy t) ht hlc hl (sumM_sz c l) ra
    · have hcn : ¬ (1048576 < c.size) := by omega
      go_enter Tryd.func13, Tryd.ntmps13
      go_wp2_with fail
      refine (szMoneyS_any _ l 1048576 _ hm hx (by omega) (by omega) ra).mono ?_
      rintro e w1 ⟨rfl, bb1⟩
      rw [show leftI 1048576 (l.length + szML l) = -1 by unfold leftI; rw [if_pos (by omega)]]
      go_wp2
      go_ret
      exact ⟨rfl, bb1⟩
  · obtain ⟨A, k, rfl, _⟩ := ra
    go_enter Tryd.func13, Tryd.ntmps13
    go_wp2
    go_ret
    exact ⟨rfl, Below.refl _ _⟩
end Go.Proofs.YtcenmdiblbooeaaDoor

namespace Go.Proofs.YtcenmdiblbooeaaDoor
open Go.ChangeShapes Go.WideShapes Go.ChangeAt Go.RowKit Go.Joins

theorem cells_three {w : World} {base : Nat} {a : Addr} {cs : List Value} (h : w.cells? base a 3 = some cs) : ∃ c0 c1 c2, cs = [c0, c1, c2] ∧ w.cell? a = some c0 ∧ w.cell? ⟨a.block, a.off + 1, none⟩ = some c1 ∧ w.cell? ⟨a.block, a.off + 2, none⟩ = some c2 := by
  unfold World.cells? at h
  split at h
  · rw [show List.range 3 = [0, 1, 2] from rfl] at h
    simp only [List.mapM_cons, List.mapM_nil, Option.bind_eq_bind, Option.pure_def, Option.bind_eq_some_iff, Option.some.injEq] at h
    obtain ⟨c0, h0, r, ⟨c1, h1, r2, ⟨c2, h2, s, rfl, rfl⟩, rfl⟩, rfl⟩ := h
    exact ⟨c0, c1, c2, rfl, by simpa [Addr.add] using h0, by simpa [Addr.add] using h1, by simpa [Addr.add] using h2⟩
  · cases h
set_option maxHeartbeats 400000 in
set_option maxRecDepth 100000 in
theorem arg_moneyL {H : Type} {enc : TypeId × Value → H} {W : World} {base : Nat} {v : Value} {d : DataW H} {p : List MemPlace}
    (hv : Value.okWide Tryd.prog W .any base 53 v) (h : DataW.Trod enc Tryd.prog W 0 (fun _ => true) true 53 v d p) : ∃ l : List MI, RdML W v l ∧ l.length ≤ maxLen ∧ ∀ x ∈ l, x.1.size ≤ maxLen ∧ x.2.2.length ≤ maxLen := by
  obtain ⟨a0, len0, cap0, rfl⟩ := okWide_slice Tryd.underlying53 hv
  obtain ⟨fuel, hf⟩ := h
  rcases DataW.trod_slice Tryd.underlying53 hf with ⟨hcs, _⟩ | ⟨a, len, cap, elems, rest, n, _, hcs, _, _, hl, hm, hel, hcell, _, _⟩
  · have hcs' : Value.slice a0 len0 cap0 = .slice none 0 0 := by simpa [Value.cells] using hcs
    cases hcs'
    exact ⟨[], ⟨_, _, rfl, fun j x hj => by simp at hj⟩, by simp, fun x hx => by cases hx⟩
  · have hcs' : Value.slice a0 len0 cap0 = .slice (some a) len cap := by simpa [Value.cells] using hcs
    obtain ⟨rfl, rfl, rfl⟩ : a0 = some a ∧ len = len0 ∧ cap = cap0 := by cases hcs'; exact ⟨rfl, rfl, rfl⟩
    have each : ∀ i, i < len → ∃ x : MI, ∃ u, a.block < W.heap.size ∧ W.cell? (a.add (i * 3)) = some (.string x.1) ∧ W.cell? ⟨(a.add (i * 3)).block, (a.add (i * 3)).off + 1, none⟩ = some (.bool x.2.1) ∧ W.cell? ⟨(a.add (i * 3)).block, (a.add (i * 3)).off + 2, none⟩ = some u ∧ Row W 0 W.heap.size u (intsV x.2.2) ∧ (x.1.size ≤ maxLen ∧ x.2.2.length ≤ maxLen) := by
      intro i hi
      have hc := hcell i hi
      rw [Tryd.cellsMoney, List.getElem?_eq_getElem (by omega), Option.bind_eq_some_iff] at hc
      obtain ⟨cs, hcs, hd⟩ := hc
      obtain ⟨c0, c1, c2, rfl, h0, h1, h2⟩ := cells_three hcs
      obtain ⟨x, u, rfl, rfl, rfl, hr, hs, hxl⟩ := money_cells hd
      exact ⟨x, _, by have := cell_lt h0; rwa [block_add] at this, h0, h1, h2, hr, hs, hxl⟩
    obtain ⟨f, hF⟩ : ∃ f : Nat → MI, ∀ i, i < len → ∃ u, a.block < W.heap.size ∧ W.cell? (a.add (i * 3)) = some (.string (f i).1) ∧ W.cell? ⟨(a.add (i * 3)).block, (a.add (i * 3)).off + 1, none⟩ = some (.bool (f i).2.1) ∧ W.cell? ⟨(a.add (i * 3)).block, (a.add (i * 3)).off + 2, none⟩ = some u ∧ Row W 0 W.heap.size u (intsV (f i).2.2) ∧ ((f i).1.size ≤ maxLen ∧ (f i).2.2.length ≤ maxLen) := by
      refine ⟨fun i => if h : i < len then Classical.choose (each i h) else zeroM, fun i hi => ?_⟩
      simp only [dif_pos hi]
      exact Classical.choose_spec (each i hi)
    have hlen : ((List.range len).map f).length = len := by simp
    refine ⟨(List.range len).map f, ⟨some a, cap, by rw [hlen], fun j x hj => ?_⟩, by rw [hlen]; omega, fun x hx => ?_⟩
    · have hjl : j < len := by rw [← hlen]; exact (List.getElem?_eq_some_iff.1 hj).1
      have hx : x = f j := by
        rw [List.getElem?_map, List.getElem?_range hjl] at hj
        simpa using hj.symm
      subst hx
      obtain ⟨u, h1, h2, h3, h4, h5, _⟩ := hF j hjl
      exact ⟨a, u, rfl, h1, h2, h3, h4, h5⟩
    · obtain ⟨i, hi, rfl⟩ := List.mem_map.1 hx
      obtain ⟨_, _, _, _, _, _, h5⟩ := hF i (by simpa using hi)
      exact h5
end Go.Proofs.YtcenmdiblbooeaaDoor
