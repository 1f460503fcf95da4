/-
  What holds, takeMost and divide of impl.nat do: long division, a limb of the quotient at a time.
-/
import Derived.Test.YtkkdlgiilhngcaaDoorGuess
import Derived.Test.YtkkdlgiilhngcaaDoorErrIs
import Derived.Test.YtkkdlgiilhngcaaDoorNatTimes
namespace Go.Proofs.YtkkdlgiilhngcaaDoor
open Go.RowKit

/-- a number without zeros at its end -/
def Trim (xs : List Int) : Prop := DigN xs ∧ xs.getLastD 1 ≠ 0
theorem limbs_trim (n : Nat) : Trim (limbs n) := ⟨limbs_digN n, limbs_lastN n⟩
theorem Trim.drop {xs : List Int} (h : Trim xs) (k : Nat) : Trim (xs.drop k) := by
  refine ⟨h.1.drop k, ?_⟩
  rcases Nat.lt_or_ge k xs.length with hk | hk
  · have h2 := h.2
    rw [List.getLastD_eq_getLast?, List.getLast?_eq_getElem?, List.getElem?_drop]
    rw [List.getLastD_eq_getLast?, List.getLast?_eq_getElem?] at h2
    rw [List.length_drop, show k + (xs.length - k - 1) = xs.length - 1 by omega]
    exact h2
  · rw [List.drop_of_length_le hk]
    decide
theorem nval_shift {xs : List Int} (h : DigN xs) (k : Nat) : nval (xs.drop k) = nval xs / bp k := by
  have h1 := nval_split xs k
  have hp := bp_pos k
  have h2 := nval_nonneg _ (h.take k)
  have h3 : nval (xs.take k) < bp k := by
    have h4 := nval_lt _ (h.take k)
    have h5 := bp_mono (show (xs.take k).length ≤ k by rw [List.length_take]; omega)
    omega
  rw [h1, Int.add_mul_ediv_left _ _ (by omega), Int.ediv_eq_zero_of_lt h2 h3, Int.zero_add]
/-- whether the divisor, shifted, goes into the number -/
def holdsB (N Y : Int) (sh : Nat) : Bool := decide (Y * bp sh ≤ N)
theorem holds_iff (N Y : Int) (sh : Nat) : Y * bp sh ≤ N ↔ Y ≤ N / bp sh := (Int.le_ediv_iff_mul_le (bp_pos sh)).symm

theorem drop_row {w : World} {lo hi : Nat} {A : Option Addr} {n c : Nat} {xs : List Value} (h : Row w lo hi (.slice A n c) xs) (k : Nat) (_hk : k ≤ xs.length) : n = xs.length ∧ Row w lo hi (.slice (A.map (·.add k)) (n - k) (c - k)) (xs.drop k) := by
  obtain ⟨A', c', e, h⟩ := h
  injection e with e1 e2 e3
  subst e1 e2 e3
  refine ⟨rfl, A.map (·.add k), _, by rw [List.length_drop], fun j u hj => ?_⟩
  rw [List.getElem?_drop] at hj
  obtain ⟨a, rfl, h1, h2, h3⟩ := h _ _ hj
  refine ⟨_, rfl, by rw [block_add]; exact h1, by rw [block_add]; exact h2, ?_⟩
  rw [← h3]
  congr 1
  unfold Addr.add
  by_cases hk0 : k = 0 <;> by_cases hj0 : j = 0 <;> simp_all [Nat.add_assoc]

set_option maxHeartbeats 1000000 in
set_option maxRecDepth 100000 in
theorem holds_any (b : Nat) (v : Value) (cur : List Int) (vy : Value) (ys : List Int) (lo hi lo2 hi2 : Nat) (sh : Nat) (w : World) (hcl : cur.length ≤ 1048576) (hyl : ys.length ≤ 1048576) (hsh : sh ≤ 1048576)
    (hc : Trim cur) (hy : Trim ys) (hy0 : 0 < ys.length) (hv : w.cell? ⟨b, 0, none⟩ = some v) (hrc : Row w lo2 hi2 v (intsV cur)) (hcap : ∀ A n c, v = .slice A n c → n ≤ c) (hry : Row w lo hi vy (intsV ys)) :
    Calls Tryd.prog 107 #[.pointer (some ⟨b, 0, none⟩), vy, .int .i64 sh] w fun e w' => e = .returned (.bool (holdsB (nval cur) (nval ys) sh)) ∧ ∃ q, w.drewN q = w' := by
  have hcell := hrc
  obtain ⟨A, c, rfl, hA⟩ := hcell
  have hcp := hcap _ _ _ rfl
  rw [intsV_length] at hrc hv hcp
  clear hA hcap
  by_cases hs : sh < cur.length
  · obtain ⟨-, hd⟩ := drop_row hrc sh (by rw [intsV_length]; omega)
    rw [show (intsV cur).drop sh = intsV (cur.drop sh) by simp [intsV]] at hd
    obtain ⟨a, rfl⟩ : ∃ a, A = some a := by
      obtain ⟨A', c', e, hA⟩ := hrc
      obtain ⟨a, e2, _⟩ := hA 0 _ (intsV_at cur 0 (by omega))
      injection e with e1
      exact ⟨a, e1.trans e2⟩
    have HV := Lib.hid (show holdsB (nval cur) (nval ys) sh = decide (0 ≤ cmpI (nval (cur.drop sh)) (nval ys)) by
      unfold holdsB
      rw [nval_shift hc.1, Bool.eq_iff_iff, decide_eq_true_eq, decide_eq_true_eq, holds_iff]
      unfold cmpI
      constructor
      · intro h; rw [if_neg (by omega)]; split <;> omega
      · intro h
        by_cases hlt : nval cur / bp sh < nval ys
        · rw [if_pos hlt] at h; omega
        · omega)
    have hcm : cmpI (nval (cur.drop sh)) (nval ys) = -1 ∨ cmpI (nval (cur.drop sh)) (nval ys) = 0 ∨ cmpI (nval (cur.drop sh)) (nval ys) = 1 := by unfold cmpI; split; exact .inl rfl; split; exact .inr (.inr rfl); exact .inr (.inl rfl)
    go_enter Tryd.func107, Tryd.ntmps107
    go_wp2_with fail
    refine (compareLimbs_any _ vy (cur.drop sh) ys _ _ _ _ _ (by rw [List.length_drop]; omega) (by omega) (hc.drop sh) hy hd hry).mono ?_
    rintro e w1 ⟨rfl, q, rfl⟩
    have HV2 := HV.out
    generalize cmpI (nval (cur.drop sh)) (nval ys) = z at *
    go_wp2
    go_ret
    exact ⟨ret_bool HV.out.symm, q, rfl⟩
  · have HV := Lib.hid (show holdsB (nval cur) (nval ys) sh = false by
      unfold holdsB
      rw [decide_eq_false_iff_not]
      intro h
      have h1 := nval_lt cur hc.1
      have h2 := bp_mono (show cur.length ≤ sh by omega)
      have h3 := nval_ge ys hy.1 hy.2 hy0
      have h4 := Int.mul_le_mul_of_nonneg_right (show 1 ≤ nval ys by have := bp_pos (ys.length - 1); omega) (show 0 ≤ bp sh by have := bp_pos sh; omega)
      omega)
    go_enter Tryd.func107, Tryd.ntmps107
    go_wp2
    go_ret
    exact ⟨ret_bool HV.out.symm, 0, rfl⟩

theorem NatOn.reads {T : List Nat} {b : Nat} {xs : List Int} {w : World} (h : NatOn T b xs w) : ∃ v, w.cell? ⟨b, 0, none⟩ = some v ∧ Row w 0 w.heap.size v (intsV xs) ∧ (∀ A n c, v = .slice A n c → n ≤ c) := by
  obtain ⟨v, hb, ho, _, _⟩ := h
  refine ⟨v, by rw [Lib.cell_of_heap hb]; rfl, Row.of_own ho, ?_⟩
  rintro A n c rfl
  rcases ho.2 with ⟨h1, h2⟩ | ⟨g, cap, cur, e1, _, _, hn, _⟩
  · injection h1 with h3 h4 h5; omega
  · injection e1 with h3 h4 h5; omega
theorem NatOn.drewN {T : List Nat} {b : Nat} {xs : List Int} {w : World} (h : NatOn T b xs w) (q : Nat) : NatOn T b xs (w.drewN q) := h
theorem Kept.drewN {T : List Nat} {b : Nat} {xs : List Int} {w w' : World} (h : Kept T b xs w w') (q : Nat) : Kept T b xs w (w'.drewN q) := ⟨h.1, ⟨h.2.os, h.2.tape, h.2.output, h.2.size, h.2.block⟩⟩
theorem limbs_small (m n : Int) (h0 : 0 ≤ m) (h : m ≤ n) (k : Nat) (hk : (limbs n.toNat).length ≤ k) : (limbs m.toNat).length ≤ k := Nat.le_trans (limbs_mono h0 h) hk
/-- where the divisor goes in, the number is long enough -/
theorem holds_long {N : Int} {ys : List Int} {sh : Nat} (hN : 0 ≤ N) (hy : Trim ys) (hy0 : 0 < ys.length) (h : nval ys * bp sh ≤ N) : sh + ys.length ≤ (limbs N.toNat).length := by
  have h1 := nval_lt _ (limbs_digN N.toNat)
  rw [limbs_toNat N hN] at h1
  have h2 := nval_ge ys hy.1 hy.2 hy0
  have h3 := Int.mul_le_mul_of_nonneg_right h2 (show 0 ≤ bp sh by have := bp_pos sh; omega)
  rw [← bp_add] at h3
  rcases Nat.lt_or_ge (limbs N.toNat).length (sh + ys.length) with hl | hl
  · have := bp_mono (show (limbs N.toNat).length ≤ ys.length - 1 + sh by omega)
    omega
  · exact hl
/-- one round of takeMost -/
theorem most_next {N0 N t D g : Int} (hD : 0 < D) (h0 : N0 < 1000000000 * D) (hN : N = N0 - t * D) (hg : g * D ≤ N) (_ht : 0 ≤ t) : t + g < 1000000000 ∧ N - g * D = N0 - (t + g) * D ∧ 0 ≤ N - g * D := by
  have e : (t + g) * D = t * D + g * D := Int.add_mul _ _ _
  refine ⟨factor_lt hD (N := N0) (by omega) h0, by omega, by omega⟩
theorem most_done {N0 N t D : Int} (hD : 0 < D) (hN : N = N0 - t * D) (h0 : 0 ≤ N) (h1 : N < D) : t = N0 / D ∧ N = N0 % D := by
  have e : N0 = N + t * D := by omega
  rw [e, Int.add_mul_ediv_right _ _ (by omega), Int.ediv_eq_zero_of_lt h0 h1, Int.add_mul_emod_self_right, Int.emod_eq_of_lt h0 h1]
  exact ⟨by omega, rfl⟩

set_option maxHeartbeats 1000000 in
set_option maxRecDepth 100000 in
theorem takeMost_on (T S : List Nat) (b : Nat) (xs : List Int) (vy : Value) (ys : List Int) (lo hi sh : Nat) (w : World) (hxl : xs.length ≤ 1048576) (hyl : ys.length ≤ 1048576) (hsh : sh ≤ 1048576)
    (hx : Trim xs) (hy : Trim ys) (hy0 : 0 < ys.length) (hN : nval xs < 1000000000 * (nval ys * bp sh)) (hST : ∀ g ∈ S, g ∉ T) (hr : At S (fun w => Row w lo hi vy (intsV ys)) w) (h : NatOn T b xs w) :
    Calls Tryd.prog 99 #[.pointer (some ⟨b, 0, none⟩), vy, .int .i64 sh] w fun e w' =>
      e = .returned (.int .i64 (nval xs / (nval ys * bp sh))) ∧ Kept T b (limbs (nval xs % (nval ys * bp sh)).toNat) w w' := by
  have hx0 := nval_nonneg xs hx.1
  have hxe : xs = limbs (nval xs).toNat := by rw [← trim_limbs xs hx.1, trim_last xs hx.2]
  have hy1 := nval_ge ys hy.1 hy.2 hy0
  have hD : 0 < nval ys * bp sh := Int.mul_pos (by have := bp_pos (ys.length - 1); omega) (bp_pos sh)
  rw [hxe] at h hxl
  have HST := Lib.hid hST
  have HR0 := Lib.hid hr
  have HY := Lib.hid hy
  have HY0 := Lib.hid hy0
  have HN := Lib.hid hN
  have HD := Lib.hid hD
  have HX := Lib.hid hx0
  have HXL := Lib.hid hxl
  clear hx hy hN hST hr hxe hx0 hD hy1 hy0 hxl
  generalize nval xs = N0 at *
  go_enter Tryd.func99, Tryd.ntmps99
  go_wp2
  go_loopg [7] N0.toNat (fun n t wr => ∃ (N tt : Int), t = .int .i64 tt ∧ 0 ≤ tt ∧ tt ≤ 999999999 ∧ Hid (n = N.toNat ∧ 0 ≤ N ∧ N ≤ N0 ∧ N = N0 - tt * (nval ys * bp sh)) ∧ Kept T b (limbs N.toNat) w wr)
  case atStart => exact ⟨N0, 0, rfl, by omega, by omega, Lib.hid ⟨rfl, HX.out, Int.le_refl _, by omega⟩, h, Chg.refl _ _⟩
  case round =>
    obtain ⟨N, tt, rfl, ht0, ht1, HI, hat⟩ := hrel
    obtain ⟨v, hv, hrc, hcp⟩ := NatOn.reads hat.1
    have hrow := HR0.out.chg hat.2 HST.out
    have hlen := limbs_small N N0 HI.out.2.1 HI.out.2.2.1 _ HXL.out
    have hnv := limbs_toNat N HI.out.2.1
    by_cases hge : nval ys * bp sh ≤ N
    · have HB := Lib.hid (show holdsB (nval (limbs N.toNat)) (nval ys) sh = true by unfold holdsB; rw [hnv]; exact decide_eq_true hge)
      have hgl := guess_le (limbs_digN N.toNat) HY.out.1 HY0.out sh
      have hg0 := guess_nonneg (limbs_digN N.toNat) HY.out.1 sh
      rw [hnv] at hgl
      have HNB := Lib.hid (show nval (limbs N.toNat) < 1000000000 * (nval ys * bp sh) by rw [hnv]; have := HN.out; have := HI.out.2.2.1; omega)
      have HLL := Lib.hid (holds_long HI.out.2.1 HY.out HY0.out hge)
      have hmax : max 1 (guessN (limbs N.toNat) ys sh) * (nval ys * bp sh) ≤ N := by
        rcases Int.le_total 1 (guessN (limbs N.toNat) ys sh) with h1 | h1
        · rw [Int.max_eq_right h1]; exact hgl
        · rw [Int.max_eq_left h1]; omega
      have hm1 : 1 ≤ max 1 (guessN (limbs N.toNat) ys sh) := Int.le_max_left _ _
      have hnext := most_next HD.out HN.out HI.out.2.2.2 hmax ht0
      have hmle : max 1 (guessN (limbs N.toNat) ys sh) ≤ 999999999 := by have := hnext.1; omega
      have HM := Lib.hid hmax
      have HNX := Lib.hid hnext
      have htm : tt + max 1 (guessN (limbs N.toNat) ys sh) ≤ 999999999 := by have := hnext.1; omega
      clear hge hgl hmax hnext
      go_wp2_with fail
      refine (holds_any b v _ vy ys _ _ _ _ sh _ hlen hyl hsh (limbs_trim _) HY.out HY0.out hv hrc hcp hrow.here).mono ?_
      rintro e w1 ⟨rfl, q1, rfl⟩
      rw [HB.out]
      go_wp2_with fail
      refine (guess_any b v _ vy ys _ _ _ _ sh (wr.drewN q1) hlen hyl hsh (limbs_digN _) HY.out.1 HY0.out HY.out.2 HNB.out hv (hrc.drewN _) (hrow.here.drewN _)).mono ?_
      rintro e w1 ⟨rfl, q2, rfl⟩
      generalize guessN (limbs N.toNat) ys sh = gz at *
      go_wp2_with fail
      clear hg0
      generalize max 1 gz = g at *
      have hle : g * bp sh * nval ys ≤ nval (limbs N.toNat) := by
        rw [hnv, Int.mul_assoc, Int.mul_comm (bp sh)]
        exact HM.out
      refine (takeTimes_on T S b (limbs N.toNat) vy ys lo hi g sh (wr.drewN (q1 + q2)) hlen HLL.out (by omega) (by omega) (limbs_digN _) HY.out.1 hle HST.out (hrow.drewN _) hat.1).mono ?_
      rintro e w1 ⟨rfl, hat1⟩
      rw [hnv, Int.mul_assoc, Int.mul_comm (bp sh)] at hat1
      have HK := Lib.hid (show Kept T b (limbs (N - g * (nval ys * bp sh)).toNat) w w1 from (hat.drewN (q1 + q2)).trans hat1)
      have hpos : 1 * (nval ys * bp sh) ≤ g * (nval ys * bp sh) := Int.mul_le_mul_of_nonneg_right hm1 (by have := HD.out; omega)
      have HP := Lib.hid hpos
      clear hpos hle hat1 hlen hnv hv hrc hcp hrow
      go_wp2_with fail
      go_roundg (N - g * (nval ys * bp sh)).toNat
      case measure =>
        have h1 := HI.out.1
        have h2 := HP.out
        have h3 := HD.out
        have h4 := HNX.out.2.2
        omega
      case rel => exact ⟨N - g * (nval ys * bp sh), tt + g, rfl, by omega, htm, Lib.hid ⟨rfl, HNX.out.2.2, by have := HI.out.2.2.1; have := HP.out; have := HD.out; omega, HNX.out.2.1⟩, HK.out⟩
    · have HB := Lib.hid (show holdsB (nval (limbs N.toNat)) (nval ys) sh = false by unfold holdsB; rw [hnv]; exact decide_eq_false hge)
      have HE := Lib.hid (most_done HD.out HI.out.2.2.2 HI.out.2.1 (by omega))
      clear hge
      go_wp2_with fail
      refine (holds_any b v _ vy ys _ _ _ _ sh _ hlen hyl hsh (limbs_trim _) HY.out HY0.out hv hrc hcp hrow.here).mono ?_
      rintro e w1 ⟨rfl, q1, rfl⟩
      rw [HB.out]
      go_wp2_with fail
      go_ret
      exact ⟨ret_int HE.out.1, by rw [← HE.out.2]; exact hat.drewN q1⟩

theorem NatAt.chg {T : List Nat} {B b : Nat} {xs : List Int} {w w' : World} (h : NatAt B b xs w) (c : Chg T w w') (hT : ∀ g ∈ T, g < B) : NatAt B b xs w' := by
  obtain ⟨U, hU, hB⟩ := h.on
  exact (hU.at_.chg c (fun g hg hm => by have := hB g hg; have := hT g hm; omega)).here.natAt hB
theorem NatOn.belowB {T : List Nat} {B b : Nat} {xs : List Int} {w w' : World} (h : NatOn T b xs w) (hb : Below B w w') (hT : ∀ g ∈ T, g < B) : NatOn T b xs w' :=
  (h.at_.move (fun g hg => hb.block g (hT g hg)) hb.size).here
theorem chg_below {T : List Nat} {w w1 w2 : World} (c : Chg T w w1) (hb : Below w.heap.size w1 w2) : Chg T w w2 :=
  ⟨hb.os.trans c.os, hb.tape.trans c.tape, hb.output.trans c.output, Nat.le_trans c.size hb.size, fun i hi hn => (hb.block i hi).trans (c.block i hi hn)⟩

/-- a long division that has come down to place k -/
def DivideR (X Y : Int) (M k : Nat) (N : Int) (qs : List Int) : Prop :=
  0 ≤ N ∧ N ≤ X ∧ N < Y * bp k ∧ X = N + Y * nval qs ∧ DigN qs ∧ qs.length ≤ M ∧ ∀ j, j < k → qs.getD j 0 = 0
theorem DivideR.start {xs ys : List Int} (hx : Trim xs) (hy : Trim ys) (hy0 : 0 < ys.length) (M : Nat) : DivideR (nval xs) (nval ys) M ((xs.length : Int) - (ys.length : Int) + 1).toNat (nval xs) [] := by
  have h1 := nval_lt xs hx.1
  have h2 := nval_ge ys hy.1 hy.2 hy0
  refine ⟨nval_nonneg xs hx.1, Int.le_refl _, ?_, (by show _ = _ + nval ys * 0; rw [Int.mul_zero, Int.add_zero]), (fun d hd => by cases hd), Nat.zero_le _, fun j _ => by simp⟩
  generalize hk : ((xs.length : Int) - (ys.length : Int) + 1).toNat = k
  have h3 := Int.mul_le_mul_of_nonneg_right h2 (show 0 ≤ bp k by have := bp_pos k; omega)
  rw [← bp_add] at h3
  have h4 := bp_mono (show xs.length ≤ ys.length - 1 + k by omega)
  omega
theorem getD_set_other (xs : List Int) (p j : Nat) (d : Int) (h : j ≠ p) : (xs.set p d).getD j 0 = xs.getD j 0 := by
  rw [List.getD_eq_getElem?_getD, List.getElem?_set_ne (Ne.symm h), List.getD_eq_getElem?_getD]
theorem getD_pad (xs : List Int) (n j : Nat) : (padL xs n).getD j 0 = xs.getD j 0 := by
  unfold padL
  rw [List.getD_eq_getElem?_getD, List.getD_eq_getElem?_getD]
  rcases Nat.lt_or_ge j xs.length with h | h
  · rw [List.getElem?_append_left h]
  · rw [List.getElem?_append_right h, List.getElem?_replicate, List.getElem?_eq_none h]
    split <;> rfl
theorem DivideR.next {X Y : Int} {M k : Nat} {N : Int} {qs : List Int} (h : DivideR X Y M (k + 1) N qs) (hY : 0 < Y) (hM : k < M) :
    0 ≤ N / (Y * bp k) ∧ N / (Y * bp k) ≤ 999999999 ∧ DivideR X Y M k (N % (Y * bp k)) (addAtL qs k (N / (Y * bp k))) := by
  obtain ⟨h0, hX, h1, h2, h3, h4, h5⟩ := h
  have hD : 0 < Y * bp k := Int.mul_pos hY (bp_pos k)
  have hq0 : 0 ≤ N / (Y * bp k) := Int.ediv_nonneg h0 (by omega)
  have hr0 := Int.emod_nonneg N (show Y * bp k ≠ 0 by omega)
  have hr1 := Int.emod_lt_of_pos N hD
  have he := Int.emod_add_mul_ediv N (Y * bp k)
  rw [bp_succ, Int.mul_left_comm] at h1
  have hq1 : N / (Y * bp k) < 1000000000 := Int.ediv_lt_of_lt_mul hD h1
  have hg := h5 k (Nat.lt_succ_self _)
  have hC : addAtC qs k (N / (Y * bp k)) = 0 := by unfold addAtC; rw [hg]; omega
  have hv := addAt_val qs k (N / (Y * bp k))
  rw [hC, Int.zero_mul, Int.add_zero] at hv
  refine ⟨hq0, by omega, hr0, ?_, hr1, ?_, addAt_dig h3 _ _, by rw [addAt_length]; omega, ?_⟩
  · have := Int.mul_nonneg (show 0 ≤ Y * bp k by omega) hq0
    omega
  · rw [hv, Int.mul_add, h2]
    have e : Y * (N / (Y * bp k) * bp k) = Y * bp k * (N / (Y * bp k)) := by rw [Int.mul_comm (N / (Y * bp k)), Int.mul_assoc]
    rw [e]
    omega
  · intro j hj
    unfold addAtL
    rw [getD_set_other _ _ _ _ (by omega), getD_pad]
    exact h5 j (by omega)
theorem DivideR.done {X Y : Int} {M : Nat} {N : Int} {qs : List Int} (h : DivideR X Y M 0 N qs) (hY : 0 < Y) : N = X % Y ∧ trimL qs = limbs (X / Y).toNat := by
  obtain ⟨h0, hX, h1, h2, h3, _, _⟩ := h
  have h1' : N < Y := by rw [show bp 0 = 1 from rfl, Int.mul_one] at h1; exact h1
  rw [trim_limbs qs h3, h2, Int.add_mul_ediv_left _ _ (by omega), Int.ediv_eq_zero_of_lt h0 h1', Int.zero_add, Int.add_mul_emod_self_left, Int.emod_eq_of_lt h0 h1']
  exact ⟨rfl, rfl⟩

/-- what divide leaves: the quotient, new; the rest in the number itself -/
def DividePost (T : List Nat) (b : Nat) (X Y : Int) (w : World) (e : Ending) (w' : World) : Prop :=
  ∃ v, e = .returned (.tuple #[v, .nilIface]) ∧ w'.ownsRow w.heap.size 3 1 v (limbs (X / Y).toNat).length (intsV (limbs (X / Y).toNat)) ∧ Kept T b (limbs (X % Y).toNat) w w'

set_option maxHeartbeats 1000000 in
set_option maxRecDepth 100000 in
theorem divide_on (T S : List Nat) (b : Nat) (xs : List Int) (vy : Value) (ys : List Int) (lo hi : Nat) (w : World) (hxl : xs.length ≤ 300000) (hyl : ys.length ≤ 300000)
    (hx : Trim xs) (hy : Trim ys) (hy0 : 0 < ys.length) (hST : ∀ g ∈ S, g ∉ T) (hr : At S (fun w => Row w lo hi vy (intsV ys)) w) (h : NatOn T b xs w) :
    Calls Tryd.prog 82 #[.pointer (some ⟨b, 0, none⟩), vy] w (DividePost T b (nval xs) (nval ys) w) := by
  have hxe : xs = limbs (nval xs).toNat := by rw [← trim_limbs xs hx.1, trim_last xs hx.2]
  have hY : 0 < nval ys := by have := nval_ge ys hy.1 hy.2 hy0; have := bp_pos (ys.length - 1); omega
  have hz : ((ys.length : Int) == 0) = false := by rw [beq_eq_false_iff_ne]; omega
  have HST := Lib.hid hST
  have HR0 := Lib.hid hr
  have HY := Lib.hid hy
  have HY0 := Lib.hid hy0
  have HYP := Lib.hid hY
  have hTlt : ∀ g ∈ T, g < w.heap.size := h.at_.lt
  have HTL := Lib.hid hTlt
  have hbl := h.lt
  obtain ⟨v0, hv0, hrc0, hcp0⟩ := NatOn.reads h
  obtain ⟨A0, c0, rfl, _⟩ := hrc0
  rw [intsV_length] at hv0
  have hvy := hr.here
  obtain ⟨A, c, rfl, _⟩ := hvy
  rw [intsV_length] at HR0 ⊢
  have HS := Lib.hid (DivideR.start hx hy hy0 (max xs.length 1))
  have HX0 := Lib.hid (show NatOn T b (limbs (nval xs).toNat) w by rw [← hxe]; exact h)
  have HXL := Lib.hid (show (limbs (nval xs).toNat).length ≤ 300000 by rw [← hxe]; exact hxl)
  clear hx hy hST hr hxe h hcp0 hY hTlt hy0
  go_enter Tryd.func82, Tryd.ntmps82
  have hva : ∀ o, (w.alloc o).cell? ⟨b, 0, none⟩ = some (.slice A0 xs.length c0) := fun o => (World.cell?_alloc_past _ _ _ hbl).trans hv0
  go_wp2
  go_loopw [7] (fun s wr => ∃ (z N : Int) (qs : List Int), s = .int .i64 z ∧ -300000 ≤ z ∧ z + 1 ≤ max xs.length 1 ∧ Hid (DivideR (nval xs) (nval ys) (max xs.length 1) (z + 1).toNat N qs) ∧ NatOn T b (limbs N.toNat) wr ∧ NatAt w.heap.size w.heap.size qs wr ∧ Chg T w wr) (fun s _ => (intOf s + 1).toNat)
  case atStart =>
    refine ⟨_, _, [], rfl, by omega, by have := HY0.out; omega, HS, ?_, NatAt.new (Nat.le_refl _) (World.ownsRow_nil _ _ _ _), Chg.of_below ((Below.refl _ _).alloc (Nat.le_refl _) _)⟩
    exact (HX0.out.at_.below ((Below.refl _ _).alloc (Nat.le_refl _) _)).here
  case round =>
    obtain ⟨z, N, qs, rfl, hz0, hz1, HD, hat, hq, hc⟩ := hrel
    by_cases hge : 0 ≤ z
    · obtain ⟨k, rfl⟩ := Int.eq_ofNat_of_zero_le hge
      have hk1 : ((k : Int) + 1).toNat = k + 1 := by omega
      rw [hk1] at HD
      obtain ⟨hq0, hq1, hnext⟩ := HD.out.next HYP.out (by omega)
      have HN := Lib.hid hnext
      have hN0 := HD.out.1
      have hnv := limbs_toNat N hN0
      have HNB := Lib.hid (show nval (limbs N.toNat) < 1000000000 * (nval ys * bp k) by
        rw [hnv]
        have := HD.out.2.2.1
        rw [bp_succ, Int.mul_left_comm] at this
        exact this)
      have hlen := limbs_small N (nval xs) hN0 HD.out.2.1 _ HXL.out
      have hqsl := HD.out.2.2.2.2.2.1
      have HDQ := Lib.hid HD.out.2.2.2.2.1
      have hrow := HR0.out.chg hc HST.out
      clear hge hnext hk1
      go_wp2_with fail
      refine (takeMost_on T S b (limbs N.toNat) _ ys lo hi k wr (by omega) (by omega) (by omega) (limbs_trim _) HY.out HY0.out HNB.out HST.out hrow hat).mono ?_
      rintro e w1 ⟨rfl, hat1⟩
      rw [hnv] at hat1 ⊢
      have hqa := hq.chg hat1.2 HTL.out
      have hc1 := hc.trans hat1.2
      have hon1 := hat1.1
      have HKI := Lib.hid (show (((k : Nat) : Int) - 1 + 1).toNat = k by omega)
      generalize N / (nval ys * bp k) = q at *
      generalize N % (nval ys * bp k) = N' at *
      clear hat1 hat hq hc hrow hnv hN0
      go_wp2_with fail
      refine (addAt_any w.heap.size w.heap.size qs k q _ (by omega) (by omega) hq0 (by omega) HDQ.out hqa).mono ?_
      rintro e w2 ⟨rfl, hq2, hb2⟩
      have hon2 := NatOn.belowB hon1 hb2 HTL.out
      have hc2 := chg_below hc1 hb2
      clear hqa hon1 hc1
      go_wp2
      go_roundw
      case rel => exact ⟨(k : Int) - 1, N', _, rfl, by omega, by omega, by rw [HKI.out]; exact HN, hon2, hq2, hc2⟩
      case measure => simp [intOf]
    · have HE := Lib.hid (show (z + 1).toNat = 0 by omega)
      rw [HE.out] at HD
      have HF := Lib.hid (HD.out.done HYP.out)
      have hqsl := HD.out.2.2.2.2.2.1
      go_wp2_with fail
      refine (natTrim_any w.heap.size w.heap.size qs _ (by omega) hq).mono ?_
      rintro e w1 ⟨rfl, hq1, hb1⟩
      have hon1 := NatOn.belowB hat hb1 HTL.out
      have hc1 := chg_below hc hb1
      rw [HF.out.2] at hq1
      obtain ⟨_, v, hvb, hown, _⟩ := hq1
      have hcv : w1.cell? ⟨w.heap.size, 0, none⟩ = some v := by rw [Lib.cell_of_heap hvb]; rfl
      have HO := Lib.hid hown
      have HB := Lib.hid hvb
      clear hvb hown
      go_wp2
      go_ret2
      exact ⟨v, rfl, HO.out, by rw [← HF.out.1]; exact hon1, hc1⟩
set_option maxHeartbeats 400000 in
set_option maxRecDepth 100000 in
theorem divide_zero (b : Nat) (A : Option Addr) (c : Nat) (x : Value) (w : World) (hs : w.cell? ⟨0, 0, none⟩ = some x) :
    Calls Tryd.prog 82 #[.pointer (some ⟨b, 0, none⟩), .slice A 0 c] w fun e w' => e = .returned (.tuple #[.slice none 0 0, x]) ∧ ∃ q, w.drewN q = w' := by
  go_enter Tryd.func82, Tryd.ntmps82
  go_wp2
  go_quiet (fail)
  go_wp2
  go_ret2
  exact ⟨rfl, _, rfl⟩
/-- the limbs' row with the blocks on which it leans -/
theorem NatOn.rowAt {T : List Nat} {b : Nat} {xs : List Int} {w : World} (h : NatOn T b xs w) : ∃ v, w.cell? ⟨b, 0, none⟩ = some v ∧ At T (fun w' => Row w' 0 w.heap.size v (intsV xs)) w := by
  have hat := h.at_
  obtain ⟨v, hb, ho, _, rfl⟩ := h
  refine ⟨v, by rw [Lib.cell_of_heap hb]; rfl, Row.of_own ho, hat.lt, fun w' hk => ?_⟩
  have hr := Row.of_own ho
  obtain ⟨_, ⟨rfl, _⟩ | ⟨g, cap, cur, rfl, _⟩⟩ := ho
  · obtain ⟨A, c, e, h⟩ := hr
    injection e with e1 e2 e3
    subst e1
    refine ⟨none, c, by rw [← e2, ← e3], fun j u hj => ?_⟩
    obtain ⟨a, e4, _⟩ := h j u hj
    cases e4
  · obtain ⟨A, c, e, h⟩ := hr
    injection e with e1 e2 e3
    subst e1
    refine ⟨some ⟨g, 0, none⟩, c, by rw [← e2, ← e3], fun j u hj => ?_⟩
    obtain ⟨a, e4, k1, k2, k3⟩ := h j u hj
    cases e4
    refine ⟨_, rfl, k1, k2, ?_⟩
    rw [← k3]
    have hg := hk g (by simp [Value.ownBlock])
    unfold World.cell?
    rw [block_add, hg]
end Go.Proofs.YtkkdlgiilhngcaaDoor
