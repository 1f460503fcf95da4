/-
  The laws of NatCmp, NatOf and TextNat, walked over the contracts of both packages.
-/
import Derived.Test.YtlbllcjkefndjaaNatLaws
namespace Go.Proofs.Ytlbllcjkefndjaa
open Go.RowKit

theorem limbs_len (k : Nat) : ∀ n : Nat, n < 1000000000 ^ k → (limbs n).length ≤ k := by
  induction k with
  | zero => intro n h; rw [show n = 0 by simp at h; exact h, limbs_none]; simp
  | succ k ih =>
    intro n h
    by_cases h0 : n = 0
    · rw [h0, limbs_none]; simp
    · rw [limbs_pos n h0, List.length_cons]
      have := ih (n / 1000000000) (by rw [Nat.pow_succ] at h; exact Nat.div_lt_of_lt_mul (by rw [Nat.mul_comm]; exact h))
      omega
theorem limbs_of_len (n : Int) (h : n ≤ 9223372036854775807) : (limbs n.toNat).length ≤ 3 := limbs_len 3 _ (by
  have : n.toNat ≤ 9223372036854775807 := by omega
  exact Nat.lt_of_le_of_lt this (by decide))
theorem trimL_le (xs : List Int) : (trimL xs).length ≤ xs.length := by
  induction xs with
  | nil => simp [trimL]
  | cons d r ih => unfold trimL; split <;> simp <;> omega
/-- what TextNat answers -/
def tnR (s : ByteArray) : List Int := if decOk s = true then limbs (valL s.data.toList).toNat else []
theorem tnR_len (s : ByteArray) : (tnR s).length ≤ 450 := by
  unfold tnR
  split
  · rename_i h
    have hd : digitsB s = true := by
      by_cases hd : digitsB s = true
      · exact hd
      · rw [decOk_dig s (by simpa using hd)] at h; exact absurd h (by decide)
    have h4 : s.size ≤ 450 := by
      by_cases h4 : s.size ≤ 450
      · exact h4
      · rw [decOk_long s h4] at h; exact absurd h (by decide)
    have hv := groups_val s.data.toList ((digitsB_iff s).1 hd).1 s.size (Nat.le_refl _)
    rw [take_full] at hv
    rw [← hv.1, ← trim_limbs _ hv.2.1]
    exact Nat.le_trans (trimL_le _) (Nat.le_trans hv.2.2 h4)
  · simp
/-- how TextNat ends: a new row, and whether the text is a number -/
def TNNew (s : ByteArray) (w : World) (e : Ending) (w' : World) : Prop :=
  ∃ v, e = .returned (.tuple #[v, .bool (decOk s)]) ∧ w'.ownsRow w.heap.size 3 1 v (tnR s).length (intsV (tnR s)) ∧ Below w.heap.size w w'
theorem TNPost.new {s : ByteArray} {w w' : World} {e : Ending} (h : TNPost s w e w') : TNNew s w e w' := by
  obtain ⟨hb, ⟨ho, v, rfl, hv⟩ | ⟨ho, rfl⟩⟩ := h
  · refine ⟨v, by rw [ho], ?_, hb⟩
    rw [show tnR s = limbs (valL s.data.toList).toNat by unfold tnR; rw [if_pos ho]]
    exact hv
  · refine ⟨_, by rw [ho], ?_, hb⟩
    rw [show tnR s = [] by unfold tnR; rw [ho]; rfl]
    exact nil_own

set_option maxHeartbeats 800000 in
theorem lawNatCmp_small (implNatCmp_any : ∀ (va vb : Value) (a b : List Int) (la ha lb hb : Nat) (w : World), a.length ≤ 1048576 → b.length ≤ 1048576 → ha ≤ w.heap.size → hb ≤ w.heap.size →
    Row w la ha va (intsV a) → Row w lb hb vb (intsV b) → Calls Try.prog 21 #[va, vb] w fun e w' => e = .returned (.int .i64 (cmpN a b)) ∧ Below w.heap.size w w')
    (va vb : Value) (a b : List Int) (w : World) (hla : a.length ≤ 1048576) (hlb : b.length ≤ 1048576) (hra : Row w 0 w.heap.size va (intsV a)) (hrb : Row w 0 w.heap.size vb (intsV b)) :
    Calls Try.prog 6 #[va, vb] w fun e w' => e = .returned (.bool true) ∧ Below w.heap.size w w' := by
  have ra := hra
  have rb := hrb
  obtain ⟨A, ca, rfl, _⟩ := hra
  obtain ⟨B, cb, rfl, _⟩ := hrb
  rw [intsV_length] at ra rb ⊢
  rw [intsV_length]
  go_enter Try.func6, Try.ntmps6
  go_wp2_with fail
  refine (toIntS_any _ a _ _ _ (Nat.le_refl _) hla ra).mono ?_
  rintro e w1 ⟨v1, rfl, o1, b1⟩
  go_wp2_with fail
  refine (toIntS_any _ b _ _ _ b1.size hlb (rb.below b1 (Nat.le_refl _))).mono ?_
  rintro e w2 ⟨v2, rfl, o2, b2⟩
  have bb2 := Below.next b1 b2
  go_wp2_with fail
  refine (specNatCmp_any v1 v2 a b _ _ _ _ _ hla hlb (Row.of_own (own_below o1 b2)) (Row.of_own o2)).mono ?_
  rintro e w3 ⟨rfl, q3, rfl⟩
  have bb3 := below_drewN bb2 q3
  go_wp2_with fail
  refine (toIntS_any _ a _ _ _ bb3.size hla (ra.below bb3 (Nat.le_refl _))).mono ?_
  rintro e w4 ⟨x0, rfl, ox, b4⟩
  have bb4 := Below.next bb3 b4
  go_wp2_with fail
  refine (toIntS_any _ b _ _ _ bb4.size hlb (rb.below bb4 (Nat.le_refl _))).mono ?_
  rintro e w5 ⟨x1, rfl, oy, b5⟩
  have bb5 := Below.next bb4 b5
  have ox5 := own_below ox b5
  go_wp2_with fail
  refine (implNatCmp_any x0 x1 a b _ _ _ _ _ hla hlb (Nat.le_refl _) (Nat.le_refl _) (Row.of_own ox5) (Row.of_own oy)).mono ?_
  rintro e w6 ⟨rfl, b6⟩
  have bb6 := Below.next bb5 b6
  have ox6 := own_below ox5 b6
  have oy6 := own_below oy b6
  go_wp2_with fail
  refine (toIntS_any _ a _ _ _ bb6.size hla (ra.below bb6 (Nat.le_refl _))).mono ?_
  rintro e w8 ⟨v8, rfl, o8, b8⟩
  have bb8 := Below.next bb6 b8
  have ox8 := own_below ox6 b8
  have oy8 := own_below oy6 b8
  go_wp2_with fail
  refine (eqIntS_any x0 v8 a a _ _ _ _ _ (by omega) (Row.of_own ox8) (Row.of_own o8)).mono ?_
  rintro e w9 ⟨rfl, q9, rfl⟩
  rw [decide_refl]
  have bb9 := below_drewN bb8 q9
  go_wp2_with fail
  refine (toIntS_any _ b _ _ _ bb9.size hlb (rb.below bb9 (Nat.le_refl _))).mono ?_
  rintro e w10 ⟨v10, rfl, o10, b10⟩
  have bb10 := Below.next bb9 b10
  have oy10 := own_below (own_drew oy8 q9) b10
  go_wp2_with fail
  refine (eqIntS_any x1 v10 b b _ _ _ _ _ (by omega) (Row.of_own oy10) (Row.of_own o10)).mono ?_
  rintro e w11 ⟨rfl, q11, rfl⟩
  rw [decide_refl]
  go_wp2
  go_ret
  exact ⟨rfl, below_drewN bb10 q11⟩

set_option maxHeartbeats 800000 in
theorem lawNatOf_small (implNatOf_any : ∀ (n : Int) (w : World), n ≤ 9223372036854775807 → Calls Try.prog 15 #[.int .i64 n] w (NewInts (limbs n.toNat) w))
    (n : Int) (w : World) (h1 : n ≤ 9223372036854775807) :
    Calls Try.prog 4 #[.int .i64 n] w fun e w' => e = .returned (.bool true) ∧ Below w.heap.size w w' := by
  have hlR : (limbs n.toNat).length ≤ 450 := Nat.le_trans (limbs_of_len n h1) (by decide)
  have HS := Lib.hid (fun W : World => specNatOf_any n W h1)
  have HI := Lib.hid (fun W : World => implNatOf_any n W h1)
  clear implNatOf_any
  generalize limbs n.toNat = R at *
  clear h1
  go_enter Try.func4, Try.ntmps4
  go_wp2_with fail
  refine (HS.out _).mono ?_
  rintro e w1 ⟨v0, rfl, o0, b1⟩
  have l0 := Lies.of o0
  go_wp2_with fail
  refine (HI.out _).mono ?_
  rintro e w2 ⟨g0, rfl, og, b2⟩
  have bb2 := Below.next b1 b2
  have lg := Lies.of og
  have o02 := own_below o0 b2
  go_wp2_with fail
  refine (eqIntS_any g0 v0 R R _ _ _ _ _ (by omega) (Row.of_own og) (Row.of_own o02)).mono ?_
  rintro e w3 ⟨rfl, q3, rfl⟩
  rw [decide_refl]
  have bb3 := below_drewN bb2 q3
  have AG0 := Lib.hid (lg.apart l0 (.inr (Nat.le_refl _)))
  have LG := Lib.hid lg
  clear lg l0
  go_wp2_with fail
  refine (markIntS_any g0 _ _ _ 1 _ (by omega) (by omega) (own_drew og q3)).mono ?_
  rintro e w4 ⟨rfl, og4, g4⟩
  have bb4 := bb3.grown g4 bb3.size (fun k hk => by have := LG.out k hk; have := b1.size; omega)
  have o04 := own_apart (own_drew o02 q3) g4 (fun x y hx hy => Ne.symm (AG0.out y x hy hx))
  go_wp2_with fail
  refine (heldIntS_any g0 R.length _ _ 1 _ (by omega) (by omega) (Row.of_own og4)).mono ?_
  rintro e w' ⟨rfl, rfl⟩
  go_wp2_with fail
  refine (HI.out _).mono ?_
  rintro e w5 ⟨h0, rfl, oh, b5⟩
  have bb5 := Below.next bb4 b5
  have o05 := own_below o04 b5
  have og5 := own_below og4 b5
  go_wp2_with fail
  refine (eqIntS_any h0 v0 R R _ _ _ _ _ (by omega) (Row.of_own oh) (Row.of_own o05)).mono ?_
  rintro e w6 ⟨rfl, q6, rfl⟩
  rw [decide_refl]
  go_wp2_with fail
  refine (heldIntS_any g0 R.length _ _ 1 _ (by omega) (by omega) (Row.of_own (own_drew og5 q6))).mono ?_
  rintro e w' ⟨rfl, rfl⟩
  go_wp2
  go_ret
  exact ⟨rfl, below_drewN bb5 q6⟩

end Go.Proofs.Ytlbllcjkefndjaa
