/-
  The laws of chapter 3, walked over the contracts of both packages.
-/
import Derived.Test.YtccajcddijhmcaaNatOps
import Derived.Test.YtccajcddijhmcaaTextNat
namespace Go.Proofs.Ytccajcddijhmcaa
open Go.RowKit

theorem natRes_len (n : Int) : (natRes n).length ≤ 50 := by
  unfold natRes capL; split
  · simp
  · omega
theorem addN_len (a b : List Int) : (addN a b).length ≤ 50 := by unfold addN; split; exact natRes_len _; simp
theorem subN_len (a b : List Int) : (subN a b).length ≤ 50 := by unfold subN; split; exact natRes_len _; simp
theorem mulN_len (a b : List Int) : (mulN a b).length ≤ 50 := by unfold mulN; split; exact natRes_len _; simp


set_option maxHeartbeats 400000 in
set_option maxRecDepth 100000 in
theorem lawNatInt_small (v : Value) (a : List Int) (w : World) (hl : a.length ≤ 1048576) (hr : Row w 0 w.heap.size v (intsV a)) :
    Calls Try.prog 3 #[v] w fun e w' => e = .returned (.bool true) ∧ Below w.heap.size w w' := by
  have hr0 := hr
  obtain ⟨A, c, rfl, _⟩ := hr
  rw [intsV_length] at hr0 ⊢
  go_enter Try.func3, Try.ntmps3
  go_wp2_with fail
  refine (toIntS_any _ a _ _ _ (Nat.le_refl _) hl hr0).mono ?_
  rintro e w1 ⟨v1, rfl, o1, b1⟩
  go_wp2_with fail
  refine (specNatInt_any v1 a _ _ _ hl (Nat.le_refl _) (Row.of_own o1)).mono ?_
  rintro e w2 ⟨rfl, b2⟩
  have bb2 : Below w.heap.size w w2 := Below.next b1 b2
  have r2 := hr0.below bb2 (Nat.le_refl _)
  have z2 := bb2.size
  go_wp2_with fail
  refine (toIntS_any _ a _ _ _ z2 hl r2).mono ?_
  rintro e w3 ⟨v3, rfl, o3, b3⟩
  go_wp2_with fail
  refine (implNatInt_any v3 a _ _ _ hl (Nat.le_refl _) (Row.of_own o3)).mono ?_
  rintro e w4 ⟨rfl, b4⟩
  have bb4 := Below.next (Below.next bb2 b3) b4
  have r4 := hr0.below bb4 (Nat.le_refl _)
  have z4 := bb4.size
  have o34 := own_below o3 b4
  go_wp2_with fail
  refine (toIntS_any _ a _ _ _ z4 hl r4).mono ?_
  rintro e w5 ⟨v5, rfl, o5, b5⟩
  go_wp2_with fail
  refine (eqIntS_any v3 v5 a a _ _ _ _ _ (by omega) (Row.of_own (own_below o34 b5)) (Row.of_own o5)).mono ?_
  rintro e w6 ⟨rfl, q6, rfl⟩
  rw [decide_refl]
  go_wp2
  go_ret
  exact ⟨rfl, below_drewN (Below.next bb4 b5) q6⟩


set_option maxHeartbeats 2000000 in
set_option maxRecDepth 100000 in
theorem lawNatSub_small (va vb : Value) (a b : List Int) (w : World) (hla : a.length ≤ 1048576) (hlb : b.length ≤ 1048576) (hra : Row w 0 w.heap.size va (intsV a)) (hrb : Row w 0 w.heap.size vb (intsV b)) :
    Calls Try.prog 5 #[va, vb] w fun e w' => e = .returned (.bool true) ∧ Below w.heap.size w w' := by
  have ra := hra
  have rb := hrb
  obtain ⟨A, ca, rfl, _⟩ := hra
  obtain ⟨B, cb, rfl, _⟩ := hrb
  rw [intsV_length] at ra rb ⊢
  rw [intsV_length]
  have hrl := Lib.hid (subN_len a b)
  go_enter Try.func5, Try.ntmps5
  go_wp2_with fail
  refine (toIntS_any _ a _ _ _ (Nat.le_refl _) hla ra).mono ?_
  rintro e w1 ⟨v1, rfl, o1, b1⟩
  have z1 := b1.size
  go_wp2_with fail
  refine (toIntS_any _ b _ _ _ z1 hlb (rb.below b1 (Nat.le_refl _))).mono ?_
  rintro e w2 ⟨v2, rfl, o2, b2⟩
  have bb2 := Below.next b1 b2
  go_wp2_with fail
  refine (specNatSub_any v1 v2 a b _ _ _ _ _ hla hlb (Nat.le_refl _) (Nat.le_refl _) (Row.of_own (own_below o1 b2)) (Row.of_own o2)).mono ?_
  rintro e w3 ⟨v0, rfl, o0, b3⟩
  have bb3 := Below.next bb2 b3
  have l0 := Lies.of o0
  generalize hR : subN a b = R at *
  have HR := Lib.hid hR
  clear hR
  have hlR : R.length ≤ 50 := hrl.out
  go_wp2_with fail
  refine (toIntS_any _ a _ _ _ bb3.size hla (ra.below bb3 (Nat.le_refl _))).mono ?_
  rintro e w4 ⟨x0, rfl, ox, b4⟩
  have bb4 := Below.next bb3 b4
  have lx := Lies.of ox
  go_wp2_with fail
  refine (toIntS_any _ b _ _ _ bb4.size hlb (rb.below bb4 (Nat.le_refl _))).mono ?_
  rintro e w5 ⟨x1, rfl, oy, b5⟩
  have bb5 := Below.next bb4 b5
  have ly := Lies.of oy
  have ox5 := own_below ox b5
  go_wp2_with fail
  refine (implNatSub_any x0 x1 a b _ _ _ _ _ hla hlb (Nat.le_refl _) (Nat.le_refl _) (Row.of_own ox5) (Row.of_own oy)).mono ?_
  rintro e w6 ⟨g0, rfl, og, b6⟩
  rw [HR.out] at og
  have bb6 := Below.next bb5 b6
  have lg := Lies.of og
  have ox6 := own_below ox5 b6
  have oy6 := own_below oy b6
  have o06 := own_below (own_below (own_below o0 b4) b5) b6
  go_wp2_with fail
  refine (eqIntS_any g0 v0 R R _ _ _ _ _ (by omega) (Row.of_own og) (Row.of_own o06)).mono ?_
  rintro e w7 ⟨rfl, q7, rfl⟩
  rw [decide_refl]
  have bb7 := below_drewN bb6 q7
  go_wp2_with fail
  refine (toIntS_any _ a _ _ _ bb7.size hla (ra.below bb7 (Nat.le_refl _))).mono ?_
  rintro e w8 ⟨v8, rfl, o8, b8⟩
  have bb8 := Below.next bb7 b8
  have ox8 := own_below (own_drew ox6 q7) b8
  have oy8 := own_below (own_drew oy6 q7) b8
  have og8 := own_below (own_drew og q7) b8
  have o08 := own_below (own_drew o06 q7) b8
  go_wp2_with fail
  refine (eqIntS_any x0 v8 a a _ _ _ _ _ (by omega) (Row.of_own ox8) (Row.of_own o8)).mono ?_
  rintro e w9 ⟨rfl, q9, rfl⟩
  rw [decide_refl]
  have bb9 := below_drewN bb8 q9
  go_wp2_with fail
  refine (toIntS_any _ b _ _ _ bb9.size hlb (rb.below bb9 (Nat.le_refl _))).mono ?_
  rintro e w10 ⟨v10, rfl, o10, b10⟩
  have bb10 := Below.next bb9 b10
  have ox10 := own_below (own_drew ox8 q9) b10
  have oy10 := own_below (own_drew oy8 q9) b10
  have og10 := own_below (own_drew og8 q9) b10
  have o010 := own_below (own_drew o08 q9) b10
  go_wp2_with fail
  refine (eqIntS_any x1 v10 b b _ _ _ _ _ (by omega) (Row.of_own oy10) (Row.of_own o10)).mono ?_
  rintro e w11 ⟨rfl, q11, rfl⟩
  rw [decide_refl]
  have bb11 := below_drewN bb10 q11
  have z3 := b3.size
  have z4 := b4.size
  have z5 := b5.size
  have z6 := b6.size
  have ax0 := lx.apart l0 (.inr (by omega))
  have axy := lx.apart ly (.inl (by omega))
  have axg := lx.apart lg (.inl (by omega))
  have ay0 := ly.apart l0 (.inr (by omega))
  have ayg := ly.apart lg (.inl (by omega))
  have ag0 := lg.apart l0 (.inr (by omega))
  have AX0 := Lib.hid ax0
  have AXY := Lib.hid axy
  have AXG := Lib.hid axg
  have AY0 := Lib.hid ay0
  have AYG := Lib.hid ayg
  have AG0 := Lib.hid ag0
  have LX := Lib.hid lx
  have LY := Lib.hid ly
  have LG := Lib.hid lg
  clear ax0 axy axg ay0 ayg ag0 lx ly lg l0
  go_wp2_with fail
  refine (markIntS_any x0 _ _ _ 1 _ (by omega) (by omega) (own_drew ox10 q11)).mono ?_
  rintro e w12 ⟨rfl, _, g12⟩
  have bb12 := bb11.grown g12 bb11.size (fun k hk => by have := LX.out k hk; have := bb3.size; omega)
  have oy12 := own_apart (own_drew oy10 q11) g12 (fun x y hx hy => Ne.symm (AXY.out y x hy hx))
  have og12 := own_apart (own_drew og10 q11) g12 (fun x y hx hy => Ne.symm (AXG.out y x hy hx))
  have o012 := own_apart (own_drew o010 q11) g12 (fun x y hx hy => Ne.symm (AX0.out y x hy hx))
  go_wp2_with fail
  refine (markIntS_any x1 _ _ _ (1 + a.length) _ (by omega) (by omega) oy12).mono ?_
  rintro e w13 ⟨rfl, _, g13⟩
  have bb13 := bb12.grown g13 bb12.size (fun k hk => by have := LY.out k hk; have := bb4.size; omega)
  have og13 := own_apart og12 g13 (fun x y hx hy => Ne.symm (AYG.out y x hy hx))
  have o013 := own_apart o012 g13 (fun x y hx hy => Ne.symm (AY0.out y x hy hx))
  go_wp2_with fail
  refine (eqIntS_any g0 v0 R R _ _ _ _ _ (by omega) (Row.of_own og13) (Row.of_own o013)).mono ?_
  rintro e w14 ⟨rfl, q14, rfl⟩
  rw [decide_refl]
  have bb14 := below_drewN bb13 q14
  go_wp2_with fail
  refine (markIntS_any g0 _ _ _ 1 _ (by omega) (by omega) (own_drew og13 q14)).mono ?_
  rintro e w15 ⟨rfl, og15, g15⟩
  have bb15 := bb14.grown g15 bb14.size (fun k hk => by have := LG.out k hk; have := bb5.size; omega)
  have o015 := own_apart (own_drew o013 q14) g15 (fun x y hx hy => Ne.symm (AG0.out y x hy hx))
  go_wp2_with fail
  refine (heldIntS_any g0 R.length _ _ 1 _ (by omega) (by omega) (Row.of_own og15)).mono ?_
  rintro e w' ⟨rfl, rfl⟩
  go_wp2_with fail
  refine (toIntS_any _ a _ _ _ bb15.size hla (ra.below bb15 (Nat.le_refl _))).mono ?_
  rintro e w16 ⟨v16, rfl, o16, b16⟩
  have bb16 := Below.next bb15 b16
  go_wp2_with fail
  refine (toIntS_any _ b _ _ _ bb16.size hlb (rb.below bb16 (Nat.le_refl _))).mono ?_
  rintro e w17 ⟨v17, rfl, o17, b17⟩
  have bb17 := Below.next bb16 b17
  go_wp2_with fail
  refine (implNatSub_any v16 v17 a b _ _ _ _ _ hla hlb (Nat.le_refl _) (Nat.le_refl _) (Row.of_own (own_below o16 b17)) (Row.of_own o17)).mono ?_
  rintro e w18 ⟨h0, rfl, oh, b18⟩
  rw [HR.out] at oh
  have bb18 := Below.next bb17 b18
  have o018 := own_below (own_below (own_below o015 b16) b17) b18
  have og18 := own_below (own_below (own_below og15 b16) b17) b18
  go_wp2_with fail
  refine (eqIntS_any h0 v0 R R _ _ _ _ _ (by omega) (Row.of_own oh) (Row.of_own o018)).mono ?_
  rintro e w19 ⟨rfl, q19, rfl⟩
  rw [decide_refl]
  go_wp2_with fail
  refine (heldIntS_any g0 R.length _ _ 1 _ (by omega) (by omega) (Row.of_own (own_drew og18 q19))).mono ?_
  rintro e w' ⟨rfl, rfl⟩
  go_wp2
  go_ret
  exact ⟨rfl, below_drewN bb18 q19⟩

end Go.Proofs.Ytccajcddijhmcaa
