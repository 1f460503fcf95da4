/-
  Chapter 5 of package spec: what its functions on signed numbers return.
-/
import Derived.Test.YtofehcpapdlcnaaSigned
import Derived.Test.YtofehcpapdlcnaaNatConv
import Derived.Test.YtofehcpapdlcnaaDivSpec3
namespace Go.Proofs.Ytofehcpapdlcnaa
open Go.RowKit

/-- a parameter's box, new -/
theorem own_up {w w' : World} {base n : Nat} {e : TypeId} {v : Value} {xs : List Value} (h : w.ownsRow base e 1 v n xs) (hb : Below w.heap.size w w') : w'.ownsRow base e 1 v n xs := own_below h hb

set_option maxHeartbeats 400000 in
set_option maxRecDepth 100000 in
theorem specIntOk_any (v : Value) (x : SI) (w : World) (hl : x.2.length ≤ 1048576) (h : RdS w v x) :
    Calls Try.prog 20 #[v] w fun e w' => e = .returned (.bool (okS x)) ∧ Below w.heap.size w w' := by
  obtain ⟨n, xs⟩ := x
  obtain ⟨u, rfl, hp⟩ := h
  obtain ⟨A, c, rfl⟩ := row_form hp
  rw [intsV_length] at hp ⊢
  simp only at hl hp ⊢
  have hbx : Below w.heap.size w (w.alloc (.cells #[.bool n, .slice A xs.length c] 29)) := below_al (Below.refl _ _) _
  have HV := Lib.hid (show okS (n, xs) = (natOkB xs && (!n || decide (0 < xs.length))) from rfl)
  by_cases ok : natOkB xs = true
  · rw [ok] at HV
    go_enter Try.func20, Try.ntmps20
    go_wp2_with fail
    refine (specNatOk_any _ xs 0 w.heap.size _ hl (hp.below hbx (Nat.le_refl _))).mono ?_
    rintro e w1 ⟨rfl, rfl⟩
    rw [ok]
    cases n with
    | false =>
      go_wp2
      go_ret
      exact ⟨ret_bool (by rw [HV.out]; rfl), hbx⟩
    | true =>
      go_wp2
      go_ret
      exact ⟨ret_bool (by rw [HV.out]; simp), hbx⟩
  · have ok' : natOkB xs = false := by simpa using ok
    rw [ok'] at HV
    clear ok
    go_enter Try.func20, Try.ntmps20
    go_wp2_with fail
    refine (specNatOk_any _ xs 0 w.heap.size _ hl (hp.below hbx (Nat.le_refl _))).mono ?_
    rintro e w1 ⟨rfl, rfl⟩
    rw [ok']
    go_wp2
    go_ret
    exact ⟨ret_bool (by rw [HV.out]; rfl), hbx⟩

set_option maxHeartbeats 1000000 in
set_option maxRecDepth 100000 in
theorem l04Make_any (n : Bool) (v : Value) (xs : List Int) (base : Nat) (w : World) (hl : xs.length ≤ 1048576) (ho : w.ownsRow base 3 1 v xs.length (intsV xs)) :
    Calls Try.prog 24 #[.bool n, v] w (NewS (mkS n (trimL xs)) w) := by
  obtain ⟨i0, hi0, hz0, hz1, hz2⟩ := info_parts intInfo
  have hbx : Below w.heap.size w (w.alloc (.cells #[.bool false, .slice none 0 0] 29)) := below_al (Below.refl _ _) _
  obtain ⟨A, c, rfl⟩ := own_len ho
  have HO := Lib.hid ho
  clear ho
  have hcl : (capL (trimL xs)).length ≤ 50 := by
    unfold capL
    split
    · simp
    · omega
  have HR := Lib.hid (show mkS n (trimL xs) = (n && decide (0 < (capL (trimL xs)).length), capL (trimL xs)) from rfl)
  have hmade : ((w.alloc (.cells #[.bool false, .slice none 0 0] 29)).alloc (.cells #[] 3)).ownsRow w.heap.size 3 1 (.slice (some ⟨w.heap.size + 1, 0, none⟩) 0 0) 0 [] := by
    have h := World.ownsRow_made (base := w.heap.size) (e := 3) (size := 1) (w.alloc (.cells #[.bool false, .slice none 0 0] 29)) #[] 0 hbx.size (Nat.zero_le _) rfl
    simpa using h
  have hbx2 := below_al hbx (.cells #[] 3)
  have HM := Lib.hid hmade
  clear hmade
  have hone : Hid (∀ l : List Int, ∀ u ∈ intsV l, u.oneCell' = true) := Lib.hid (fun l u hu => by obtain ⟨x, _, rfl⟩ := List.mem_map.1 hu; rfl)
  have hsz1 : (w.alloc (.cells #[.bool false, .slice none 0 0] 29)).heap.size = w.heap.size + 1 := by simp
  cases n
  all_goals
    go_enter Try.func24, Try.ntmps24
    go_wp2_with fail
    refine (specCap_any _ xs base _ hl (own_up HO.out hbx)).mono ?_
    rintro e w1 ⟨rfl, v1, rfl, o1⟩
    have HO1 := Lib.hid (own_alloc o1 (.cells #[] 3))
    have HR2 := HR.out
    generalize capL (trimL xs) = ys at *
    obtain ⟨A1, c1, rfl⟩ := own_len o1
    have HRR := Lib.hid HR2
    clear o1 HR2 HR
    go_wp2_with (at_builtin; refine append_owned rfl _ _ 22 rfl w.heap.size 3 i0 (.int .i64 0) 8 Try.underlying22 hi0 hz0 hz1 hz2 rfl _ 0 [] rfl HM.out _ ys.length base 3 (intsV ys) rfl HO1.out (hone.out ys) (by unfold maxLen; omega) (by omega) hbx2.size ?_)
    intro v2 w2 o2 g2
    obtain ⟨A2, c2, rfl⟩ := own_len o2
    have b2 : Below w.heap.size w w2 := hbx2.grown g2 hbx2.size (fun k hk => by cases hk; show w.heap.size ≤ w.heap.size + 1; omega)
    have hbox : At [w.heap.size] (BoxAt w.heap.size #[.bool false, .slice none 0 0] 29) w2 :=
      ((box_new w #[.bool false, .slice none 0 0] 29).below (below_al (Below.refl _ _) (.cells #[] 3))).chg (Chg.of_grown g2) (fun i hi hm => by simp at hi; simp [Value.ownBlock] at hm; omega)
    have cz0 : w2.cell? ⟨w.heap.size, 0, none⟩ = some (.bool false) := hbox.here.cell 0 _ rfl
    have cz1 : w2.cell? ⟨w.heap.size, 1, none⟩ = some (.slice none 0 0) := hbox.here.cell 1 _ rfl
    have fz0 := Lib.frozen_of_heap hbox.here 0
    have fz1 := Lib.frozen_of_heap hbox.here 1
    have HO2 := Lib.hid o2
    have HBX := Lib.hid hbox
    have HB2 := Lib.hid b2
    clear o2 g2 hbox b2 hbx2 hbx
    go_wp2
    refine bodyPost_ret (v := .agg #[.bool _, .slice A2 ys.length c2]) (by simp [results, Try.results24, go_sem, cz0, cz1]; rfl) rfl ?_
    rw [HRR.out]
    refine ⟨.slice A2 ys.length c2, rfl, ?_, below_set2 HB2.out (Nat.le_refl _)⟩
    have hne := Lib.ownBlock_ne HO2.out HBX.out.here (by decide)
    refine own_stays HO2.out fun i hi => ?_
    have : i ≠ w.heap.size := fun e => hne (by rw [hi, e])
    exact (Below.heap_setCell _ _ _ _ this).trans (Below.heap_setCell _ _ _ _ this)

/-- a result that lies in its cell at block r -/
theorem newS_ret {r : Nat} {u c0 c1 : Value} {x : SI} {w W : World} {B : Nat} (hb : BoxAt r #[c0, c1] 29 W) (o : W.ownsRow B 3 1 u x.2.length (intsV x.2)) (hB : w.heap.size ≤ B) (hr : w.heap.size ≤ r) (hW : Below w.heap.size w W) :
    NewS x w (.returned (.agg #[.bool x.1, u])) ((W.setCell ⟨r, 0, none⟩ (.bool x.1)).setCell ⟨r, 1, none⟩ u) := by
  have hne := Lib.ownBlock_ne o hb (by decide)
  refine ⟨u, rfl, own_low (own_stays o fun i hi => ?_) hB, below_set2 hW hr⟩
  have : i ≠ r := fun e => hne (by rw [hi, e])
  exact (Below.heap_setCell _ _ _ _ this).trans (Below.heap_setCell _ _ _ _ this)
theorem newS_zero {w W : World} (hW : Below w.heap.size w W) : NewS zeroS w (.returned (.agg #[.bool false, .slice none 0 0])) W := ⟨_, rfl, World.ownsRow_nil _ _ _ _, hW⟩
theorem ok_trimL {xs : List Int} (h : natOkB xs = true) : trimL xs = limbs (nval xs).toNat := by rw [trim_limbs xs (natOk_parts h).1]
theorem negS_mk {x : SI} (h : okS x = true) : mkS (!x.1) (trimL x.2) = negS x := by
  have hp := okS_parts h
  have h0 := nval_ok hp.1
  unfold negS
  rw [if_pos h, ok_trimL hp.1, mkS_limbs]
  congr 1
  unfold valS
  cases x.1 <;> simp <;> omega
theorem absS_mk {x : SI} (h : okS x = true) : mkS false (trimL x.2) = absS x := by
  have hp := okS_parts h
  have h0 := nval_ok hp.1
  unfold absS
  rw [if_pos h, ok_trimL hp.1, mkS_limbs, valS_abs x hp.1]
  rfl


theorem trimL_limbs (m : Nat) : trimL (limbs m) = limbs m := trim_last _ (limbs_lastN m)
theorem min_limbs : limbs 9223372036854775808 = [854775808, 223372036, 9] := by
  rw [limbs_pos _ (by decide), limbs_pos _ (by decide), limbs_pos _ (by decide), limbs, dif_pos (by decide)]
  rfl
theorem ofZ_neg {n : Int} (h : n < 0) : mkS true (trimL (limbs (-n).toNat)) = ofZ n := by
  rw [trimL_limbs, mkS_limbs]
  congr 1
  simp
  omega
theorem ofZ_pos {n : Int} (h : ¬ n < 0) : mkS false (trimL (limbs n.toNat)) = ofZ n := by
  rw [trimL_limbs, mkS_limbs]
  congr 1
  simp
  omega
theorem Row.lit3 (w : World) (x y z : Value) (t : TypeId) : (w.alloc (.cells #[x, y, z] t)).ownsRow w.heap.size t 1 (.slice (some ⟨w.heap.size, 0, none⟩) 3 3) 3 [x, y, z] := by
  have h := World.ownsRow_lit (e := t) (size := 1) (base := w.heap.size) w #[x, y, z] 3 (Nat.le_refl _) (by unfold maxLen; omega) rfl
  simpa using h

set_option maxHeartbeats 1000000 in
set_option maxRecDepth 100000 in
theorem specIntOf_any (n : Int) (w : World) (h0 : -9223372036854775808 ≤ n) (h1 : n ≤ 9223372036854775807) :
    Calls Try.prog 12 #[.int .i64 n] w (NewS (ofZ n) w) := by
  have hbb : Below w.heap.size w (w.alloc (.cells #[.bool false, .slice none 0 0] 29)) := below_al (Below.refl _ _) _
  have kr := box_new w #[.bool false, .slice none 0 0] 29
  by_cases hmin : n = -9223372036854775808
  · subst hmin
    have HV := Lib.hid (show mkS true (trimL [854775808, 223372036, 9]) = ofZ (-9223372036854775808) by rw [← min_limbs]; exact ofZ_neg (n := -9223372036854775808) (by decide))
    have ho := Row.lit3 (w.alloc (.cells #[.bool false, .slice none 0 0] 29)) (.int .i64 854775808) (.int .i64 223372036) (.int .i64 9) 3
    rw [show (w.alloc (.cells #[.bool false, .slice none 0 0] 29)).heap.size = w.heap.size + 1 by simp] at ho
    have bb1 := below_al hbb (.cells #[.int .i64 854775808, .int .i64 223372036, .int .i64 9] 3)
    replace kr := kr.below (below_al (Below.refl _ _) (.cells #[.int .i64 854775808, .int .i64 223372036, .int .i64 9] 3))
    have HO := Lib.hid ho
    clear ho
    go_enter Try.func12, Try.ntmps12
    go_wp2_with fail
    refine (l04Make_any _ _ [854775808, 223372036, 9] (w.heap.size + 1) _ (by decide) HO.out).mono ?_
    rintro e w2 ⟨u2, rfl, o2, b2⟩
    obtain ⟨A2, c2, rfl⟩ := own_len o2
    have bb2 := Below.next bb1 b2
    replace kr := kr.below b2
    have cz0 := kr.here.cell 0 _ rfl
    have cz1 := kr.here.cell 1 _ rfl
    have fz0 := Lib.frozen_of_heap kr.here 0
    have fz1 := Lib.frozen_of_heap kr.here 1
    have HO2 := Lib.hid o2
    have HK := Lib.hid kr
    clear o2 kr
    go_wp2
    refine bodyPost_ret (v := .agg #[.bool _, .slice A2 _ c2]) (by simp [results, Try.results12, go_sem, cz0, cz1]; exact ⟨rfl, rfl⟩) rfl ?_
    rw [← HV.out]
    exact newS_ret HK.out.here HO2.out bb1.size (by omega) bb2
  · have hmb : (n == -9223372036854775808) = false := by rw [beq_eq_false_iff_ne]; exact hmin
    by_cases hneg : n < 0
    · have HV := Lib.hid (ofZ_neg hneg)
      have hm2 : -9223372036854775807 ≤ n := by omega
      clear hmin h0
      go_enter Try.func12, Try.ntmps12
      go_wp2_with fail
      refine (specNatOf_any (-n) _ (by omega)).mono ?_
      rintro e w1 ⟨u1, rfl, o1, b1⟩
      have bb1 := Below.next hbb b1
      replace kr := kr.below b1
      go_wp2_with fail
      refine (l04Make_any _ _ (limbs (-n).toNat) _ _ (Nat.le_trans (limbs_length_le _ 3 (by show _ < (1000000000 * (1000000000 * (1000000000 * 1)) : Int); omega)) (by decide)) o1).mono ?_
      rintro e w2 ⟨u2, rfl, o2, b2⟩
      obtain ⟨A2, c2, rfl⟩ := own_len o2
      have bb2 := Below.next bb1 b2
      replace kr := kr.below b2
      have cz0 := kr.here.cell 0 _ rfl
      have cz1 := kr.here.cell 1 _ rfl
      have fz0 := Lib.frozen_of_heap kr.here 0
      have fz1 := Lib.frozen_of_heap kr.here 1
      have HO2 := Lib.hid o2
      have HK := Lib.hid kr
      clear o2 kr o1
      go_wp2
      refine bodyPost_ret (v := .agg #[.bool _, .slice A2 _ c2]) (by simp [results, Try.results12, go_sem, cz0, cz1]; exact ⟨rfl, rfl⟩) rfl ?_
      rw [← HV.out]
      exact newS_ret HK.out.here HO2.out bb1.size (by omega) bb2
    · have HV := Lib.hid (ofZ_pos hneg)
      clear hmin h0
      go_enter Try.func12, Try.ntmps12
      go_wp2_with fail
      refine (specNatOf_any n _ (by omega)).mono ?_
      rintro e w1 ⟨u1, rfl, o1, b1⟩
      have bb1 := Below.next hbb b1
      replace kr := kr.below b1
      go_wp2_with fail
      refine (l04Make_any _ _ (limbs n.toNat) _ _ (Nat.le_trans (limbs_length_le _ 3 (by show _ < (1000000000 * (1000000000 * (1000000000 * 1)) : Int); omega)) (by decide)) o1).mono ?_
      rintro e w2 ⟨u2, rfl, o2, b2⟩
      obtain ⟨A2, c2, rfl⟩ := own_len o2
      have bb2 := Below.next bb1 b2
      replace kr := kr.below b2
      have cz0 := kr.here.cell 0 _ rfl
      have cz1 := kr.here.cell 1 _ rfl
      have fz0 := Lib.frozen_of_heap kr.here 0
      have fz1 := Lib.frozen_of_heap kr.here 1
      have HO2 := Lib.hid o2
      have HK := Lib.hid kr
      clear o2 kr o1
      go_wp2
      refine bodyPost_ret (v := .agg #[.bool _, .slice A2 _ c2]) (by simp [results, Try.results12, go_sem, cz0, cz1]; exact ⟨rfl, rfl⟩) rfl ?_
      rw [← HV.out]
      exact newS_ret HK.out.here HO2.out bb1.size (by omega) bb2
end Go.Proofs.Ytofehcpapdlcnaa
