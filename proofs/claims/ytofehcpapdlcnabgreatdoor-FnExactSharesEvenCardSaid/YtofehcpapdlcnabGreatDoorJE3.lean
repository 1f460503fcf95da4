/-
  JA3
-/
import Derived.Deep.RegionHeld3
import Derived.Test.YtofehcpapdlcnabGreatDoorJE2
namespace Go.Proofs.YtofehcpapdlcnabGreatDoor
open Go.RowKit

/-- a parameter's box, new -/
theorem own_up {w w' : World} {base n : Nat} {e : TypeId} {v : Value} {xs : List Value} (h : w.ownsRow base e 1 v n xs) (hb : Below w.heap.size w w') : w'.ownsRow base e 1 v n xs := own_below h hb

set_option maxHeartbeats 400000 in
set_option maxRecDepth 100000 in
theorem specIntOk_any (v : Value) (x : SI) (w : World) (hl : x.2.length ≤ 1048576) (h : RdS w v x) :
    Calls Tryz.prog 43 #[v] w fun e w' => e = .returned (.bool (okS x)) ∧ Below w.heap.size w w' := by
  obtain ⟨n, xs⟩ := x
  obtain ⟨u, rfl, hp⟩ := h
  obtain ⟨A, c, rfl⟩ := row_form hp
  rw [intsV_length] at hp ⊢
  simp only at hl hp ⊢
  have hbx : Below w.heap.size w (w.alloc (.cells #[.bool n, .slice A xs.length c] 29)) := below_al (Below.refl _ _) _
  have HV := Lib.hid (show okS (n, xs) = (natOkB xs && (!n || decide (0 < xs.length))) from rfl)
  by_cases ok : natOkB xs = true
  · rw [ok] at HV
    go_enter Tryz.func43, Tryz.ntmps43
    go_wp2_with fail
    refine (specNatOk_any _ xs 0 w.heap.size _ hl (hp.below hbx (Nat.le_refl _))).mono ?_
    rintro e w1 ⟨rfl, rfl⟩
    rw [ok]
    cases n with
    | false =>
      go_wp2
      go_ret
      exact ⟨ret_bool (by rw [HV.out]; rfl), hbx⟩
    | true =>
      go_wp2
      go_ret
      exact ⟨ret_bool (by rw [HV.out]; simp), hbx⟩
  · have ok' : natOkB xs = false := by simpa using ok
    rw [ok'] at HV
    clear ok
    go_enter Tryz.func43, Tryz.ntmps43
    go_wp2_with fail
    refine (specNatOk_any _ xs 0 w.heap.size _ hl (hp.below hbx (Nat.le_refl _))).mono ?_
    rintro e w1 ⟨rfl, rfl⟩
    rw [ok']
    go_wp2
    go_ret
    exact ⟨ret_bool (by rw [HV.out]; rfl), hbx⟩

set_option maxHeartbeats 1000000 in
set_option maxRecDepth 100000 in
theorem l04Make_any (n : Bool) (v : Value) (xs : List Int) (base : Nat) (w : World) (hl : xs.length ≤ 1048576) (ho : w.ownsRow base 3 1 v xs.length (intsV xs)) :
    Calls Tryz.prog 82 #[.bool n, v] w (NewS (mkS n (trimL xs)) w) := by
  obtain ⟨i0, hi0, hz0, hz1, hz2⟩ := info_parts intInfo
  have hbx : Below w.heap.size w (w.alloc (.cells #[.bool false, .slice none 0 0] 29)) := below_al (Below.refl _ _) _
  obtain ⟨A, c, rfl⟩ := own_len ho
  have HO := Lib.hid ho
  clear ho
  have hcl : (capL (trimL xs)).length ≤ 50 := by
    unfold capL
    split
    · simp
    · omega
  have HR := Lib.hid (show mkS n (trimL xs) = (n && decide (0 < (capL (trimL xs)).length), capL (trimL xs)) from rfl)
  have hmade : ((w.alloc (.cells #[.bool false, .slice none 0 0] 29)).alloc (.cells #[] 3)).ownsRow w.heap.size 3 1 (.slice (some ⟨w.heap.size + 1, 0, none⟩) 0 0) 0 [] := by
    have h := World.ownsRow_made (base := w.heap.size) (e := 3) (size := 1) (w.alloc (.cells #[.bool false, .slice none 0 0] 29)) #[] 0 hbx.size (Nat.zero_le _) rfl
    simpa using h
  have hbx2 := below_al hbx (.cells #[] 3)
  have HM := Lib.hid hmade
  clear hmade
  have hone : Hid (∀ l : List Int, ∀ u ∈ intsV l, u.oneCell' = true) := Lib.hid (fun l u hu => by obtain ⟨x, _, rfl⟩ := List.mem_map.1 hu; rfl)
  have hsz1 : (w.alloc (.cells #[.bool false, .slice none 0 0] 29)).heap.size = w.heap.size + 1 := by simp
  cases n
  all_goals
    go_enter Tryz.func82, Tryz.ntmps82
    go_wp2_with fail
    refine (specCap_any _ xs base _ hl (own_up HO.out hbx)).mono ?_
    rintro e w1 ⟨rfl, v1, rfl, o1⟩
    have HO1 := Lib.hid (own_alloc o1 (.cells #[] 3))
    have HR2 := HR.out
    generalize capL (trimL xs) = ys at *
    obtain ⟨A1, c1, rfl⟩ := own_len o1
    have HRR := Lib.hid HR2
    clear o1 HR2 HR
    go_wp2_with (at_builtin; refine append_owned rfl _ _ 22 rfl w.heap.size 3 i0 (.int .i64 0) 8 Tryz.underlying22 hi0 hz0 hz1 hz2 rfl _ 0 [] rfl HM.out _ ys.length base 3 (intsV ys) rfl HO1.out (hone.out ys) (by unfold maxLen; omega) (by omega) hbx2.size ?_)
    intro v2 w2 o2 g2
    obtain ⟨A2, c2, rfl⟩ := own_len o2
    have b2 : Below w.heap.size w w2 := hbx2.grown g2 hbx2.size (fun k hk => by cases hk; show w.heap.size ≤ w.heap.size + 1; omega)
    have hbox : At [w.heap.size] (BoxAt w.heap.size #[.bool false, .slice none 0 0] 29) w2 :=
      ((box_new w #[.bool false, .slice none 0 0] 29).below (below_al (Below.refl _ _) (.cells #[] 3))).chg (Chg.of_grown g2) (fun i hi hm => by simp at hi; simp [Value.ownBlock] at hm; omega)
    have cz0 : w2.cell? ⟨w.heap.size, 0, none⟩ = some (.bool false) := hbox.here.cell 0 _ rfl
    have cz1 : w2.cell? ⟨w.heap.size, 1, none⟩ = some (.slice none 0 0) := hbox.here.cell 1 _ rfl
    have fz0 := Lib.frozen_of_heap hbox.here 0
    have fz1 := Lib.frozen_of_heap hbox.here 1
    have HO2 := Lib.hid o2
    have HBX := Lib.hid hbox
    have HB2 := Lib.hid b2
    clear o2 g2 hbox b2 hbx2 hbx
    go_wp2
    refine bodyPost_ret (v := .agg #[.bool _, .slice A2 ys.length c2]) (by simp [results, Tryz.results82, go_sem, cz0, cz1]; rfl) rfl ?_
    rw [HRR.out]
    refine ⟨.slice A2 ys.length c2, rfl, ?_, below_set2 HB2.out (Nat.le_refl _)⟩
    have hne := Lib.ownBlock_ne HO2.out HBX.out.here (by decide)
    refine own_stays HO2.out fun i hi => ?_
    have : i ≠ w.heap.size := fun e => hne (by rw [hi, e])
    exact (Below.heap_setCell _ _ _ _ this).trans (Below.heap_setCell _ _ _ _ this)

/-- a result that lies in its cell at block r -/
theorem newS_ret {r : Nat} {u c0 c1 : Value} {x : SI} {w W : World} {B : Nat} (hb : BoxAt r #[c0, c1] 29 W) (o : W.ownsRow B 3 1 u x.2.length (intsV x.2)) (hB : w.heap.size ≤ B) (hr : w.heap.size ≤ r) (hW : Below w.heap.size w W) :
    NewS x w (.returned (.agg #[.bool x.1, u])) ((W.setCell ⟨r, 0, none⟩ (.bool x.1)).setCell ⟨r, 1, none⟩ u) := by
  have hne := Lib.ownBlock_ne o hb (by decide)
  refine ⟨u, rfl, own_low (own_stays o fun i hi => ?_) hB, below_set2 hW hr⟩
  have : i ≠ r := fun e => hne (by rw [hi, e])
  exact (Below.heap_setCell _ _ _ _ this).trans (Below.heap_setCell _ _ _ _ this)
theorem newS_zero {w W : World} (hW : Below w.heap.size w W) : NewS zeroS w (.returned (.agg #[.bool false, .slice none 0 0])) W := ⟨_, rfl, World.ownsRow_nil _ _ _ _, hW⟩
theorem ok_trimL {xs : List Int} (h : natOkB xs = true) : trimL xs = limbs (nval xs).toNat := by rw [trim_limbs xs (natOk_parts h).1]
theorem negS_mk {x : SI} (h : okS x = true) : mkS (!x.1) (trimL x.2) = negS x := by
  have hp := okS_parts h
  have h0 := nval_ok hp.1
  unfold negS
  rw [if_pos h, ok_trimL hp.1, mkS_limbs]
  congr 1
  unfold valS
  cases x.1 <;> simp <;> omega
theorem absS_mk {x : SI} (h : okS x = true) : mkS false (trimL x.2) = absS x := by
  have hp := okS_parts h
  have h0 := nval_ok hp.1
  unfold absS
  rw [if_pos h, ok_trimL hp.1, mkS_limbs, valS_abs x hp.1]
  rfl

set_option maxHeartbeats 1000000 in
set_option maxRecDepth 100000 in
theorem specIntNeg_any (v : Value) (x : SI) (w : World) (hl : x.2.length ≤ 1048576) (h : OwnS v x w) :
    Calls Tryz.prog 84 #[v] w (NewS (negS x) w) := by
  obtain ⟨u, rfl, ho⟩ := h
  obtain ⟨A, c, rfl⟩ := own_len ho
  have hbb : Below w.heap.size w ((w.alloc (.cells #[.bool x.1, .slice A x.2.length c] 29)).alloc (.cells #[.bool false, .slice none 0 0] 29)) := below_al (below_al (Below.refl _ _) _) _
  have kb := (box_new w #[.bool x.1, .slice A x.2.length c] 29).below (below_al (Below.refl _ _) (.cells #[.bool false, .slice none 0 0] 29))
  have kr := box_new (w.alloc (.cells #[.bool x.1, .slice A x.2.length c] 29)) #[.bool false, .slice none 0 0] 29
  rw [show (w.alloc (.cells #[.bool x.1, .slice A x.2.length c] 29)).heap.size = w.heap.size + 1 by simp] at kr
  have hoB := own_below ho hbb
  have hrd : RdS _ (.agg #[.bool x.1, .slice A x.2.length c]) x := (OwnS.mk (x := x) (ownI_of hoB)).rd
  by_cases ok : okS x = true
  · have HV := Lib.hid (negS_mk ok)
    go_enter Tryz.func84, Tryz.ntmps84
    go_wp2_with fail
    refine (specIntOk_any _ x _ hl hrd).mono ?_
    rintro e w1 ⟨rfl, b1⟩
    rw [ok]
    clear ok
    have bb1 := Below.next hbb b1
    replace kb := kb.below b1
    replace kr := kr.below b1
    have ho1 := own_below hoB b1
    have cb0 := kb.here.cell 0 _ rfl
    have cb1 := kb.here.cell 1 _ rfl
    clear hoB hrd ho
    go_wp2_with fail
    refine (l04Make_any _ _ x.2 0 _ hl ho1).mono ?_
    rintro e w2 ⟨u2, rfl, o2, b2⟩
    obtain ⟨A2, c2, rfl⟩ := own_len o2
    have bb2 := Below.next bb1 b2
    replace kr := kr.below b2
    have cz0 := kr.here.cell 0 _ rfl
    have cz1 := kr.here.cell 1 _ rfl
    have fz0 := Lib.frozen_of_heap kr.here 0
    have fz1 := Lib.frozen_of_heap kr.here 1
    have HO2 := Lib.hid o2
    have HK := Lib.hid kr
    clear o2 kr kb cb0 cb1 ho1
    go_wp2
    refine bodyPost_ret (v := .agg #[.bool _, .slice A2 _ c2]) (by simp [results, Tryz.results84, go_sem, cz0, cz1]; exact ⟨rfl, rfl⟩) rfl ?_
    rw [← HV.out]
    exact newS_ret HK.out.here HO2.out bb1.size (by omega) bb2
  · have ok' : okS x = false := by simpa using ok
    have HV := Lib.hid (show negS x = zeroS by unfold negS; rw [if_neg ok])
    clear ok
    go_enter Tryz.func84, Tryz.ntmps84
    go_wp2_with fail
    refine (specIntOk_any _ x _ hl hrd).mono ?_
    rintro e w1 ⟨rfl, b1⟩
    rw [ok']
    have bb1 := Below.next hbb b1
    replace kr := kr.below b1
    have cz0 := kr.here.cell 0 _ rfl
    have cz1 := kr.here.cell 1 _ rfl
    have fz0 := Lib.frozen_of_heap kr.here 0
    have fz1 := Lib.frozen_of_heap kr.here 1
    clear kb hoB hrd ho
    go_wp2
    refine bodyPost_ret (v := .agg #[.bool false, .slice none 0 0]) (by simp [results, Tryz.results84, go_sem, cz0, cz1]) rfl ?_
    rw [HV.out]
    exact newS_zero (below_set2 bb1 (by omega))
set_option maxHeartbeats 1000000 in
set_option maxRecDepth 100000 in
theorem specIntAbs_any (v : Value) (x : SI) (w : World) (hl : x.2.length ≤ 1048576) (h : OwnS v x w) :
    Calls Tryz.prog 45 #[v] w (NewS (absS x) w) := by
  obtain ⟨u, rfl, ho⟩ := h
  obtain ⟨A, c, rfl⟩ := own_len ho
  have hbb : Below w.heap.size w ((w.alloc (.cells #[.bool x.1, .slice A x.2.length c] 29)).alloc (.cells #[.bool false, .slice none 0 0] 29)) := below_al (below_al (Below.refl _ _) _) _
  have kb := (box_new w #[.bool x.1, .slice A x.2.length c] 29).below (below_al (Below.refl _ _) (.cells #[.bool false, .slice none 0 0] 29))
  have kr := box_new (w.alloc (.cells #[.bool x.1, .slice A x.2.length c] 29)) #[.bool false, .slice none 0 0] 29
  rw [show (w.alloc (.cells #[.bool x.1, .slice A x.2.length c] 29)).heap.size = w.heap.size + 1 by simp] at kr
  have hoB := own_below ho hbb
  have hrd : RdS _ (.agg #[.bool x.1, .slice A x.2.length c]) x := (OwnS.mk (x := x) (ownI_of hoB)).rd
  by_cases ok : okS x = true
  · have HV := Lib.hid (absS_mk ok)
    go_enter Tryz.func45, Tryz.ntmps45
    go_wp2_with fail
    refine (specIntOk_any _ x _ hl hrd).mono ?_
    rintro e w1 ⟨rfl, b1⟩
    rw [ok]
    clear ok
    have bb1 := Below.next hbb b1
    replace kb := kb.below b1
    replace kr := kr.below b1
    have ho1 := own_below hoB b1
    have cb0 := kb.here.cell 0 _ rfl
    have cb1 := kb.here.cell 1 _ rfl
    clear hoB hrd ho
    go_wp2_with fail
    refine (l04Make_any _ _ x.2 0 _ hl ho1).mono ?_
    rintro e w2 ⟨u2, rfl, o2, b2⟩
    obtain ⟨A2, c2, rfl⟩ := own_len o2
    have bb2 := Below.next bb1 b2
    replace kr := kr.below b2
    have cz0 := kr.here.cell 0 _ rfl
    have cz1 := kr.here.cell 1 _ rfl
    have fz0 := Lib.frozen_of_heap kr.here 0
    have fz1 := Lib.frozen_of_heap kr.here 1
    have HO2 := Lib.hid o2
    have HK := Lib.hid kr
    clear o2 kr kb cb0 cb1 ho1
    go_wp2
    refine bodyPost_ret (v := .agg #[.bool _, .slice A2 _ c2]) (by simp [results, Tryz.results45, go_sem, cz0, cz1]; exact ⟨rfl, rfl⟩) rfl ?_
    rw [← HV.out]
    exact newS_ret HK.out.here HO2.out bb1.size (by omega) bb2
  · have ok' : okS x = false := by simpa using ok
    have HV := Lib.hid (show absS x = zeroS by unfold absS; rw [if_neg ok])
    clear ok
    go_enter Tryz.func45, Tryz.ntmps45
    go_wp2_with fail
    refine (specIntOk_any _ x _ hl hrd).mono ?_
    rintro e w1 ⟨rfl, b1⟩
    rw [ok']
    have bb1 := Below.next hbb b1
    replace kr := kr.below b1
    have cz0 := kr.here.cell 0 _ rfl
    have cz1 := kr.here.cell 1 _ rfl
    have fz0 := Lib.frozen_of_heap kr.here 0
    have fz1 := Lib.frozen_of_heap kr.here 1
    clear kb hoB hrd ho
    go_wp2
    refine bodyPost_ret (v := .agg #[.bool false, .slice none 0 0]) (by simp [results, Tryz.results45, go_sem, cz0, cz1]) rfl ?_
    rw [HV.out]
    exact newS_zero (below_set2 bb1 (by omega))

theorem trimL_limbs (m : Nat) : trimL (limbs m) = limbs m := trim_last _ (limbs_lastN m)
theorem min_limbs : limbs 9223372036854775808 = [854775808, 223372036, 9] := by
  rw [limbs_pos _ (by decide), limbs_pos _ (by decide), limbs_pos _ (by decide), limbs, dif_pos (by decide)]
  rfl
theorem ofZ_neg {n : Int} (h : n < 0) : mkS true (trimL (limbs (-n).toNat)) = ofZ n := by
  rw [trimL_limbs, mkS_limbs]
  congr 1
  simp
  omega
theorem ofZ_pos {n : Int} (h : ¬ n < 0) : mkS false (trimL (limbs n.toNat)) = ofZ n := by
  rw [trimL_limbs, mkS_limbs]
  congr 1
  simp
  omega
theorem Row.lit3 (w : World) (x y z : Value) (t : TypeId) : (w.alloc (.cells #[x, y, z] t)).ownsRow w.heap.size t 1 (.slice (some ⟨w.heap.size, 0, none⟩) 3 3) 3 [x, y, z] := by
  have h := World.ownsRow_lit (e := t) (size := 1) (base := w.heap.size) w #[x, y, z] 3 (Nat.le_refl _) (by unfold maxLen; omega) rfl
  simpa using h

set_option maxHeartbeats 1000000 in
set_option maxRecDepth 100000 in
theorem specIntOf_any (n : Int) (w : World) (h0 : -9223372036854775808 ≤ n) (h1 : n ≤ 9223372036854775807) :
    Calls Tryz.prog 48 #[.int .i64 n] w (NewS (ofZ n) w) := by
  have hbb : Below w.heap.size w (w.alloc (.cells #[.bool false, .slice none 0 0] 29)) := below_al (Below.refl _ _) _
  have kr := box_new w #[.bool false, .slice none 0 0] 29
  by_cases hmin : n = -9223372036854775808
  · subst hmin
    have HV := Lib.hid (show mkS true (trimL [854775808, 223372036, 9]) = ofZ (-9223372036854775808) by rw [← min_limbs]; exact ofZ_neg (n := -9223372036854775808) (by decide))
    have ho := Row.lit3 (w.alloc (.cells #[.bool false, .slice none 0 0] 29)) (.int .i64 854775808) (.int .i64 223372036) (.int .i64 9) 3
    rw [show (w.alloc (.cells #[.bool false, .slice none 0 0] 29)).heap.size = w.heap.size + 1 by simp] at ho
    have bb1 := below_al hbb (.cells #[.int .i64 854775808, .int .i64 223372036, .int .i64 9] 3)
    replace kr := kr.below (below_al (Below.refl _ _) (.cells #[.int .i64 854775808, .int .i64 223372036, .int .i64 9] 3))
    have HO := Lib.hid ho
    clear ho
    go_enter Tryz.func48, Tryz.ntmps48
    go_wp2_with fail
    refine (l04Make_any _ _ [854775808, 223372036, 9] (w.heap.size + 1) _ (by decide) HO.out).mono ?_
    rintro e w2 ⟨u2, rfl, o2, b2⟩
    obtain ⟨A2, c2, rfl⟩ := own_len o2
    have bb2 := Below.next bb1 b2
    replace kr := kr.below b2
    have cz0 := kr.here.cell 0 _ rfl
    have cz1 := kr.here.cell 1 _ rfl
    have fz0 := Lib.frozen_of_heap kr.here 0
    have fz1 := Lib.frozen_of_heap kr.here 1
    have HO2 := Lib.hid o2
    have HK := Lib.hid kr
    clear o2 kr
    go_wp2
    refine bodyPost_ret (v := .agg #[.bool _, .slice A2 _ c2]) (by simp [results, Tryz.results48, go_sem, cz0, cz1]; exact ⟨rfl, rfl⟩) rfl ?_
    rw [← HV.out]
    exact newS_ret HK.out.here HO2.out bb1.size (by omega) bb2
  · have hmb : (n == -9223372036854775808) = false := by rw [beq_eq_false_iff_ne]; exact hmin
    by_cases hneg : n < 0
    · have HV := Lib.hid (ofZ_neg hneg)
      have hm2 : -9223372036854775807 ≤ n := by omega
      clear hmin h0
      go_enter Tryz.func48, Tryz.ntmps48
      go_wp2_with fail
      refine (specNatOf_any (-n) _ (by omega)).mono ?_
      rintro e w1 ⟨u1, rfl, o1, b1⟩
      have bb1 := Below.next hbb b1
      replace kr := kr.below b1
      go_wp2_with fail
      refine (l04Make_any _ _ (limbs (-n).toNat) _ _ (Nat.le_trans (limbs_length_le _ 3 (by show _ < (1000000000 * (1000000000 * (1000000000 * 1)) : Int); omega)) (by decide)) o1).mono ?_
      rintro e w2 ⟨u2, rfl, o2, b2⟩
      obtain ⟨A2, c2, rfl⟩ := own_len o2
      have bb2 := Below.next bb1 b2
      replace kr := kr.below b2
      have cz0 := kr.here.cell 0 _ rfl
      have cz1 := kr.here.cell 1 _ rfl
      have fz0 := Lib.frozen_of_heap kr.here 0
      have fz1 := Lib.frozen_of_heap kr.here 1
      have HO2 := Lib.hid o2
      have HK := Lib.hid kr
      clear o2 kr o1
      go_wp2
      refine bodyPost_ret (v := .agg #[.bool _, .slice A2 _ c2]) (by simp [results, Tryz.results48, go_sem, cz0, cz1]; exact ⟨rfl, rfl⟩) rfl ?_
      rw [← HV.out]
      exact newS_ret HK.out.here HO2.out bb1.size (by omega) bb2
    · have HV := Lib.hid (ofZ_pos hneg)
      clear hmin h0
      go_enter Tryz.func48, Tryz.ntmps48
      go_wp2_with fail
      refine (specNatOf_any n _ (by omega)).mono ?_
      rintro e w1 ⟨u1, rfl, o1, b1⟩
      have bb1 := Below.next hbb b1
      replace kr := kr.below b1
      go_wp2_with fail
      refine (l04Make_any _ _ (limbs n.toNat) _ _ (Nat.le_trans (limbs_length_le _ 3 (by show _ < (1000000000 * (1000000000 * (1000000000 * 1)) : Int); omega)) (by decide)) o1).mono ?_
      rintro e w2 ⟨u2, rfl, o2, b2⟩
      obtain ⟨A2, c2, rfl⟩ := own_len o2
      have bb2 := Below.next bb1 b2
      replace kr := kr.below b2
      have cz0 := kr.here.cell 0 _ rfl
      have cz1 := kr.here.cell 1 _ rfl
      have fz0 := Lib.frozen_of_heap kr.here 0
      have fz1 := Lib.frozen_of_heap kr.here 1
      have HO2 := Lib.hid o2
      have HK := Lib.hid kr
      clear o2 kr o1
      go_wp2
      refine bodyPost_ret (v := .agg #[.bool _, .slice A2 _ c2]) (by simp [results, Tryz.results48, go_sem, cz0, cz1]; exact ⟨rfl, rfl⟩) rfl ?_
      rw [← HV.out]
      exact newS_ret HK.out.here HO2.out bb1.size (by omega) bb2
end Go.Proofs.YtofehcpapdlcnabGreatDoor

namespace Go.Proofs.YtofehcpapdlcnabGreatDoor
open Go.RowKit

/-- what IntNum answers -/
def numS (x : SI) : Int × Bool := if okS x = true ∧ nval x.2 ≤ 9223372036854775807 then (valS x, true) else (0, false)

set_option maxHeartbeats 1000000 in
set_option maxRecDepth 100000 in
theorem specIntNum_any (v : Value) (x : SI) (w : World) (hl : x.2.length ≤ 1048576) (h : OwnS v x w) :
    Calls Tryz.prog 44 #[v] w fun e w' => e = .returned (.tuple #[.int .i64 (numS x).1, .bool (numS x).2]) ∧ Below w.heap.size w w' := by
  obtain ⟨u, rfl, ho⟩ := h
  obtain ⟨A, c, rfl⟩ := own_len ho
  have hbb : Below w.heap.size w (w.alloc (.cells #[.bool x.1, .slice A x.2.length c] 29)) := below_al (Below.refl _ _) _
  have kb := box_new w #[.bool x.1, .slice A x.2.length c] 29
  have hoB := own_below ho hbb
  have hrow := (ownI_of hoB).row
  by_cases hN : natOkB x.2 = true ∧ nval x.2 ≤ 9223372036854775807
  · have h0 := nval_ok hN.1
    have HI := Lib.hid (show natIntN x.2 = (nval x.2, true) by unfold natIntN; rw [if_pos hN])
    have h63 := hN.2
    by_cases ok : okS x = true
    · have HV := Lib.hid (show numS x = (valS x, true) by unfold numS; rw [if_pos ⟨ok, hN.2⟩])
      have HX := Lib.hid (show valS x = if x.1 = true then -(nval x.2) else nval x.2 from rfl)
      clear hN
      go_enter Tryz.func44, Tryz.ntmps44
      go_wp2_with fail
      refine (specNatInt_any _ x.2 0 _ _ hl (Nat.le_refl _) hrow).mono ?_
      rintro e w1 ⟨rfl, b1⟩
      rw [HI.out]
      have bb1 := Below.next hbb b1
      replace kb := kb.below b1
      have cb0 := kb.here.cell 0 _ rfl
      have cb1 := kb.here.cell 1 _ rfl
      have hrd : RdS w1 (.agg #[.bool x.1, .slice A x.2.length c]) x := (OwnS.mk (x := x) (ownI_of (own_below hoB b1))).rd
      clear hrow hoB ho
      go_wp2_with fail
      refine (specIntOk_any _ x w1 hl hrd).mono ?_
      rintro e w2 ⟨rfl, b2⟩
      rw [ok]
      have bb2 := Below.next bb1 b2
      replace kb := kb.below b2
      clear cb0 cb1 hrd
      have cb0 := kb.here.cell 0 _ rfl
      cases hx1 : x.1 with
      | false =>
        rw [hx1] at HX cb0
        clear hx1
        go_wp2
        go_ret2
        exact ⟨by rw [HV.out, HX.out]; rfl, bb2⟩
      | true =>
        rw [hx1] at HX cb0
        clear hx1
        go_wp2
        go_ret2
        exact ⟨by rw [HV.out, HX.out]; rfl, bb2⟩
    · have ok' : okS x = false := by simpa using ok
      have HV := Lib.hid (show numS x = (0, false) by unfold numS; rw [if_neg (fun h => ok h.1)])
      clear hN ok
      go_enter Tryz.func44, Tryz.ntmps44
      go_wp2_with fail
      refine (specNatInt_any _ x.2 0 _ _ hl (Nat.le_refl _) hrow).mono ?_
      rintro e w1 ⟨rfl, b1⟩
      rw [HI.out]
      have bb1 := Below.next hbb b1
      replace kb := kb.below b1
      have cb0 := kb.here.cell 0 _ rfl
      have cb1 := kb.here.cell 1 _ rfl
      have hrd : RdS w1 (.agg #[.bool x.1, .slice A x.2.length c]) x := (OwnS.mk (x := x) (ownI_of (own_below hoB b1))).rd
      clear hrow hoB ho
      go_wp2_with fail
      refine (specIntOk_any _ x w1 hl hrd).mono ?_
      rintro e w2 ⟨rfl, b2⟩
      rw [ok']
      have bb2 := Below.next bb1 b2
      go_wp2
      go_ret2
      exact ⟨by rw [HV.out]; rfl, bb2⟩
  · have HI := Lib.hid (show natIntN x.2 = (0, false) by unfold natIntN; rw [if_neg hN])
    have HV := Lib.hid (show numS x = (0, false) by unfold numS; rw [if_neg (fun h => hN ⟨(okS_parts h.1).1, h.2⟩)])
    clear hN
    go_enter Tryz.func44, Tryz.ntmps44
    go_wp2_with fail
    refine (specNatInt_any _ x.2 0 _ _ hl (Nat.le_refl _) hrow).mono ?_
    rintro e w1 ⟨rfl, b1⟩
    rw [HI.out]
    have bb1 := Below.next hbb b1
    clear hrow hoB ho
    go_wp2
    go_ret2
    exact ⟨by rw [HV.out]; rfl, bb1⟩

set_option maxHeartbeats 2000000 in
set_option maxRecDepth 100000 in
theorem specIntCmp_any (vx vy : Value) (x y : SI) (w : World) (hlx : x.2.length ≤ 1048576) (hly : y.2.length ≤ 1048576) (hx : OwnS vx x w) (hy : OwnS vy y w) :
    Calls Tryz.prog 85 #[vx, vy] w fun e w' => e = .returned (.int .i64 (cmpS x y)) ∧ Below w.heap.size w w' := by
  obtain ⟨ux, rfl, hox⟩ := hx
  obtain ⟨uy, rfl, hoy⟩ := hy
  obtain ⟨Ax, cx, rfl⟩ := own_len hox
  obtain ⟨Ay, cy, rfl⟩ := own_len hoy
  have hbb : Below w.heap.size w ((w.alloc (.cells #[.bool x.1, .slice Ax x.2.length cx] 29)).alloc (.cells #[.bool y.1, .slice Ay y.2.length cy] 29)) := below_al (below_al (Below.refl _ _) _) _
  have kx := (box_new w #[.bool x.1, .slice Ax x.2.length cx] 29).below (below_al (Below.refl _ _) (.cells #[.bool y.1, .slice Ay y.2.length cy] 29))
  have ky := box_new (w.alloc (.cells #[.bool x.1, .slice Ax x.2.length cx] 29)) #[.bool y.1, .slice Ay y.2.length cy] 29
  rw [show (w.alloc (.cells #[.bool x.1, .slice Ax x.2.length cx] 29)).heap.size = w.heap.size + 1 by simp] at ky
  have ox := own_below hox hbb
  have oy := own_below hoy hbb
  have rdx := (OwnS.mk (x := x) (ownI_of ox)).rd
  clear hox hoy
  by_cases okx : okS x = true
  · go_enter Tryz.func85, Tryz.ntmps85
    go_wp2_with fail
    refine (specIntOk_any _ x _ hlx rdx).mono ?_
    rintro e w1 ⟨rfl, b1⟩
    rw [okx]
    have bb1 := Below.next hbb b1
    replace kx := kx.below b1
    replace ky := ky.below b1
    replace ox := own_below ox b1
    replace oy := own_below oy b1
    have cy0 := ky.here.cell 0 _ rfl
    have cy1 := ky.here.cell 1 _ rfl
    clear rdx
    go_wp2_with fail
    refine (specIntOk_any _ y w1 hly (OwnS.mk (x := y) (ownI_of oy)).rd).mono ?_
    rintro e w2 ⟨rfl, b2⟩
    have bb2 := Below.next bb1 b2
    replace kx := kx.below b2
    replace ky := ky.below b2
    replace ox := own_below ox b2
    replace oy := own_below oy b2
    clear cy0 cy1
    by_cases oky : okS y = true
    · rw [oky]
      have HV := Lib.hid (show cmpS x y = cmpI (valS x) (valS y) by unfold cmpS; rw [if_pos ⟨okx, oky⟩])
      have px := okS_parts okx
      have py := okS_parts oky
      have h0x := nval_ok px.1
      have h0y := nval_ok py.1
      have Dx := Lib.hid (natOk_parts px.1)
      have Dy := Lib.hid (natOk_parts py.1)
      have cx0 := kx.here.cell 0 _ rfl
      have cx1 := kx.here.cell 1 _ rfl
      have cy0 := ky.here.cell 0 _ rfl
      have cy1 := ky.here.cell 1 _ rfl
      have hpx : x.1 = true → 0 < nval x.2 := fun h => okS_pos okx (px.2 h)
      have hpy : y.1 = true → 0 < nval y.2 := fun h => okS_pos oky (py.2 h)
      have HPX := Lib.hid hpx
      have HPY := Lib.hid hpy
      have rx := (ownI_of ox).row
      have ry := (ownI_of oy).row
      clear px py hpx hpy okx oky kx ky
      cases hx1 : x.1 <;> cases hy1 : y.1
      · rw [hx1] at cx0
        rw [hy1] at cy0
        have HC := Lib.hid (show cmpI (valS x) (valS y) = cmpI (nval x.2) (nval y.2) by unfold valS; rw [hx1, hy1]; rfl)
        clear hx1 hy1
        go_wp2_with fail
        refine (specCmp_any _ _ x.2 y.2 0 _ 0 _ w2 hlx hly ⟨Dx.out.1, Dx.out.2.2⟩ ⟨Dy.out.1, Dy.out.2.2⟩ rx ry).mono ?_
        rintro e w' ⟨rfl, q, rfl⟩
        go_wp2
        go_ret
        exact ⟨ret_int (by rw [HV.out, HC.out]), below_drewN bb2 q⟩
      · rw [hx1] at cx0
        rw [hy1] at cy0
        have HC := Lib.hid (show cmpI (valS x) (valS y) = 1 by have := HPY.out hy1; unfold valS; rw [hx1, hy1]; simp; unfold cmpI; rw [if_neg (by omega), if_pos (by omega)])
        clear hx1 hy1
        go_wp2
        go_ret
        exact ⟨ret_int (by rw [HV.out, HC.out]), bb2⟩
      · rw [hx1] at cx0
        rw [hy1] at cy0
        have HC := Lib.hid (show cmpI (valS x) (valS y) = -1 by have := HPX.out hx1; unfold valS; rw [hx1, hy1]; simp; unfold cmpI; rw [if_pos (by omega)])
        clear hx1 hy1
        go_wp2
        go_ret
        exact ⟨ret_int (by rw [HV.out, HC.out]), bb2⟩
      · rw [hx1] at cx0
        rw [hy1] at cy0
        have HC := Lib.hid (show cmpI (valS x) (valS y) = cmpI (nval y.2) (nval x.2) by unfold valS; rw [hx1, hy1]; simp; unfold cmpI; split <;> split <;> (try split) <;> (try split) <;> omega)
        clear hx1 hy1
        go_wp2_with fail
        refine (specCmp_any _ _ y.2 x.2 0 _ 0 _ w2 hly hlx ⟨Dy.out.1, Dy.out.2.2⟩ ⟨Dx.out.1, Dx.out.2.2⟩ ry rx).mono ?_
        rintro e w' ⟨rfl, q, rfl⟩
        go_wp2
        go_ret
        exact ⟨ret_int (by rw [HV.out, HC.out]), below_drewN bb2 q⟩
    · have oky' : okS y = false := by simpa using oky
      have HV := Lib.hid (show cmpS x y = 0 by unfold cmpS; rw [if_neg (fun h => oky h.2)])
      rw [oky']
      clear oky kx ky
      go_wp2
      go_ret
      exact ⟨ret_int HV.out.symm, bb2⟩
  · have okx' : okS x = false := by simpa using okx
    have HV := Lib.hid (show cmpS x y = 0 by unfold cmpS; rw [if_neg (fun h => okx h.1)])
    clear okx
    go_enter Tryz.func85, Tryz.ntmps85
    go_wp2_with fail
    refine (specIntOk_any _ x _ hlx rdx).mono ?_
    rintro e w1 ⟨rfl, b1⟩
    rw [okx']
    have bb1 := Below.next hbb b1
    clear kx ky rdx
    go_wp2
    go_ret
    exact ⟨ret_int HV.out.symm, bb1⟩

end Go.Proofs.YtofehcpapdlcnabGreatDoor

namespace Go.Proofs.YtofehcpapdlcnabGreatDoor
open Go.RowKit

theorem At.behind {S : List Nat} {φ : World → Prop} {w w1 w2 : World} (h : At S φ w) (hb : Below w1.heap.size w1 w2) (hh : w1.heap = w.heap) : At S φ w2 :=
  (At.move (w' := w1) h (fun _ _ => by rw [hh]) (by rw [hh]; exact Nat.le_refl _)).below hb
theorem Chg.drew1 {T : List Nat} {w w1 : World} (h : Chg T w w1) : Chg T w w1.drew := ⟨h.os, h.tape, h.output, h.size, h.block⟩
theorem mk_add {n : Bool} {a b : List Int} (oa : natOkB a = true) (ob : natOkB b = true) : mkS n (trimL (addL a b 0)) = ofZ (if n = true then -(nval a + nval b) else nval a + nval b) := by
  have hv := addL_val a b 0 (natOk_parts oa).1 (natOk_parts ob).1 (by omega) (by omega)
  have h1 := nval_ok oa
  have h2 := nval_ok ob
  rw [trim_limbs _ hv.2.1, hv.1, mkS_limbs]
  congr 1
  split <;> omega
theorem mk_sub {n : Bool} {a b : List Int} (oa : natOkB a = true) (ob : natOkB b = true) (hle : nval b ≤ nval a) : mkS n (trimL (trimL (subL a b 0))) = ofZ (if n = true then -(nval a - nval b) else nval a - nval b) ∧ (subL a b 0).length = a.length := by
  have pa := natOk_parts oa
  have pb := natOk_parts ob
  have hll := len_of_le a b pa.1 ⟨pb.1, pb.2.2⟩ hle
  have hv := subL_val a b 0 pa.1 pb.1 hll (by omega) (by omega) (by omega)
  have h1 := nval_ok oa
  have h2 := nval_ok ob
  refine ⟨?_, hv.2.2⟩
  rw [trim_limbs (subL a b 0) hv.2.1, trimL_limbs, hv.1, mkS_limbs]
  congr 1
  split <;> omega

set_option maxHeartbeats 4000000 in
set_option maxRecDepth 100000 in
theorem l04Add_any (vx vy : Value) (x y : SI) (w : World) (okx : okS x = true) (oky : okS y = true) (hx : OwnS vx x w) (hy : OwnS vy y w) :
    Calls Tryz.prog 83 #[vx, vy] w (NewS (ofZ (valS x + valS y)) w) := by
  obtain ⟨ux, rfl, hox⟩ := hx
  obtain ⟨uy, rfl, hoy⟩ := hy
  obtain ⟨Ax, cx, rfl⟩ := own_len hox
  obtain ⟨Ay, cy, rfl⟩ := own_len hoy
  have px := okS_parts okx
  have py := okS_parts oky
  have DX := natOk_parts px.1
  have DY := natOk_parts py.1
  have hlx := DX.2.1
  have hly := DY.2.1
  have Dx := Lib.hid DX
  have Dy := Lib.hid DY
  obtain ⟨W0, hW0⟩ : ∃ W0, W0 = ((w.alloc (.cells #[.bool x.1, .slice Ax x.2.length cx] 29)).alloc (.cells #[.bool y.1, .slice Ay y.2.length cy] 29)).alloc (.cells #[.bool false, .slice none 0 0] 29) := ⟨_, rfl⟩
  have hbb : Below w.heap.size w W0 := by rw [hW0]; exact below_al (below_al (below_al (Below.refl _ _) _) _) _
  have h3 := alloc3 w (.cells #[.bool x.1, .slice Ax x.2.length cx] 29) (.cells #[.bool y.1, .slice Ay y.2.length cy] 29) (.cells #[.bool false, .slice none 0 0] 29)
  rw [← hW0] at h3
  have kx : At [w.heap.size] (BoxAt w.heap.size #[.bool x.1, .slice Ax x.2.length cx] 29) W0 := box_at h3.1
  have ky : At [w.heap.size + 1] (BoxAt (w.heap.size + 1) #[.bool y.1, .slice Ay y.2.length cy] 29) W0 := box_at h3.2.1
  have kr : At [w.heap.size + 1 + 1] (BoxAt (w.heap.size + 1 + 1) #[.bool false, .slice none 0 0] 29) W0 := box_at h3.2.2.1
  have atx := own_at hox
  have aty := own_at hoy
  have ltx := atx.lt
  have lty := aty.lt
  have OFx := Lib.hid (show ∀ W, Chg [w.heap.size + 1 + 1] W0 W → OwnI (.slice Ax x.2.length cx) x.2 W from fun W hc => ((atx.below hbb).chg hc (fun i hi hm => by have := ltx i hi; simp at hm; omega)).here)
  have OFy := Lib.hid (show ∀ W, Chg [w.heap.size + 1 + 1] W0 W → OwnI (.slice Ay y.2.length cy) y.2 W from fun W hc => ((aty.below hbb).chg hc (fun i hi hm => by have := lty i hi; simp at hm; omega)).here)
  have KL := Lib.hid (show ∀ W, Chg [w.heap.size + 1 + 1] W0 W → W.cell? ⟨w.heap.size, 0, none⟩ = some (.bool x.1) ∧ W.cell? ⟨w.heap.size, 1, none⟩ = some (.slice Ax x.2.length cx) ∧ W.cell? ⟨w.heap.size + 1, 0, none⟩ = some (.bool y.1) ∧ W.cell? ⟨w.heap.size + 1, 1, none⟩ = some (.slice Ay y.2.length cy) ∧ Hid (Chg [w.heap.size + 1 + 1] W0 W) from
    fun W hc => ⟨(kx.chg hc (fun i hi hm => by simp at hi hm; omega)).here.cell 0 _ rfl, (kx.chg hc (fun i hi hm => by simp at hi hm; omega)).here.cell 1 _ rfl, (ky.chg hc (fun i hi hm => by simp at hi hm; omega)).here.cell 0 _ rfl, (ky.chg hc (fun i hi hm => by simp at hi hm; omega)).here.cell 1 _ rfl, Lib.hid hc⟩)
  have HW := Lib.hid hW0
  clear h3 atx aty ltx lty DX DY hW0
  by_cases hs : x.1 = y.1
  · have HV : Hid (mkS x.1 (trimL (addL x.2 y.2 0)) = ofZ (valS x + valS y)) := Lib.hid (by
      rw [mk_add px.1 py.1]
      unfold valS
      rw [← hs]
      congr 1
      split <;> omega)
    have hsb : (x.1 == y.1) = true := by rw [hs]; simp
    have hal := (addL_val x.2 y.2 0 Dx.out.1 Dy.out.1 (by omega) (by omega)).2.2
    have cx0 := kx.here.cell 0 _ rfl
    have cx1 := kx.here.cell 1 _ rfl
    have cy0 := ky.here.cell 0 _ rfl
    have cy1 := ky.here.cell 1 _ rfl
    clear hs px py hox hoy okx oky
    go_enter Tryz.func83, Tryz.ntmps83
    go_wp2_with fail
    rw [← HW.out]
    clear cx0 cx1 cy0 cy1
    go_region_held3 (fun W => W.cell? ⟨w.heap.size, 0, none⟩ = some (.bool x.1) ∧ W.cell? ⟨w.heap.size, 1, none⟩ = some (.slice Ax x.2.length cx) ∧ W.cell? ⟨w.heap.size + 1, 0, none⟩ = some (.bool y.1) ∧ W.cell? ⟨w.heap.size + 1, 1, none⟩ = some (.slice Ay y.2.length cy) ∧ Hid (Chg [w.heap.size + 1 + 1] W0 W))
      ((refine KL.out _ ?_; (first | exact HC2.out | exact HC1.out | exact (Chg.setCell (Chg.setCell HC2.out (by simp) _) (by simp) _) | exact Chg.drew1 HC0.out | exact ⟨rfl, rfl, rfl, Nat.le_refl _, fun _ _ _ => rfl⟩ | fail)))
      (first
        | (go_at_call 112; (have hBB := (‹_ ∧ _ ∧ _ ∧ _ ∧ Hid (Chg [w.heap.size + 1 + 1] W0 _)›).2.2.2.2); (with_reducible refine (specAdd_any _ _ x.2 y.2 0 _ 0 _ _ (by omega) (by omega) (Nat.le_refl _) (Nat.le_refl _) Dx.out.1 Dy.out.1 (OFx.out _ hBB.out).row (OFy.out _ hBB.out).row).mono ?_); rintro e w3 ⟨u3, rfl, o3, b3⟩; have HC1 := Lib.hid (hBB.out.trans (Chg.of_below b3)); (have kr3 := At.behind kr b3 rfl); obtain ⟨A3, c3, rfl⟩ := own_len o3; clear hBB)
        | (go_at_call 82; (have hBB := (‹_ ∧ _ ∧ _ ∧ _ ∧ Hid (Chg [w.heap.size + 1 + 1] W0 _)›).2.2.2.2); (with_reducible refine (l04Make_any _ _ (addL x.2 y.2 0) _ _ (by omega) o3).mono ?_); rintro e w4 ⟨u4, rfl, o4, b4⟩; have HC2 := Lib.hid (hBB.out.trans (Chg.of_below b4)); (have kr4 := kr3.below b4); (have cz0 := kr4.here.cell 0 _ rfl); (have cz1 := kr4.here.cell 1 _ rfl); (have fz0 := Lib.frozen_of_heap kr4.here 0); (have fz1 := Lib.frozen_of_heap kr4.here 1); obtain ⟨A4, c4, rfl⟩ := own_len o4; clear hBB))
    have HO4 := Lib.hid o4
    have HK := Lib.hid kr4
    have HW0 := HW.out
    have hB4 : w.heap.size ≤ w3.heap.size := by have h1 := HC1.out.size; have h2 := hbb.size; omega
    have hBW : Below w.heap.size w w4 := below_chg hbb HC2.out hbb.size (fun g hg => by simp at hg; omega)
    have HB4 := Lib.hid hB4
    have HBW := Lib.hid hBW
    clear o4 kr4 kr3 o3 b3 b4 hB4 hBW kr kx ky HW0
    go_wp2
    refine bodyPost_ret (v := .agg #[.bool _, .slice A4 _ c4]) (by simp [results, Tryz.results83, go_sem, cz0, cz1]; exact ⟨rfl, rfl⟩) rfl ?_
    rw [← HV.out]
    exact newS_ret HK.out.here HO4.out HB4.out (by omega) HBW.out
  · have HS := Lib.hid hs
    have hsb : (x.1 == y.1) = false := by rw [beq_eq_false_iff_ne]; exact hs
    have h0x := nval_ok px.1
    have h0y := nval_ok py.1
    clear hs
    by_cases hle : nval y.2 ≤ nval x.2
    · have hle' : nval y.2 ≤ nval x.2 := by omega
      have hms := mk_sub (n := x.1) px.1 py.1 hle'
      have HV : Hid (mkS x.1 (trimL (trimL (subL x.2 y.2 0))) = ofZ (valS x + valS y)) := Lib.hid (by
        rw [hms.1]
        congr 1
        have hd := HS.out
        unfold valS
        cases hx1 : x.1 <;> cases hy1 : y.1 <;> simp_all <;> omega)
      have HSL := Lib.hid hms.2
      have hal := trimL_length (subL x.2 y.2 0)
      rw [hms.2] at hal
      have hz : 0 ≤ cmpI (nval x.2) (nval y.2) := by unfold cmpI; split <;> (try split) <;> omega
      have cx0 := kx.here.cell 0 _ rfl
      have cx1 := kx.here.cell 1 _ rfl
      have cy0 := ky.here.cell 0 _ rfl
      have cy1 := ky.here.cell 1 _ rfl
      have rx := (OFx.out W0 (Chg.refl _ _)).row
      have ry := (OFy.out W0 (Chg.refl _ _)).row
      clear px py hox hoy okx oky hms hle hle'
      go_enter Tryz.func83, Tryz.ntmps83
      go_wp2_with fail
      rw [← HW.out]
      refine (specCmp_any _ _ x.2 y.2 0 _ 0 _ W0 (by omega) (by omega) ⟨Dx.out.1, Dx.out.2.2⟩ ⟨Dy.out.1, Dy.out.2.2⟩ rx ry).mono ?_
      rintro e w' ⟨rfl, q, rfl⟩
      generalize cmpI (nval x.2) (nval y.2) = z at *
      clear rx ry
      obtain ⟨W1, hW1⟩ : ∃ W1, W1 = W0.drewN q := ⟨_, rfl⟩
      have HC0 := Lib.hid (show Chg [w.heap.size + 1 + 1] W0 W1 by rw [hW1]; exact ⟨rfl, rfl, rfl, Nat.le_refl _, fun _ _ _ => rfl⟩)
      replace kr := At.move (w' := W1) kr (fun _ _ => by rw [hW1]; rfl) (by rw [hW1]; exact Nat.le_refl _)
      have kl := KL.out W1 HC0.out
      have cx0' := kl.1
      have cx1' := kl.2.1
      have cy0' := kl.2.2.1
      have cy1' := kl.2.2.2.1
      rw [← hW1]
      clear hW1 kl cx0 cx1 cy0 cy1
      go_wp2_with fail
      clear cx0' cx1' cy0' cy1'
      go_region_held3 (fun W => W.cell? ⟨w.heap.size, 0, none⟩ = some (.bool x.1) ∧ W.cell? ⟨w.heap.size, 1, none⟩ = some (.slice Ax x.2.length cx) ∧ W.cell? ⟨w.heap.size + 1, 0, none⟩ = some (.bool y.1) ∧ W.cell? ⟨w.heap.size + 1, 1, none⟩ = some (.slice Ay y.2.length cy) ∧ Hid (Chg [w.heap.size + 1 + 1] W0 W))
        ((refine KL.out _ ?_; (first | exact HC2.out | exact HC1.out | exact (Chg.setCell (Chg.setCell HC2.out (by simp) _) (by simp) _) | exact Chg.drew1 HC0.out | exact ⟨rfl, rfl, rfl, Nat.le_refl _, fun _ _ _ => rfl⟩ | fail)))
        (first
          | (go_at_call 116; (have hBB := (‹_ ∧ _ ∧ _ ∧ _ ∧ Hid (Chg [w.heap.size + 1 + 1] W0 _)›).2.2.2.2); (with_reducible refine (specSub_any _ _ x.2 y.2 0 _ 0 _ _ (by omega) (by omega) (Nat.le_refl _) (Nat.le_refl _) Dx.out.1 Dy.out.1 (OFx.out _ hBB.out).row (OFy.out _ hBB.out).row HSL.out).mono ?_); rintro e w3 ⟨u3, rfl, o3, b3⟩; have HC1 := Lib.hid (hBB.out.trans (Chg.of_below b3)); (have kr3 := At.behind kr b3 rfl); obtain ⟨A3, c3, rfl⟩ := own_len o3; clear hBB)
          | (go_at_call 82; (have hBB := (‹_ ∧ _ ∧ _ ∧ _ ∧ Hid (Chg [w.heap.size + 1 + 1] W0 _)›).2.2.2.2); (with_reducible refine (l04Make_any _ _ (trimL (subL x.2 y.2 0)) _ _ (by omega) o3).mono ?_); rintro e w4 ⟨u4, rfl, o4, b4⟩; have HC2 := Lib.hid (hBB.out.trans (Chg.of_below b4)); (have kr4 := kr3.below b4); (have cz0 := kr4.here.cell 0 _ rfl); (have cz1 := kr4.here.cell 1 _ rfl); (have fz0 := Lib.frozen_of_heap kr4.here 0); (have fz1 := Lib.frozen_of_heap kr4.here 1); obtain ⟨A4, c4, rfl⟩ := own_len o4; clear hBB))
      have HO4 := Lib.hid o4
      have HK := Lib.hid kr4
      have HW0 := HW.out
      have hB4 : w.heap.size ≤ w3.heap.size := by have h1 := HC1.out.size; have h2 := hbb.size; omega
      have hBW : Below w.heap.size w w4 := below_chg hbb HC2.out hbb.size (fun g hg => by simp at hg; omega)
      have HB4 := Lib.hid hB4
      have HBW := Lib.hid hBW
      clear o4 kr4 kr3 o3 b3 b4 hB4 hBW kr kx ky HW0
      go_wp2
      refine bodyPost_ret (v := .agg #[.bool _, .slice A4 _ c4]) (by simp [results, Tryz.results83, go_sem, cz0, cz1]; exact ⟨rfl, rfl⟩) rfl ?_
      rw [← HV.out]
      exact newS_ret HK.out.here HO4.out HB4.out (by omega) HBW.out
    · have hle' : nval x.2 ≤ nval y.2 := by omega
      have hms := mk_sub (n := y.1) py.1 px.1 hle'
      have HV : Hid (mkS y.1 (trimL (trimL (subL y.2 x.2 0))) = ofZ (valS x + valS y)) := Lib.hid (by
        rw [hms.1]
        congr 1
        have hd := HS.out
        unfold valS
        cases hx1 : x.1 <;> cases hy1 : y.1 <;> simp_all <;> omega)
      have HSL := Lib.hid hms.2
      have hal := trimL_length (subL y.2 x.2 0)
      rw [hms.2] at hal
      have hz : cmpI (nval x.2) (nval y.2) < 0 := by unfold cmpI; split <;> (try split) <;> omega
      have cx0 := kx.here.cell 0 _ rfl
      have cx1 := kx.here.cell 1 _ rfl
      have cy0 := ky.here.cell 0 _ rfl
      have cy1 := ky.here.cell 1 _ rfl
      have rx := (OFx.out W0 (Chg.refl _ _)).row
      have ry := (OFy.out W0 (Chg.refl _ _)).row
      clear px py hox hoy okx oky hms hle hle'
      go_enter Tryz.func83, Tryz.ntmps83
      go_wp2_with fail
      rw [← HW.out]
      refine (specCmp_any _ _ x.2 y.2 0 _ 0 _ W0 (by omega) (by omega) ⟨Dx.out.1, Dx.out.2.2⟩ ⟨Dy.out.1, Dy.out.2.2⟩ rx ry).mono ?_
      rintro e w' ⟨rfl, q, rfl⟩
      generalize cmpI (nval x.2) (nval y.2) = z at *
      clear rx ry
      obtain ⟨W1, hW1⟩ : ∃ W1, W1 = W0.drewN q := ⟨_, rfl⟩
      have HC0 := Lib.hid (show Chg [w.heap.size + 1 + 1] W0 W1 by rw [hW1]; exact ⟨rfl, rfl, rfl, Nat.le_refl _, fun _ _ _ => rfl⟩)
      replace kr := At.move (w' := W1) kr (fun _ _ => by rw [hW1]; rfl) (by rw [hW1]; exact Nat.le_refl _)
      have kl := KL.out W1 HC0.out
      have cx0' := kl.1
      have cx1' := kl.2.1
      have cy0' := kl.2.2.1
      have cy1' := kl.2.2.2.1
      rw [← hW1]
      clear hW1 kl cx0 cx1 cy0 cy1
      go_wp2_with fail
      clear cx0' cx1' cy0' cy1'
      go_region_held3 (fun W => W.cell? ⟨w.heap.size, 0, none⟩ = some (.bool x.1) ∧ W.cell? ⟨w.heap.size, 1, none⟩ = some (.slice Ax x.2.length cx) ∧ W.cell? ⟨w.heap.size + 1, 0, none⟩ = some (.bool y.1) ∧ W.cell? ⟨w.heap.size + 1, 1, none⟩ = some (.slice Ay y.2.length cy) ∧ Hid (Chg [w.heap.size + 1 + 1] W0 W))
        ((refine KL.out _ ?_; (first | exact HC2.out | exact HC1.out | exact (Chg.setCell (Chg.setCell HC2.out (by simp) _) (by simp) _) | exact Chg.drew1 HC0.out | exact ⟨rfl, rfl, rfl, Nat.le_refl _, fun _ _ _ => rfl⟩ | fail)))
        (first
          | (go_at_call 116; (have hBB := (‹_ ∧ _ ∧ _ ∧ _ ∧ Hid (Chg [w.heap.size + 1 + 1] W0 _)›).2.2.2.2); (with_reducible refine (specSub_any _ _ y.2 x.2 0 _ 0 _ _ (by omega) (by omega) (Nat.le_refl _) (Nat.le_refl _) Dy.out.1 Dx.out.1 (OFy.out _ hBB.out).row (OFx.out _ hBB.out).row HSL.out).mono ?_); rintro e w3 ⟨u3, rfl, o3, b3⟩; have HC1 := Lib.hid (hBB.out.trans (Chg.of_below b3)); (have kr3 := At.behind kr b3 rfl); obtain ⟨A3, c3, rfl⟩ := own_len o3; clear hBB)
          | (go_at_call 82; (have hBB := (‹_ ∧ _ ∧ _ ∧ _ ∧ Hid (Chg [w.heap.size + 1 + 1] W0 _)›).2.2.2.2); (with_reducible refine (l04Make_any _ _ (trimL (subL y.2 x.2 0)) _ _ (by omega) o3).mono ?_); rintro e w4 ⟨u4, rfl, o4, b4⟩; have HC2 := Lib.hid (hBB.out.trans (Chg.of_below b4)); (have kr4 := kr3.below b4); (have cz0 := kr4.here.cell 0 _ rfl); (have cz1 := kr4.here.cell 1 _ rfl); (have fz0 := Lib.frozen_of_heap kr4.here 0); (have fz1 := Lib.frozen_of_heap kr4.here 1); obtain ⟨A4, c4, rfl⟩ := own_len o4; clear hBB))
      have HO4 := Lib.hid o4
      have HK := Lib.hid kr4
      have HW0 := HW.out
      have hB4 : w.heap.size ≤ w3.heap.size := by have h1 := HC1.out.size; have h2 := hbb.size; omega
      have hBW : Below w.heap.size w w4 := below_chg hbb HC2.out hbb.size (fun g hg => by simp at hg; omega)
      have HB4 := Lib.hid hB4
      have HBW := Lib.hid hBW
      clear o4 kr4 kr3 o3 b3 b4 hB4 hBW kr kx ky HW0
      go_wp2
      refine bodyPost_ret (v := .agg #[.bool _, .slice A4 _ c4]) (by simp [results, Tryz.results83, go_sem, cz0, cz1]; exact ⟨rfl, rfl⟩) rfl ?_
      rw [← HV.out]
      exact newS_ret HK.out.here HO4.out HB4.out (by omega) HBW.out

set_option maxHeartbeats 4000000 in
set_option maxRecDepth 100000 in
theorem specIntAdd_any (vx vy : Value) (x y : SI) (w : World) (hlx : x.2.length ≤ 1048576) (hly : y.2.length ≤ 1048576) (hx : OwnS vx x w) (hy : OwnS vy y w) :
    Calls Tryz.prog 51 #[vx, vy] w (NewS (addS x y) w) := by
  obtain ⟨ux, rfl, hox⟩ := hx
  obtain ⟨uy, rfl, hoy⟩ := hy
  obtain ⟨Ax, cx, rfl⟩ := own_len hox
  obtain ⟨Ay, cy, rfl⟩ := own_len hoy
  obtain ⟨W0, hW0⟩ : ∃ W0, W0 = ((w.alloc (.cells #[.bool x.1, .slice Ax x.2.length cx] 29)).alloc (.cells #[.bool y.1, .slice Ay y.2.length cy] 29)).alloc (.cells #[.bool false, .slice none 0 0] 29) := ⟨_, rfl⟩
  have hbb : Below w.heap.size w W0 := by rw [hW0]; exact below_al (below_al (below_al (Below.refl _ _) _) _) _
  have h3 := alloc3 w (.cells #[.bool x.1, .slice Ax x.2.length cx] 29) (.cells #[.bool y.1, .slice Ay y.2.length cy] 29) (.cells #[.bool false, .slice none 0 0] 29)
  rw [← hW0] at h3
  have kx : At [w.heap.size] (BoxAt w.heap.size #[.bool x.1, .slice Ax x.2.length cx] 29) W0 := box_at h3.1
  have ky : At [w.heap.size + 1] (BoxAt (w.heap.size + 1) #[.bool y.1, .slice Ay y.2.length cy] 29) W0 := box_at h3.2.1
  have kr : At [w.heap.size + 1 + 1] (BoxAt (w.heap.size + 1 + 1) #[.bool false, .slice none 0 0] 29) W0 := box_at h3.2.2.1
  have atx := own_at hox
  have aty := own_at hoy
  have ltx := atx.lt
  have lty := aty.lt
  have OFx := Lib.hid (show ∀ W, Chg [w.heap.size + 1 + 1] W0 W → OwnI (.slice Ax x.2.length cx) x.2 W from fun W hc => ((atx.below hbb).chg hc (fun i hi hm => by have := ltx i hi; simp at hm; omega)).here)
  have OFy := Lib.hid (show ∀ W, Chg [w.heap.size + 1 + 1] W0 W → OwnI (.slice Ay y.2.length cy) y.2 W from fun W hc => ((aty.below hbb).chg hc (fun i hi hm => by have := lty i hi; simp at hm; omega)).here)
  have KL := Lib.hid (show ∀ W, Chg [w.heap.size + 1 + 1] W0 W → W.cell? ⟨w.heap.size, 0, none⟩ = some (.bool x.1) ∧ W.cell? ⟨w.heap.size, 1, none⟩ = some (.slice Ax x.2.length cx) ∧ W.cell? ⟨w.heap.size + 1, 0, none⟩ = some (.bool y.1) ∧ W.cell? ⟨w.heap.size + 1, 1, none⟩ = some (.slice Ay y.2.length cy) ∧ Hid (Chg [w.heap.size + 1 + 1] W0 W) from
    fun W hc => ⟨(kx.chg hc (fun i hi hm => by simp at hi hm; omega)).here.cell 0 _ rfl, (kx.chg hc (fun i hi hm => by simp at hi hm; omega)).here.cell 1 _ rfl, (ky.chg hc (fun i hi hm => by simp at hi hm; omega)).here.cell 0 _ rfl, (ky.chg hc (fun i hi hm => by simp at hi hm; omega)).here.cell 1 _ rfl, Lib.hid hc⟩)
  have HW := Lib.hid hW0
  have RDx := (OwnS.mk (x := x) (OFx.out W0 (Chg.refl _ _))).rd
  have RDy := Lib.hid (show ∀ W, Below W0.heap.size W0 W → RdS W (.agg #[.bool y.1, .slice Ay y.2.length cy]) y from fun W hb => (OwnS.mk (x := y) (OFy.out W (Chg.of_below hb))).rd)
  have cx0 := kx.here.cell 0 _ rfl
  have cx1 := kx.here.cell 1 _ rfl
  have cy0 := ky.here.cell 0 _ rfl
  have cy1 := ky.here.cell 1 _ rfl
  have frz := Lib.frozen_of_heap kr.here
  clear h3 atx aty ltx lty hW0 hox hoy
  by_cases okx : okS x = true
  · by_cases oky : okS y = true
    · have HV := Lib.hid (show addS x y = ofZ (valS x + valS y) by unfold addS; rw [if_pos ⟨okx, oky⟩])
      go_enter Tryz.func51, Tryz.ntmps51
      go_wp2_with fail
      rw [← HW.out]
      refine (specIntOk_any _ x W0 hlx RDx).mono ?_
      rintro e w1 ⟨rfl, b1⟩
      rw [okx]
      have bb1 := Below.next hbb b1
      replace kx := kx.below b1
      replace ky := ky.below b1
      replace kr := kr.below b1
      clear cx0 cx1 cy0 cy1
      have cx0 := kx.here.cell 0 _ rfl
      have cx1 := kx.here.cell 1 _ rfl
      have cy0 := ky.here.cell 0 _ rfl
      have cy1 := ky.here.cell 1 _ rfl
      go_wp2_with fail
      refine (specIntOk_any _ y w1 hly (RDy.out w1 b1)).mono ?_
      rintro e w2 ⟨rfl, b2⟩
      rw [oky]
      have bb2 := Below.next bb1 b2
      have b02 := Below.next b1 b2
      replace kx := kx.below b2
      replace ky := ky.below b2
      replace kr := kr.below b2
      clear cx0 cx1 cy0 cy1
      have cx0 := kx.here.cell 0 _ rfl
      have cx1 := kx.here.cell 1 _ rfl
      have cy0 := ky.here.cell 0 _ rfl
      have cy1 := ky.here.cell 1 _ rfl
      go_wp2_with fail
      refine (l04Add_any _ _ x y w2 okx oky (OwnS.mk (x := x) (OFx.out w2 (Chg.of_below b02))) (OwnS.mk (x := y) (OFy.out w2 (Chg.of_below b02)))).mono ?_
      rintro e w3 ⟨u3, rfl, o3, b3⟩
      obtain ⟨A3, c3, rfl⟩ := own_len o3
      have bb3 := Below.next bb2 b3
      replace kr := kr.below b3
      clear cx0 cx1 cy0 cy1 kx ky
      have HO := Lib.hid o3
      have HBB := Lib.hid bb3
      have HK := Lib.hid kr
      have cz0 := kr.here.cell 0 _ rfl
      have cz1 := kr.here.cell 1 _ rfl
      have fz0 := Lib.frozen_of_heap kr.here 0
      have fz1 := Lib.frozen_of_heap kr.here 1
      clear o3 bb3 kr
      go_wp2
      refine bodyPost_ret (v := .agg #[.bool _, .slice A3 _ c3]) (by simp [results, Tryz.results51, go_sem, cz0, cz1]; exact ⟨rfl, rfl⟩) rfl ?_
      rw [HV.out]
      exact newS_ret HK.out.here HO.out bb2.size (by omega) HBB.out
    · have oky2 : okS y = false := by simpa using oky
      have HV := Lib.hid (show addS x y = zeroS by unfold addS; rw [if_neg (fun h => oky h.2)])
      clear oky
      go_enter Tryz.func51, Tryz.ntmps51
      go_wp2_with fail
      rw [← HW.out]
      refine (specIntOk_any _ x W0 hlx RDx).mono ?_
      rintro e w1 ⟨rfl, b1⟩
      rw [okx]
      have bb1 := Below.next hbb b1
      replace kx := kx.below b1
      replace ky := ky.below b1
      replace kr := kr.below b1
      clear cx0 cx1 cy0 cy1
      have cx0 := kx.here.cell 0 _ rfl
      have cx1 := kx.here.cell 1 _ rfl
      have cy0 := ky.here.cell 0 _ rfl
      have cy1 := ky.here.cell 1 _ rfl
      go_wp2_with fail
      refine (specIntOk_any _ y w1 hly (RDy.out w1 b1)).mono ?_
      rintro e w2 ⟨rfl, b2⟩
      rw [oky2]
      have bb2 := Below.next bb1 b2
      replace kr := kr.below b2
      clear cx0 cx1 cy0 cy1
      have cz0 := kr.here.cell 0 _ rfl
      have cz1 := kr.here.cell 1 _ rfl
      have fz0 := Lib.frozen_of_heap kr.here 0
      have fz1 := Lib.frozen_of_heap kr.here 1
      have HBB := Lib.hid bb2
      clear kx ky kr
      go_wp2
      refine bodyPost_ret (v := .agg #[.bool false, .slice none 0 0]) (by simp [results, Tryz.results51, go_sem, cz0, cz1]) rfl ?_
      rw [HV.out]
      exact newS_zero (below_set2 HBB.out (by omega))
  · have okx2 : okS x = false := by simpa using okx
    have HV := Lib.hid (show addS x y = zeroS by unfold addS; rw [if_neg (fun h => okx h.1)])
    clear okx
    go_enter Tryz.func51, Tryz.ntmps51
    go_wp2_with fail
    rw [← HW.out]
    refine (specIntOk_any _ x W0 hlx RDx).mono ?_
    rintro e w1 ⟨rfl, b1⟩
    rw [okx2]
    have bb1 := Below.next hbb b1
    replace kx := kx.below b1
    replace ky := ky.below b1
    replace kr := kr.below b1
    clear cx0 cx1 cy0 cy1
    have cz0 := kr.here.cell 0 _ rfl
    have cz1 := kr.here.cell 1 _ rfl
    have fz0 := Lib.frozen_of_heap kr.here 0
    have fz1 := Lib.frozen_of_heap kr.here 1
    have HBB := Lib.hid bb1
    clear kx ky kr
    go_wp2
    refine bodyPost_ret (v := .agg #[.bool false, .slice none 0 0]) (by simp [results, Tryz.results51, go_sem, cz0, cz1]) rfl ?_
    rw [HV.out]
    exact newS_zero (below_set2 HBB.out (by omega))

set_option maxHeartbeats 4000000 in
set_option maxRecDepth 100000 in
theorem specIntSub_any (vx vy : Value) (x y : SI) (w : World) (hlx : x.2.length ≤ 1048576) (hly : y.2.length ≤ 1048576) (hx : OwnS vx x w) (hy : OwnS vy y w) :
    Calls Tryz.prog 46 #[vx, vy] w (NewS (subS x y) w) := by
  obtain ⟨ux, rfl, hox⟩ := hx
  obtain ⟨uy, rfl, hoy⟩ := hy
  obtain ⟨Ax, cx, rfl⟩ := own_len hox
  obtain ⟨Ay, cy, rfl⟩ := own_len hoy
  obtain ⟨W0, hW0⟩ : ∃ W0, W0 = ((w.alloc (.cells #[.bool x.1, .slice Ax x.2.length cx] 29)).alloc (.cells #[.bool y.1, .slice Ay y.2.length cy] 29)).alloc (.cells #[.bool false, .slice none 0 0] 29) := ⟨_, rfl⟩
  have hbb : Below w.heap.size w W0 := by rw [hW0]; exact below_al (below_al (below_al (Below.refl _ _) _) _) _
  have h3 := alloc3 w (.cells #[.bool x.1, .slice Ax x.2.length cx] 29) (.cells #[.bool y.1, .slice Ay y.2.length cy] 29) (.cells #[.bool false, .slice none 0 0] 29)
  rw [← hW0] at h3
  have kx : At [w.heap.size] (BoxAt w.heap.size #[.bool x.1, .slice Ax x.2.length cx] 29) W0 := box_at h3.1
  have ky : At [w.heap.size + 1] (BoxAt (w.heap.size + 1) #[.bool y.1, .slice Ay y.2.length cy] 29) W0 := box_at h3.2.1
  have kr : At [w.heap.size + 1 + 1] (BoxAt (w.heap.size + 1 + 1) #[.bool false, .slice none 0 0] 29) W0 := box_at h3.2.2.1
  have atx := own_at hox
  have aty := own_at hoy
  have ltx := atx.lt
  have lty := aty.lt
  have OFx := Lib.hid (show ∀ W, Chg [w.heap.size + 1 + 1] W0 W → OwnI (.slice Ax x.2.length cx) x.2 W from fun W hc => ((atx.below hbb).chg hc (fun i hi hm => by have := ltx i hi; simp at hm; omega)).here)
  have OFy := Lib.hid (show ∀ W, Chg [w.heap.size + 1 + 1] W0 W → OwnI (.slice Ay y.2.length cy) y.2 W from fun W hc => ((aty.below hbb).chg hc (fun i hi hm => by have := lty i hi; simp at hm; omega)).here)
  have KL := Lib.hid (show ∀ W, Chg [w.heap.size + 1 + 1] W0 W → W.cell? ⟨w.heap.size, 0, none⟩ = some (.bool x.1) ∧ W.cell? ⟨w.heap.size, 1, none⟩ = some (.slice Ax x.2.length cx) ∧ W.cell? ⟨w.heap.size + 1, 0, none⟩ = some (.bool y.1) ∧ W.cell? ⟨w.heap.size + 1, 1, none⟩ = some (.slice Ay y.2.length cy) ∧ Hid (Chg [w.heap.size + 1 + 1] W0 W) from
    fun W hc => ⟨(kx.chg hc (fun i hi hm => by simp at hi hm; omega)).here.cell 0 _ rfl, (kx.chg hc (fun i hi hm => by simp at hi hm; omega)).here.cell 1 _ rfl, (ky.chg hc (fun i hi hm => by simp at hi hm; omega)).here.cell 0 _ rfl, (ky.chg hc (fun i hi hm => by simp at hi hm; omega)).here.cell 1 _ rfl, Lib.hid hc⟩)
  have HW := Lib.hid hW0
  have RDx := (OwnS.mk (x := x) (OFx.out W0 (Chg.refl _ _))).rd
  have RDy := Lib.hid (show ∀ W, Below W0.heap.size W0 W → RdS W (.agg #[.bool y.1, .slice Ay y.2.length cy]) y from fun W hb => (OwnS.mk (x := y) (OFy.out W (Chg.of_below hb))).rd)
  have cx0 := kx.here.cell 0 _ rfl
  have cx1 := kx.here.cell 1 _ rfl
  have cy0 := ky.here.cell 0 _ rfl
  have cy1 := ky.here.cell 1 _ rfl
  have frz := Lib.frozen_of_heap kr.here
  clear h3 atx aty ltx lty hW0 hox hoy
  by_cases okx : okS x = true
  · by_cases oky : okS y = true
    · have HV := Lib.hid (show subS x y = ofZ (valS x + valS (negS y)) by unfold subS; rw [if_pos ⟨okx, oky⟩, negS_val oky]; rfl)
      have HNL := Lib.hid (negS_ok y)
      go_enter Tryz.func46, Tryz.ntmps46
      go_wp2_with fail
      rw [← HW.out]
      refine (specIntOk_any _ x W0 hlx RDx).mono ?_
      rintro e w1 ⟨rfl, b1⟩
      rw [okx]
      have bb1 := Below.next hbb b1
      replace kx := kx.below b1
      replace ky := ky.below b1
      replace kr := kr.below b1
      clear cx0 cx1 cy0 cy1
      have cx0 := kx.here.cell 0 _ rfl
      have cx1 := kx.here.cell 1 _ rfl
      have cy0 := ky.here.cell 0 _ rfl
      have cy1 := ky.here.cell 1 _ rfl
      go_wp2_with fail
      refine (specIntOk_any _ y w1 hly (RDy.out w1 b1)).mono ?_
      rintro e w2 ⟨rfl, b2⟩
      rw [oky]
      have bb2 := Below.next bb1 b2
      have b02 := Below.next b1 b2
      replace kx := kx.below b2
      replace ky := ky.below b2
      replace kr := kr.below b2
      clear cx0 cx1 cy0 cy1
      have cx0 := kx.here.cell 0 _ rfl
      have cx1 := kx.here.cell 1 _ rfl
      have cy0 := ky.here.cell 0 _ rfl
      have cy1 := ky.here.cell 1 _ rfl
      go_wp2_with fail
      have KF := Lib.hid (show ∀ W, Chg [w.heap.size + 1 + 1] w2 W → Chg [w.heap.size + 1 + 1] W0 W from fun W hc => (Chg.of_below b02).trans hc)
      clear cx0 cx1 cy0 cy1
      go_region_held3 (fun W => W.cell? ⟨w.heap.size, 0, none⟩ = some (.bool x.1) ∧ W.cell? ⟨w.heap.size, 1, none⟩ = some (.slice Ax x.2.length cx) ∧ W.cell? ⟨w.heap.size + 1, 0, none⟩ = some (.bool y.1) ∧ W.cell? ⟨w.heap.size + 1, 1, none⟩ = some (.slice Ay y.2.length cy) ∧ Hid (Chg [w.heap.size + 1 + 1] W0 W))
        ((refine KL.out _ ?_; (first | exact HC2.out | exact HC1.out | exact (Chg.setCell (Chg.setCell HC2.out (by simp) _) (by simp) _) | exact KF.out _ ⟨rfl, rfl, rfl, Nat.le_refl _, fun _ _ _ => rfl⟩ | fail)))
        (first
          | (go_at_call 84; (have hBB := (‹_ ∧ _ ∧ _ ∧ _ ∧ Hid (Chg [w.heap.size + 1 + 1] W0 _)›).2.2.2.2); (with_reducible refine (specIntNeg_any _ y _ hly (OwnS.mk (x := y) (OFy.out _ hBB.out))).mono ?_); rintro e w3' ⟨u3', rfl, o3', b3'⟩; have HC1 := Lib.hid (hBB.out.trans (Chg.of_below b3')); (have kr3 := At.behind kr b3' rfl); (have bb3' := Below.next (show Below w.heap.size w w2.drew from bb2.drew) b3'); obtain ⟨A3', c3', rfl⟩ := own_len o3'; clear hBB)
          | (go_at_call 83; (have hBB := (‹_ ∧ _ ∧ _ ∧ _ ∧ Hid (Chg [w.heap.size + 1 + 1] W0 _)›).2.2.2.2); (with_reducible refine (l04Add_any _ _ x (negS y) _ okx HNL.out (OwnS.mk (x := x) (OFx.out _ hBB.out)) (OwnS.mk (x := negS y) (ownI_of o3'))).mono ?_); rintro e w3 ⟨u3, rfl, o3, b3⟩; have HC2 := Lib.hid (hBB.out.trans (Chg.of_below b3)); (have kr4 := kr3.below b3); (have bb3 := Below.next bb3' b3); (have cz0 := kr4.here.cell 0 _ rfl); (have cz1 := kr4.here.cell 1 _ rfl); (have fz0 := Lib.frozen_of_heap kr4.here 0); (have fz1 := Lib.frozen_of_heap kr4.here 1); obtain ⟨A3, c3, rfl⟩ := own_len o3; clear hBB))
      have HO := Lib.hid o3
      have HBB := Lib.hid bb3
      have HK := Lib.hid kr4
      have HZ := Lib.hid bb3'.size
      clear o3 bb3 kr kr3 kr4 kx ky o3' b3' b3
      go_wp2
      refine bodyPost_ret (v := .agg #[.bool _, .slice A3 _ c3]) (by simp [results, Tryz.results46, go_sem, cz0, cz1]; exact ⟨rfl, rfl⟩) rfl ?_
      rw [HV.out]
      exact newS_ret HK.out.here HO.out HZ.out (by omega) HBB.out
    · have oky2 : okS y = false := by simpa using oky
      have HV := Lib.hid (show subS x y = zeroS by unfold subS; rw [if_neg (fun h => oky h.2)])
      clear oky
      go_enter Tryz.func46, Tryz.ntmps46
      go_wp2_with fail
      rw [← HW.out]
      refine (specIntOk_any _ x W0 hlx RDx).mono ?_
      rintro e w1 ⟨rfl, b1⟩
      rw [okx]
      have bb1 := Below.next hbb b1
      replace kx := kx.below b1
      replace ky := ky.below b1
      replace kr := kr.below b1
      clear cx0 cx1 cy0 cy1
      have cx0 := kx.here.cell 0 _ rfl
      have cx1 := kx.here.cell 1 _ rfl
      have cy0 := ky.here.cell 0 _ rfl
      have cy1 := ky.here.cell 1 _ rfl
      go_wp2_with fail
      refine (specIntOk_any _ y w1 hly (RDy.out w1 b1)).mono ?_
      rintro e w2 ⟨rfl, b2⟩
      rw [oky2]
      have bb2 := Below.next bb1 b2
      replace kr := kr.below b2
      clear cx0 cx1 cy0 cy1
      have cz0 := kr.here.cell 0 _ rfl
      have cz1 := kr.here.cell 1 _ rfl
      have fz0 := Lib.frozen_of_heap kr.here 0
      have fz1 := Lib.frozen_of_heap kr.here 1
      have HBB := Lib.hid bb2
      clear kx ky kr
      go_wp2
      refine bodyPost_ret (v := .agg #[.bool false, .slice none 0 0]) (by simp [results, Tryz.results46, go_sem, cz0, cz1]) rfl ?_
      rw [HV.out]
      exact newS_zero (below_set2 HBB.out (by omega))
  · have okx2 : okS x = false := by simpa using okx
    have HV := Lib.hid (show subS x y = zeroS by unfold subS; rw [if_neg (fun h => okx h.1)])
    clear okx
    go_enter Tryz.func46, Tryz.ntmps46
    go_wp2_with fail
    rw [← HW.out]
    refine (specIntOk_any _ x W0 hlx RDx).mono ?_
    rintro e w1 ⟨rfl, b1⟩
    rw [okx2]
    have bb1 := Below.next hbb b1
    replace kx := kx.below b1
    replace ky := ky.below b1
    replace kr := kr.below b1
    clear cx0 cx1 cy0 cy1
    have cz0 := kr.here.cell 0 _ rfl
    have cz1 := kr.here.cell 1 _ rfl
    have fz0 := Lib.frozen_of_heap kr.here 0
    have fz1 := Lib.frozen_of_heap kr.here 1
    have HBB := Lib.hid bb1
    clear kx ky kr
    go_wp2
    refine bodyPost_ret (v := .agg #[.bool false, .slice none 0 0]) (by simp [results, Tryz.results46, go_sem, cz0, cz1]) rfl ?_
    rw [HV.out]
    exact newS_zero (below_set2 HBB.out (by omega))

end Go.Proofs.YtofehcpapdlcnabGreatDoor

namespace Go.Proofs.YtofehcpapdlcnabGreatDoor
open Go.RowKit

/-- the state of l05Gcd's loop -/
def GcdR (w : World) (G : Nat) (n : Nat) (x y : Value) (wr : World) : Prop :=
  ∃ X Y : Nat, n = Y ∧ Nat.gcd X Y = G ∧ (limbs X).length ≤ 50 ∧ (limbs Y).length ≤ 50 ∧ wr.ownsRow 0 3 1 x (limbs X).length (intsV (limbs X)) ∧ wr.ownsRow 0 3 1 y (limbs Y).length (intsV (limbs Y)) ∧ Below w.heap.size w wr
set_option maxHeartbeats 1000000 in
set_option maxRecDepth 100000 in
theorem l05Gcd_any (va vb : Value) (X0 Y0 : Nat) (w : World) (hX0 : (limbs X0).length ≤ 50) (hY0 : (limbs Y0).length ≤ 50) (oa : OwnI va (limbs X0) w) (ob : OwnI vb (limbs Y0) w) :
    Calls Tryz.prog 108 #[va, vb] w fun e w' => ∃ v, e = .returned v ∧ OwnI v (limbs (Nat.gcd X0 Y0)) w' ∧ Below w.heap.size w w' := by
  have HS : Hid (GcdR w (Nat.gcd X0 Y0) Y0 va vb w) := Lib.hid ⟨X0, Y0, rfl, rfl, hX0, hY0, oa, ob, Below.refl _ _⟩
  clear oa ob
  go_enter Tryz.func108, Tryz.ntmps108
  go_wp2
  go_loopg [5, 6] Y0 (fun n x y wr => GcdR w (Nat.gcd X0 Y0) n x y wr)
  case atStart => exact HS.out
  case round =>
    clear HS hX0 hY0
    obtain ⟨X, Y, hn, hG, hX, hY, ox, oy, hb⟩ := hrel
    have HNE := Lib.hid hn
    have HG := Lib.hid hG
    clear hn hG
    have oy0 := oy
    obtain ⟨B, c, rfl⟩ := own_len oy
    by_cases hpos : 0 < (limbs Y).length
    · have hY0 := limbs_some hpos
      go_wp2_with fail
      refine (specDiv_any _ _ (limbs X) (limbs Y) _ _ _ _ _ hX hY hpos (Nat.le_refl _) (Nat.le_refl _) (limbs_digN _) ⟨limbs_digN _, limbs_lastN _⟩ (Row.of_own ox) (Row.of_own oy0)).mono ?_
      rintro e w3 ⟨v3, v4, rfl, o3, o4, _, b3⟩
      rw [limbs_val, limbs_val, show ((X : Int) % (Y : Int)).toNat = X % Y by omega] at o4
      have HS2 : Hid (GcdR w (Nat.gcd X0 Y0) (X % Y) (.slice B (limbs Y).length c) v4 w3) := Lib.hid ⟨Y, X % Y, rfl, by rw [gcd_step]; exact HG.out, hY, limbs_mod_len X Y hY hY0, own_below oy0 b3, own_zero o4, Below.next hb b3⟩
      clear ox oy oy0 o3 o4
      go_wp2
      go_roundg (X % Y)
      case measure => rw [HNE.out]; exact Nat.mod_lt X hY0
      case rel => exact HS2.out
    · have hY0 := Lib.hid (limbs_empty hpos)
      have HF : Hid (X = Nat.gcd X0 Y0) := Lib.hid (by have := HG.out; rw [hY0.out, Nat.gcd_zero_right] at this; exact this)
      go_wp2
      go_ret
      exact ⟨_, rfl, by rw [← HF.out]; exact ox, hb⟩
end Go.Proofs.YtofehcpapdlcnabGreatDoor

namespace Go.Proofs.YtofehcpapdlcnabGreatDoor
open Go.RowKit
theorem one_val : nval [1] = 1 := rfl
theorem one_dig : DigN [1] ∧ [(1 : Int)].getLastD 1 ≠ 0 := by
  refine ⟨fun d hd => ?_, by decide⟩
  simp at hd
  omega
theorem one_limbs : limbs 1 = [1] := by rw [limbs, dif_neg (by decide), show 1 / 1000000000 = 0 from rfl, limbs, dif_pos rfl]; rfl
/-- a slice literal in its block -/
theorem box_row {g : Nat} {cs : Array Value} {T : TypeId} {w : World} (h : BoxAt g cs T w) : Row w 0 w.heap.size (.slice (some ⟨g, 0, none⟩) cs.size cs.size) cs.toList := by
  have hg := (Array.getElem?_eq_some_iff.1 h).1
  refine ⟨some ⟨g, 0, none⟩, cs.size, by simp, fun j u hj => ⟨⟨g, 0, none⟩, rfl, Nat.zero_le _, hg, ?_⟩⟩
  have e1 : (Addr.add ⟨g, 0, none⟩ j) = ⟨g, j, none⟩ := by
    unfold Addr.add
    cases j with
    | zero => rfl
    | succ n => simp
  rw [e1, Lib.cell_of_heap h]
  simpa using hj
theorem gcdN_small (a b : List Int) : (gcdN a b).length ≤ 50 := by
  unfold gcdN
  split
  · rename_i h
    have pa := natOk_limbs h.1
    have pb := natOk_limbs h.2
    have la := (natOk_parts h.1).2.1
    have lb := (natOk_parts h.2).2.1
    have na := nval_ok h.1
    have nb := nval_ok h.2
    by_cases h0 : 0 < (nval a).toNat
    · have hm := limbs_mono (m := ((Nat.gcd (nval a).toNat (nval b).toNat : Nat) : Int)) (n := nval a) (by omega) (by have := Nat.gcd_le_left (nval b).toNat h0; omega)
      rw [Int.toNat_natCast, ← pa] at hm
      omega
    · rw [show (nval a).toNat = 0 by omega, Nat.gcd_zero_left, ← pb]
      exact lb
  · simp
theorem gcd_one_iff {x : QI} (h1 : natOkB x.1.2 = true) (h2 : natOkB x.2 = true) : (cmpI (nval (gcdN x.1.2 x.2)) (nval [1]) = 0) ↔ Nat.gcd (nval x.1.2).toNat (nval x.2).toNat = 1 := by
  unfold gcdN
  rw [if_pos ⟨h1, h2⟩, limbs_val, one_val]
  unfold cmpI
  split
  · omega
  · split <;> omega
set_option maxHeartbeats 1000000 in
set_option maxRecDepth 100000 in
theorem specRatOk_any (v : Value) (x : QI) (w : World) (hz : szQ x ≤ 1048576) (h : OwnQ v x w) :
    Calls Tryz.prog 75 #[v] w (Postb (okQ x) w) := by
  obtain ⟨u, d, rfl, ou, od, hap⟩ := h
  obtain ⟨A, c, rfl⟩ := own_len ou
  obtain ⟨B, f, rfl⟩ := own_len od
  have hl := szQ_len hz
  have hl1 := hl.1
  have hl2 := hl.2
  have bb0 : Below w.heap.size w (w.alloc (.cells #[.bool x.1.1, .slice A x.1.2.length c, .slice B x.2.length f] 63)) := below_al (Below.refl _ _) _
  have kr := box_new w #[.bool x.1.1, .slice A x.1.2.length c, .slice B x.2.length f] 63
  have OU := Lib.hid (show ∀ W, Below w.heap.size w W → OwnI (.slice A x.1.2.length c) x.1.2 W from fun W hb => own_below ou hb)
  have OD := Lib.hid (show ∀ W, Below w.heap.size w W → OwnI (.slice B x.2.length f) x.2 W from fun W hb => own_below od hb)
  clear ou od hap hl hz
  have kr_c0 := kr.here.cell 0 _ rfl
  have kr_c1 := kr.here.cell 1 _ rfl
  go_enter Tryz.func75, Tryz.ntmps75
  go_wp2_with fail
  refine (specIntOk_any _ x.1 _ hl1 (OwnS.rd (OwnS.mk (x := x.1) (OU.out _ bb0)))).mono ?_
  rintro e w1 ⟨rfl, b1⟩
  have bb1 := Below.next bb0 b1
  replace kr := kr.below b1
  clear kr_c0 kr_c1
  by_cases ok1 : okS x.1 = true
  · rw [ok1]
    have HO1 := Lib.hid ok1
    have kr_c0 := kr.here.cell 0 _ rfl
    have kr_c1 := kr.here.cell 1 _ rfl
    have kr_c2 := kr.here.cell 2 _ rfl
    clear ok1
    go_wp2_with fail
    refine (specNatOk_any _ x.2 _ _ _ hl2 (OD.out _ bb1).row).mono ?_
    rintro e w2 ⟨rfl, rfl⟩
    by_cases ok2 : natOkB x.2 = true
    · rw [ok2]
      have HO2 := Lib.hid ok2
      clear ok2
      by_cases hs : 0 < x.2.length ∧ x.2.length ≤ 18 ∧ x.1.2.length ≤ 18
      · have h1 : ((x.2.length : Int) == 0) = false := by rw [beq_eq_false_iff_ne]; omega
        have h2 : decide ((18 : Int) < (x.2.length : Int)) = false := decide_eq_false (by omega)
        have h3 : decide ((18 : Int) < (x.1.2.length : Int)) = false := decide_eq_false (by omega)
        have HG := Lib.hid (gcd_one_iff (okS_parts HO1.out).1 HO2.out)
        have HV := Lib.hid (show okQ x = decide (Nat.gcd (nval x.1.2).toNat (nval x.2).toNat = 1) by unfold okQ; rw [HO1.out, HO2.out]; simp [hs])
        have hgl : (gcdN x.1.2 x.2).length ≤ 1048576 := by have := gcdN_small x.1.2 x.2; omega
        have HD := Lib.hid (show DigN (gcdN x.1.2 x.2) ∧ (gcdN x.1.2 x.2).getLastD 1 ≠ 0 by unfold gcdN; split; exact ⟨limbs_digN _, limbs_lastN _⟩; exact ⟨fun d hd => (by cases hd), by decide⟩)
        clear hs
        go_wp2_with fail
        refine (specNatGcd_any _ _ x.1.2 x.2 0 _ 0 _ _ hl1 hl2 (Nat.le_refl _) (Nat.le_refl _) (own_noCap (OU.out _ bb1)) (own_noCap (OD.out _ bb1)) (OU.out _ bb1).row (OD.out _ bb1).row).mono ?_
        rintro e w2 ⟨v2, rfl, o2, b2⟩
        have bb2 := Below.next bb1 b2
        go_wp2_with fail
        have hrow := box_row (box_new w2 #[.int .i64 1] 3).here
        have o2' := own_up o2 (below_al (Below.refl _ _) (.cells #[.int .i64 1] 3))
        refine (specCmp_any _ _ (gcdN x.1.2 x.2) [1] _ _ _ _ _ hgl (by decide) HD.out one_dig (Row.of_own o2') hrow).mono ?_
        rintro e w3 ⟨rfl, q3, rfl⟩
        have HB := Lib.hid (Below.next bb2 (below_al (Below.refl _ _) (.cells #[.int .i64 1] 3)))
        have HZ : (cmpI (nval (gcdN x.1.2 x.2)) (nval [1]) == 0) = okQ x := by
          rw [HV.out]
          by_cases hg : cmpI (nval (gcdN x.1.2 x.2)) (nval [1]) = 0
          · rw [decide_eq_true (HG.out.1 hg), hg]; rfl
          · rw [decide_eq_false (fun e => hg (HG.out.2 e)), beq_eq_false_iff_ne]; exact hg
        generalize cmpI (nval (gcdN x.1.2 x.2)) (nval [1]) = z at *
        generalize okQ x = b at *
        clear o2 o2' hrow hgl h1 h2 h3 hl1 hl2 HG HV
        go_wp2
        go_ret
        exact ⟨rfl, below_drewN HB.out q3⟩
      · have HV := Lib.hid (show okQ x = false by unfold okQ; rw [HO1.out, HO2.out, decide_eq_false (fun h => hs ⟨h.1, h.2.1, h.2.2.1⟩)]; rfl)
        by_cases g1 : 0 < x.2.length
        · have h1 : ((x.2.length : Int) == 0) = false := by rw [beq_eq_false_iff_ne]; omega
          by_cases g2 : x.2.length ≤ 18
          · have h2 : decide ((18 : Int) < (x.2.length : Int)) = false := decide_eq_false (by omega)
            have h3 : decide ((18 : Int) < (x.1.2.length : Int)) = true := decide_eq_true (by omega)
            clear hs g1 g2
            go_wp2
            go_ret
            exact ⟨ret_bool HV.out.symm, bb1⟩
          · have h2 : decide ((18 : Int) < (x.2.length : Int)) = true := decide_eq_true (by omega)
            clear hs g1 g2
            go_wp2
            go_ret
            exact ⟨ret_bool HV.out.symm, bb1⟩
        · have h1 : ((x.2.length : Int) == 0) = true := by rw [beq_iff_eq]; omega
          clear hs g1
          go_wp2
          go_ret
          exact ⟨ret_bool HV.out.symm, bb1⟩
    · have ok2' : natOkB x.2 = false := by simpa using ok2
      have HV := Lib.hid (show okQ x = false by unfold okQ; rw [HO1.out, ok2']; rfl)
      rw [ok2']
      clear ok2 ok2'
      go_wp2
      go_ret
      exact ⟨ret_bool HV.out.symm, bb1⟩
  · have ok1' : okS x.1 = false := by simpa using ok1
    have HV := Lib.hid (show okQ x = false by unfold okQ; rw [ok1']; rfl)
    rw [ok1']
    clear ok1 ok1'
    go_wp2
    go_ret
    exact ⟨ret_bool HV.out.symm, bb1⟩
end Go.Proofs.YtofehcpapdlcnabGreatDoor

namespace Go.Proofs.YtofehcpapdlcnabGreatDoor
open Go.RowKit
theorem trim_ok (n : Nat) : trimL (limbs n) = limbs n := trim_last _ (limbs_lastN n)
theorem oneCells (l : List Int) : ∀ u ∈ intsV l, u.oneCell' = true := fun u hu => by obtain ⟨x, _, rfl⟩ := List.mem_map.1 hu; rfl
/-- a struct result that lies in its cells at block r: a new value and a bool with it -/
theorem newQb_ret {r : Nat} {u d c0 c1 c2 : Value} {x : QI} {b : Bool} {w W : World} {B C : Nat} (hb : BoxAt r #[c0, c1, c2] 63 W) (o : W.ownsRow B 3 1 u x.1.2.length (intsV x.1.2)) (p : W.ownsRow C 3 1 d x.2.length (intsV x.2))
    (hap : ∀ g, u.ownBlock = some g → d.ownBlock ≠ some g) (hB : w.heap.size ≤ B) (hC : w.heap.size ≤ C) (hr : w.heap.size ≤ r) (hW : Below w.heap.size w W) :
    PostQb x b w (.returned (.tuple #[.agg #[.bool x.1.1, u, d], .bool b])) (((W.setCell ⟨r, 0, none⟩ (.bool x.1.1)).setCell ⟨r, 1, none⟩ u).setCell ⟨r, 2, none⟩ d) := by
  have hn1 := Lib.ownBlock_ne o hb (by decide)
  have hn2 := Lib.ownBlock_ne p hb (by decide)
  have hc : Chg [r] W (((W.setCell ⟨r, 0, none⟩ (.bool x.1.1)).setCell ⟨r, 1, none⟩ u).setCell ⟨r, 2, none⟩ d) := (((Chg.refl _ _).setCell (by simp) _).setCell (by simp) _).setCell (by simp) _
  have hz := hc.size
  refine ⟨_, partsB u d, rfl, (partsQ_at o p hap).chg hc (fun i hi hm => ?_), fun i hi => ?_, below_set3 hW hr⟩
  · simp at hm
    subst hm
    rcases List.mem_append.1 hi with hi | hi
    · exact hn1 (by simpa using hi)
    · exact hn2 (by simpa using hi)
  · rcases List.mem_append.1 hi with hi | hi
    · have := own_lt o (g := i) (by simpa using hi)
      omega
    · have := own_lt p (g := i) (by simpa using hi)
      omega
theorem ownQ_zero (w : World) : OwnQ (.agg #[.bool false, .slice none 0 0, .slice none 0 0]) zeroQ w := ⟨_, _, rfl, World.ownsRow_nil _ _ _ _, World.ownsRow_nil _ _ _ _, fun g hg => by cases hg⟩
theorem newQb_zero {w W : World} (b : Bool) (hW : Below w.heap.size w W) : PostQb zeroQ b w (.returned (.tuple #[.agg #[.bool false, .slice none 0 0, .slice none 0 0], .bool b])) W :=
  ⟨_, [], rfl, ⟨ownQ_zero _, (fun g hg => by cases hg), fun w' _ => ownQ_zero _⟩, (fun g hg => by cases hg), hW⟩
theorem div_toNat (a b : Nat) : ((a : Int) / (b : Int)).toNat = a / b := by rw [← Int.natCast_ediv]; exact Int.toNat_natCast _
set_option maxHeartbeats 1000000 in
set_option maxRecDepth 100000 in
theorem l05Low_any (n : Bool) (va vb : Value) (X Y : Nat) (w : World) (hX : (limbs X).length ≤ 50) (hY : (limbs Y).length ≤ 50) (oa : OwnI va (limbs X) w) (ob : OwnI vb (limbs Y) w) :
    Calls Tryz.prog 71 #[.bool n, va, vb] w (PostQb (lowQ n X Y).1 (lowQ n X Y).2 w) := by
  obtain ⟨i0, hi0, hz0, hz1, hz2⟩ := info_parts intInfo
  have bb0 := below_al (Below.refl w.heap.size w) (.cells #[.bool false, .slice none 0 0, .slice none 0 0] 63)
  have kr := box_new w #[.bool false, .slice none 0 0, .slice none 0 0] 63
  have oa1 := own_up oa bb0
  have ob1 := own_up ob bb0
  clear oa ob
  go_enter Tryz.func71, Tryz.ntmps71
  go_wp2_with fail
  refine (specTrim_any _ _ _ _ (by omega) oa1).mono ?_
  rintro e w1 ⟨rfl, v1, rfl, o1⟩
  rw [trim_ok] at o1
  go_wp2_with fail
  refine (specTrim_any _ _ _ _ (by omega) ob1).mono ?_
  rintro e w1 ⟨rfl, v2, rfl, o2⟩
  rw [trim_ok] at o2
  obtain ⟨A1, c1, rfl⟩ := own_len o1
  obtain ⟨A2, c2, rfl⟩ := own_len o2
  clear oa1 ob1
  by_cases hy : 0 < (limbs Y).length
  · have h1 : (((limbs Y).length : Int) == 0) = false := by rw [beq_eq_false_iff_ne]; omega
    have hY0 := limbs_some hy
    go_wp2_with fail
    refine (l05Gcd_any _ _ X Y _ hX hY o1 o2).mono ?_
    rintro e w3 ⟨v3, rfl, o3, b3⟩
    have bb3 := Below.next bb0 b3
    replace kr := kr.below b3
    replace o1 := own_up o1 b3
    replace o2 := own_up o2 b3
    have HG := Lib.hid (Nat.gcd_pos_of_pos_right X hY0)
    have hgl : (limbs (Nat.gcd X Y)).length ≤ 50 := by
      have := limbs_mono (m := ((Nat.gcd X Y : Nat) : Int)) (n := (Y : Int)) (by omega) (by have := Nat.gcd_le_right X hY0; omega)
      rw [Int.toNat_natCast, Int.toNat_natCast] at this
      omega
    have hg0 : 0 < (limbs (Nat.gcd X Y)).length := by
      rcases Nat.eq_zero_or_pos (limbs (Nat.gcd X Y)).length with h | h
      · have := (limbs_zero_iff _).1 h
        have := HG.out
        omega
      · exact h
    have HLOW := Lib.hid (show lowQ n X Y = if (limbs (X / Nat.gcd X Y)).length ≤ 18 ∧ (limbs (Y / Nat.gcd X Y)).length ≤ 18 then ((mkS n (limbs (X / Nat.gcd X Y)), limbs (Y / Nat.gcd X Y)), true) else (zeroQ, false) by unfold lowQ; simp [show Y ≠ 0 by omega])
    clear hy hY0
    go_wp2_with fail
    refine (specDiv_any _ _ (limbs X) (limbs (Nat.gcd X Y)) _ _ _ _ _ hX hgl hg0 (Nat.le_refl _) (Nat.le_refl _) (limbs_digN _) ⟨limbs_digN _, limbs_lastN _⟩ (Row.of_own o1) (Row.of_own o3)).mono ?_
    rintro e w4 ⟨v4, v5, rfl, o4, o5, _, b4⟩
    rw [limbs_val, limbs_val, div_toNat] at o4
    have bb4 := Below.next bb3 b4
    replace kr := kr.below b4
    replace o2 := own_up o2 b4
    replace o3 := own_up o3 b4
    clear o1 o5
    go_wp2_with fail
    refine (specDiv_any _ _ (limbs Y) (limbs (Nat.gcd X Y)) _ _ _ _ _ hY hgl hg0 (Nat.le_refl _) (Nat.le_refl _) (limbs_digN _) ⟨limbs_digN _, limbs_lastN _⟩ (Row.of_own o2) (Row.of_own o3)).mono ?_
    rintro e w5 ⟨v6, v7, rfl, o6, o7, _, b5⟩
    rw [limbs_val, limbs_val, div_toNat] at o6
    have bb5 := Below.next bb4 b5
    replace kr := kr.below b5
    replace o4 := own_up o4 b5
    obtain ⟨A4, c4, rfl⟩ := own_len o4
    obtain ⟨A6, c6, rfl⟩ := own_len o6
    clear o2 o3 o7 hg0 hgl
    have hz5 := b5.size
    have hz4 := b4.size
    have hz3 := b3.size
    by_cases hp : (limbs (X / Nat.gcd X Y)).length ≤ 18
    · have h2 : decide ((18 : Int) < ((limbs (X / Nat.gcd X Y)).length : Int)) = false := decide_eq_false (by omega)
      by_cases hq : (limbs (Y / Nat.gcd X Y)).length ≤ 18
      · have h3 : decide ((18 : Int) < ((limbs (Y / Nat.gcd X Y)).length : Int)) = false := decide_eq_false (by omega)
        have HV := Lib.hid (show lowQ n X Y = ((mkS n (limbs (X / Nat.gcd X Y)), limbs (Y / Nat.gcd X Y)), true) by rw [HLOW.out, if_pos ⟨hp, hq⟩])
        go_wp2_with fail
        refine (l04Make_any n _ (limbs (X / Nat.gcd X Y)) _ _ (by omega) o4).mono ?_
        rintro e w6 ⟨u6, rfl, o8, b6⟩
        rw [trim_ok] at o8 ⊢
        have bb6 := Below.next bb5 b6
        replace kr := kr.below b6
        replace o6 := own_up o6 b6
        obtain ⟨A8, c8, rfl⟩ := own_len o8
        clear hp h2 h3 o4
        have HONE := Lib.hid oneCells
        go_wp2_with (at_builtin; refine append_row rfl _ _ 22 rfl w6.heap.size 3 i0 (.int .i64 0) 8 Tryz.underlying22 hi0 hz0 hz1 hz2 rfl _ 0 [] rfl (World.ownsRow_made w6 #[] 0 (Nat.le_refl _) (Nat.zero_le _) rfl) _ _ _ (intsV (limbs (Y / Nat.gcd X Y))) rfl ((Row.of_own o6).below (below_al (Below.refl _ _) _) (Nat.le_refl _)) (own_noCap o6) (HONE.out _) ?c3 ?c4 ?c5 ?_)
        case c3 => rw [intsV_length]; unfold maxLen; omega
        case c4 => rw [intsV_length]; omega
        case c5 => simp
        intro v9 w7 o9 g9
        have b7 : Below w6.heap.size w6 w7 := ((Below.refl _ w6).alloc (Nat.le_refl _) _).grown g9 (by simp) (fun k hk => by cases hk; exact Nat.le_refl _)
        have bb7 := Below.next bb6 b7
        have hz6 := b6.size
        replace kr := kr.below b7
        have hap : ∀ g, (Value.slice A8 (mkS n (limbs (X / Nat.gcd X Y))).2.length c8).ownBlock = some g → v9.ownBlock ≠ some g := fun g h1 h2 => by
          have := (own_lt o8 h1).2
          have := (own_lt o9 h2).1
          omega
        replace o8 := own_up o8 b7
        replace o9 : w7.ownsRow w6.heap.size 3 1 v9 (limbs (Y / Nat.gcd X Y)).length (intsV (limbs (Y / Nat.gcd X Y))) := by simpa [intsV_length] using o9
        obtain ⟨A9, c9, rfl⟩ := own_len o9
        have cz0 := kr.here.cell 0 _ rfl
        have cz1 := kr.here.cell 1 _ rfl
        have cz2 := kr.here.cell 2 _ rfl
        have fz0 := Lib.frozen_of_heap kr.here 0
        have fz1 := Lib.frozen_of_heap kr.here 1
        have fz2 := Lib.frozen_of_heap kr.here 2
        have HR := Lib.hid (newQb_ret (x := (mkS n (limbs (X / Nat.gcd X Y)), limbs (Y / Nat.gcd X Y))) (b := true) kr.here o8 o9 hap bb5.size bb6.size (Nat.le_refl _) bb7)
        clear g9 b7 hap o8 o9 o6 kr HONE hq
        go_wp2
        refine bodyPost_ret (v := .tuple #[.agg #[.bool _, .slice A8 _ c8, .slice A9 _ c9], .bool true]) (by simp [results, Tryz.results71, go_sem, cz0, cz1, cz2]; exact ⟨rfl, rfl, rfl⟩) rfl ?_
        rw [HV.out]
        exact HR.out
      · have h3 : decide ((18 : Int) < ((limbs (Y / Nat.gcd X Y)).length : Int)) = true := decide_eq_true (by omega)
        have HV := Lib.hid (show lowQ n X Y = (zeroQ, false) by rw [HLOW.out, if_neg (fun h => hq h.2)])
        have cz0 := kr.here.cell 0 _ rfl
        have cz1 := kr.here.cell 1 _ rfl
        have cz2 := kr.here.cell 2 _ rfl
        have fz0 := Lib.frozen_of_heap kr.here 0
        have fz1 := Lib.frozen_of_heap kr.here 1
        have fz2 := Lib.frozen_of_heap kr.here 2
        clear hp hq o4 o6 kr
        go_wp2
        refine bodyPost_ret (v := .tuple #[.agg #[.bool false, .slice none 0 0, .slice none 0 0], .bool false]) (by simp [results, Tryz.results71, go_sem, cz0, cz1, cz2]) rfl ?_
        rw [HV.out]
        exact newQb_zero _ (below_set3 bb5 (Nat.le_refl _))
    · have h2 : decide ((18 : Int) < ((limbs (X / Nat.gcd X Y)).length : Int)) = true := decide_eq_true (by omega)
      have HV := Lib.hid (show lowQ n X Y = (zeroQ, false) by rw [HLOW.out, if_neg (fun h => hp h.1)])
      have cz0 := kr.here.cell 0 _ rfl
      have cz1 := kr.here.cell 1 _ rfl
      have cz2 := kr.here.cell 2 _ rfl
      have fz0 := Lib.frozen_of_heap kr.here 0
      have fz1 := Lib.frozen_of_heap kr.here 1
      have fz2 := Lib.frozen_of_heap kr.here 2
      clear hp o4 o6 kr
      go_wp2
      refine bodyPost_ret (v := .tuple #[.agg #[.bool false, .slice none 0 0, .slice none 0 0], .bool false]) (by simp [results, Tryz.results71, go_sem, cz0, cz1, cz2]) rfl ?_
      rw [HV.out]
      exact newQb_zero _ (below_set3 bb5 (Nat.le_refl _))
  · have h1 : (((limbs Y).length : Int) == 0) = true := by rw [beq_iff_eq]; omega
    have HV := Lib.hid (show lowQ n X Y = (zeroQ, false) by unfold lowQ; simp [limbs_empty hy])
    have cz0 := kr.here.cell 0 _ rfl
    have cz1 := kr.here.cell 1 _ rfl
    have cz2 := kr.here.cell 2 _ rfl
    have fz0 := Lib.frozen_of_heap kr.here 0
    have fz1 := Lib.frozen_of_heap kr.here 1
    have fz2 := Lib.frozen_of_heap kr.here 2
    clear hy o1 o2 kr
    go_wp2
    refine bodyPost_ret (v := .tuple #[.agg #[.bool false, .slice none 0 0, .slice none 0 0], .bool false]) (by simp [results, Tryz.results71, go_sem, cz0, cz1, cz2]) rfl ?_
    rw [HV.out]
    exact newQb_zero _ bb0
end Go.Proofs.YtofehcpapdlcnabGreatDoor

namespace Go.Proofs.YtofehcpapdlcnabGreatDoor
open Go.RowKit

def topN (q : QI) : Nat := (nval q.1.2).toNat
structure Parts (q : QI) : Prop where
  okn : okS q.1 = true
  okd : natOkB q.2 = true
  n50 : q.1.2.length ≤ 18
  d50 : q.2.length ≤ 18
  n : q.1.2 = limbs (topN q)
  d : q.2 = limbs (denQ q)
  nlt : (topN q : Int) < bp 18
  dlt : (denQ q : Int) < bp 18
  pos : 0 < denQ q
  top : numQ q = if q.1.1 = true then -(topN q : Int) else topN q
theorem parts_of {q : QI} (h : okQ q = true) : Parts q := by
  obtain ⟨h1, h2, h3, h4, h5, h6⟩ := okQ_parts h
  have p1 := okS_parts h1
  have n1 := nval_ok p1.1
  have n2 := nval_ok h2
  have l1 := nval_lt _ (natOk_parts p1.1).1
  have l2 := nval_lt _ (natOk_parts h2).1
  have m1 := bp_mono h5
  have m2 := bp_mono h4
  refine ⟨h1, h2, h5, h4, natOk_limbs p1.1, natOk_limbs h2, by unfold topN; omega, by unfold denQ; omega, denQ_pos h, ?_⟩
  unfold numQ valS topN
  split <;> omega
theorem prod_lt {X Y : Nat} (hx : (X : Int) < bp 18) (hy : (Y : Int) < bp 18) : ((X * Y : Nat) : Int) < bp 36 := by
  have e : bp 36 = bp 18 * bp 18 := bp_add 18 18
  have p := bp_pos 18
  rw [e, Int.natCast_mul]
  rcases Nat.eq_zero_or_pos Y with h | h
  · subst h
    have := Int.mul_pos p p
    simpa using this
  · have h1 : (X : Int) * Y < bp 18 * Y := Int.mul_lt_mul_of_pos_right hx (by omega)
    have h2 : bp 18 * (Y : Int) ≤ bp 18 * bp 18 := Int.mul_le_mul_of_nonneg_left (by omega) (by omega)
    omega
theorem prod_len {X Y : Nat} (hx : (X : Int) < bp 18) (hy : (Y : Int) < bp 18) : (limbs (X * Y)).length ≤ 36 := limbs_length_le _ 36 (prod_lt hx hy)
theorem mul_toNat {a b : List Int} (ha : natOkB a = true) (hb : natOkB b = true) : (nval a * nval b).toNat = (nval a).toNat * (nval b).toNat := by
  have n1 := nval_ok ha
  have n2 := nval_ok hb
  rw [Int.toNat_mul n1 n2]
theorem bp37 : bp 36 + bp 36 ≤ bp 37 := by
  have e : bp 37 = 1000000000 * bp 36 := rfl
  have p := bp_pos 36
  omega
/-- a cross product with its sign -/
theorem cross_ofZ {n : Bool} {X Y : Nat} : mkS n (limbs (X * Y)) = ofZ (if n = true then -((X * Y : Nat) : Int) else ((X * Y : Nat) : Int)) ∧ okS (mkS n (limbs (X * Y))) = true ∧ (mkS n (limbs (X * Y))).2.length ≤ 50 := by
  rw [mkS_limbs]
  exact ⟨rfl, ofZ_ok _, ofZ_len _⟩
theorem cross_val {n : Bool} {X Y : Nat} (hx : (X : Int) < bp 18) (hy : (Y : Int) < bp 18) : valS (mkS n (limbs (X * Y))) = (if n = true then -(X : Int) else X) * Y := by
  have h := limbs_length_le _ 36 (prod_lt hx hy)
  rw [mkS_limbs, ofZ_val]
  · split
    · rw [Int.natCast_mul, Int.neg_mul]
    · rw [Int.natCast_mul]
  · rw [show (if n = true then -((X * Y : Nat) : Int) else ((X * Y : Nat) : Int)).natAbs = X * Y by split <;> omega]
    omega
theorem abs_lt {z : Int} {m : Nat} {b : Int} (h : z.natAbs = m) (hb : (m : Int) < b) : -b < z ∧ z < b := by omega
theorem cross_lt {n : Bool} {X Y : Nat} (hx : (X : Int) < bp 18) (hy : (Y : Int) < bp 18) : -(bp 36) < (if n = true then -(X : Int) else X) * Y ∧ (if n = true then -(X : Int) else X) * Y < bp 36 := by
  have h := prod_lt hx hy
  refine abs_lt (m := X * Y) ?_ h
  split
  · rw [Int.neg_mul, Int.natAbs_neg, ← Int.natCast_mul]; omega
  · rw [← Int.natCast_mul]; omega
/-- the sum of two cross products -/
theorem sum_ofZ {z : Int} (h1 : -(bp 37) < z) (h2 : z < bp 37) : ofZ z = (decide (z < 0), limbs z.natAbs) ∧ (limbs z.natAbs).length ≤ 37 := by
  have hl := limbs_length_le z.natAbs 37 (by omega)
  unfold ofZ
  rw [if_pos (by omega)]
  exact ⟨rfl, hl⟩
theorem lowQ_sz (n : Bool) (a b : Nat) : szQ (lowQ n a b).1 ≤ 1048576 := by
  unfold lowQ
  split
  · rename_i h
    unfold szQ szS szI
    simp only
    have : (mkS n (limbs (a / Nat.gcd a b))).2.length ≤ 50 := by rw [mkS_limbs]; exact ofZ_len _
    omega
  · decide
/-- a result that lies in its cells at block r: a new fraction and a bool with it -/
theorem newQb_at {r B : Nat} {S : List Nat} {c0 c1 c2 : Value} {x : QI} {b : Bool} {w W : World} (o : At S (OwnQ (.agg #[c0, c1, c2]) x) W) (l : Within S B W.heap.size) (hrB : r < B) (hr : w.heap.size ≤ r) (hW : Below w.heap.size w W) :
    PostQb x b w (.returned (.tuple #[.agg #[c0, c1, c2], .bool b])) (((W.setCell ⟨r, 0, none⟩ c0).setCell ⟨r, 1, none⟩ c1).setCell ⟨r, 2, none⟩ c2) := by
  have hc : Chg [r] W (((W.setCell ⟨r, 0, none⟩ c0).setCell ⟨r, 1, none⟩ c1).setCell ⟨r, 2, none⟩ c2) := (((Chg.refl _ _).setCell (by simp) _).setCell (by simp) _).setCell (by simp) _
  have hz := hc.size
  exact ⟨_, S, rfl, o.chg hc (fun i hi hm => by have := l i hi; simp at hm; omega), fun i hi => by have := l i hi; omega, below_set3 hW hr⟩
theorem Chg.setNew {T : List Nat} {w w1 : World} {p : Addr} (h : Chg T w w1) (hp : w.heap.size ≤ p.block) (u : Value) : Chg T w (w1.setCell p u) :=
  ⟨h.os, h.tape, h.output, by simpa [World.setCell] using h.size, fun i hi hn => (Below.heap_setCell _ _ _ _ (by omega)).trans (h.block i hi hn)⟩
theorem below_of_chg {w w1 : World} (h : Chg [] w w1) : Below w.heap.size w w1 := ⟨h.os, h.tape, h.output, h.size, fun i hi => h.block i hi (by simp)⟩
theorem mulX_any (va vb : Value) (a b : List Int) (X : Nat) (w : World) (hal : a.length ≤ 18) (hbl : b.length ≤ 18) (oa : natOkB a = true) (ob : natOkB b = true) (hX : (nval a * nval b).toNat = X) (ha : OwnI va a w) (hb : OwnI vb b w) :
    Calls Tryz.prog 72 #[va, vb] w (NewV (fun u => OwnI u (limbs X)) w) := by
  subst hX
  exact (specMulV_any va vb a b 0 _ 0 _ w (by omega) (by omega) (Nat.le_refl _) (Nat.le_refl _) (natOk_parts oa).1 (natOk_parts ob).1 ha.row hb.row).mono fun _ _ h => h.newV
theorem makeX_any (n : Bool) (v : Value) (X : Nat) (A : SI) (w : World) (hl : (limbs X).length ≤ 50) (hA : mkS n (limbs X) = A) (ho : OwnI v (limbs X) w) : Calls Tryz.prog 82 #[.bool n, v] w (NewV (fun u => OwnS u A) w) := by
  subst hA
  have h := l04Make_any n v (limbs X) 0 w (by omega) ho
  rw [trim_ok] at h
  exact h.mono fun _ _ h => h.newV
theorem addX_any (vx vy : Value) (x y N : SI) (w : World) (okx : okS x = true) (oky : okS y = true) (hN : ofZ (valS x + valS y) = N) (hx : OwnS vx x w) (hy : OwnS vy y w) : Calls Tryz.prog 83 #[vx, vy] w (NewV (fun u => OwnS u N) w) := by
  subst hN
  exact (l04Add_any vx vy x y w okx oky hx hy).mono fun _ _ h => h.newV
theorem lowX_any (n : Bool) (va vb : Value) (a b : List Int) (X Y : Nat) (w : World) (hX : (limbs X).length ≤ 50) (hY : (limbs Y).length ≤ 50) (ha : a = limbs X) (hb : b = limbs Y) (oa : OwnI va a w) (ob : OwnI vb b w) :
    Calls Tryz.prog 71 #[.bool n, va, vb] w (PostQb (lowQ n X Y).1 (lowQ n X Y).2 w) := by
  subst ha hb
  exact l05Low_any n va vb X Y w hX hY oa ob
end Go.Proofs.YtofehcpapdlcnabGreatDoor

namespace Go.Proofs.YtofehcpapdlcnabGreatDoor
open Go.RowKit

def modeB (m : Int) : Bool := decide (0 ≤ m ∧ m ≤ 6)
/-- the name of a mode -/
def nameB (m : Int) : ByteArray :=
  if m = 0 then ⟨#[100, 111, 119, 110]⟩ else if m = 1 then ⟨#[117, 112]⟩ else if m = 2 then ⟨#[102, 108, 111, 111, 114]⟩ else if m = 3 then ⟨#[99, 101, 105, 108]⟩
  else if m = 4 then ⟨#[104, 97, 108, 102, 100, 111, 119, 110]⟩ else if m = 5 then ⟨#[104, 97, 108, 102, 117, 112]⟩ else if m = 6 then ⟨#[104, 97, 108, 102, 101, 118, 101, 110]⟩ else ⟨#[]⟩
theorem modeB_cases {m : Int} (h : modeB m = true) : m = 0 ∨ m = 1 ∨ m = 2 ∨ m = 3 ∨ m = 4 ∨ m = 5 ∨ m = 6 := by
  have := of_decide_eq_true h
  omega
theorem modeB_false {m : Int} (h : ¬ modeB m = true) : nameB m = ⟨#[]⟩ ∧ ¬ (0 ≤ m ∧ m ≤ 6) := by
  have h' : ¬ (0 ≤ m ∧ m ≤ 6) := fun e => h (decide_eq_true e)
  refine ⟨?_, h'⟩
  unfold nameB
  rw [if_neg (by omega), if_neg (by omega), if_neg (by omega), if_neg (by omega), if_neg (by omega), if_neg (by omega), if_neg (by omega)]
end Go.Proofs.YtofehcpapdlcnabGreatDoor

namespace Go.Proofs.YtofehcpapdlcnabGreatDoor
open Go.RowKit

/-- is the size rounded up: by the sign, the whole part, what is left over, the denominator and the mode -/
def awayB (neg : Bool) (Q R D : Nat) (m : Int) : Bool :=
  if m = 0 then false else if m = 1 then true else if m = 2 then neg else if m = 3 then !neg else if m = 4 then decide (D < 2 * R) else if m = 5 then decide (D ≤ 2 * R)
  else decide (D < 2 * R) || (decide (2 * R = D) && decide (Q % 2 = 1))
def roundN (neg : Bool) (A D : Nat) (m : Int) : Nat := A / D + if A % D ≠ 0 ∧ awayB neg (A / D) (A % D) D m = true then 1 else 0
/-- a right fraction, rounded -/
def roundS (r : QI) (m : Int) : SI := mkS r.1.1 (limbs (roundN r.1.1 (topN r) (denQ r) m))
/-- what RatRound answers -/
def roundR (r : QI) (m : Int) : SI × Bool := if okQ r = true ∧ modeB m = true then (roundS r m, true) else (zeroS, false)
/-- what RatRest answers: the fraction of the rounded number, the remainder -/
def restB (r : QI) (m : Int) : Bool := (roundR r m).2 && (makeQ (roundR r m).1 (ofZ 1)).2 && (subQ r (makeQ (roundR r m).1 (ofZ 1)).1).2
def restS (r : QI) (m : Int) : SI := if restB r m = true then (roundR r m).1 else zeroS
def restQ (r : QI) (m : Int) : QI := if restB r m = true then (subQ r (makeQ (roundR r m).1 (ofZ 1)).1).1 else zeroQ
theorem roundN_le (neg : Bool) (A D : Nat) (m : Int) : roundN neg A D m ≤ A / D + 1 := by unfold roundN; split <;> omega
theorem roundN_lt {r : QI} (h : Parts r) (m : Int) : (roundN r.1.1 (topN r) (denQ r) m : Int) ≤ bp 18 := by
  have h1 := roundN_le r.1.1 (topN r) (denQ r) m
  have h2 : topN r / denQ r ≤ topN r := Nat.div_le_self ..
  have h3 := h.nlt
  omega
theorem bp_step (k : Nat) : bp k < bp (k + 1) := by
  have p := bp_pos k
  have e : bp (k + 1) = 1000000000 * bp k := rfl
  omega
theorem round_len {r : QI} (h : Parts r) (m : Int) : (limbs (roundN r.1.1 (topN r) (denQ r) m)).length ≤ 19 := limbs_length_le _ 19 (by have := roundN_lt h m; have h2 : bp 18 < bp 19 := bp_step 18; omega)
theorem roundS_ok (r : QI) (m : Int) : okS (roundS r m) = true := by unfold roundS; rw [mkS_limbs]; exact ofZ_ok _
theorem roundS_len (r : QI) (m : Int) : (roundS r m).2.length ≤ 50 := by unfold roundS; rw [mkS_limbs]; exact ofZ_len _
theorem roundR_sz (r : QI) (m : Int) : szS (roundR r m).1 ≤ 1048576 := by
  unfold roundR
  split
  · have := roundS_len r m; unfold szS szI; simp only; omega
  · decide
/-- twice the rest, against the denominator -/
theorem twice_cmp (R D : Nat) : (0 < cmpI ((R : Int) + R + 0) D ↔ D < 2 * R) ∧ (0 ≤ cmpI ((R : Int) + R + 0) D ↔ D ≤ 2 * R) ∧ (cmpI ((R : Int) + R + 0) D = 0 ↔ 2 * R = D) := by
  unfold cmpI
  split
  · omega
  · split <;> omega
theorem lastD_any {l : List Int} (h : l ≠ []) (a b : Int) : l.getLastD a = l.getLastD b := by
  cases l with
  | nil => exact absurd rfl h
  | cons x r => rfl
theorem last_tail {x : Int} {r : List Int} (h : (x :: r).getLastD 1 ≠ 0) : r.getLastD 1 ≠ 0 := by
  by_cases hr : r = []
  · subst hr; decide
  · rw [List.getLastD_cons, lastD_any hr x 1] at h; exact h
theorem last_head {x : Int} (h : [x].getLastD 1 ≠ 0) : x ≠ 0 := h
theorem last_cons {s : Int} {r : List Int} (h : r.getLastD 1 ≠ 0) (h0 : r = [] → s ≠ 0) : (s :: r).getLastD 1 ≠ 0 := by
  by_cases hr : r = []
  · subst hr; exact h0 rfl
  · rw [List.getLastD_cons, lastD_any hr s 1]; exact h
theorem addL_nil {a b : List Int} {c : Int} (h : addL a b c = []) : a = [] ∧ b = [] ∧ ¬ 0 < c := by
  cases a with
  | nil =>
    cases b with
    | nil =>
      refine ⟨rfl, rfl, fun hc => ?_⟩
      simp only [addL, if_pos hc] at h
      cases h
    | cons y r => simp only [addL] at h; cases h
  | cons x r =>
    cases b with
    | nil => simp only [addL] at h; cases h
    | cons y q => simp only [addL] at h; cases h
/-- a sum of trimmed limbs is trimmed -/
theorem addL_last (a b : List Int) (c : Int) (ha : DigN a) (hb : DigN b) (h0 : 0 ≤ c) (h1 : c ≤ 1) (la : a.getLastD 1 ≠ 0) (lb : b.getLastD 1 ≠ 0) : (addL a b c).getLastD 1 ≠ 0 := by
  induction a, b, c using addL.induct with
  | case1 c hc => simp only [addL, if_pos hc]; show c ≠ 0; omega
  | case2 c hc => simp only [addL, if_neg hc]; decide
  | case3 c x a ih =>
    have hx := ha.head
    simp only [addL]
    refine last_cons (ih ha.tail hb (by omega) (by omega) (last_tail la) lb) fun e => ?_
    obtain ⟨rfl, _, hc⟩ := addL_nil e
    have := last_head la
    omega
  | case4 c y b ih =>
    have hy := hb.head
    simp only [addL]
    refine last_cons (ih ha hb.tail (by omega) (by omega) la (last_tail lb)) fun e => ?_
    obtain ⟨_, rfl, hc⟩ := addL_nil e
    have := last_head lb
    omega
  | case5 c x a y b ih =>
    have hx := ha.head
    have hy := hb.head
    simp only [addL]
    refine last_cons (ih ha.tail hb.tail (by omega) (by omega) (last_tail la) (last_tail lb)) fun e => ?_
    obtain ⟨rfl, rfl, hc⟩ := addL_nil e
    have := last_head la
    omega
end Go.Proofs.YtofehcpapdlcnabGreatDoor

namespace Go.Proofs.YtofehcpapdlcnabGreatDoor
open Go.RowKit

end Go.Proofs.YtofehcpapdlcnabGreatDoor

namespace Go.Proofs.YtofehcpapdlcnabGreatDoor
open Go.RowKit

/-- the rational number that a fraction stands for -/
def ratV (q : QI) : Rat := (numQ q : Rat) / ((denQ q : Int) : Rat)
/-- a right fraction whose parts are short -/
structure Bd (q : QI) (m : Nat) : Prop where
  ok : okQ q = true
  num : ((numQ q).natAbs : Int) < bp m
  den : (denQ q : Int) < bp m
theorem Bd.pos {q : QI} {m : Nat} (h : Bd q m) : (0 : Int) < (denQ q : Int) := by have := denQ_pos h.ok; omega
theorem Bd.mono {q : QI} {m n : Nat} (h : Bd q m) (hm : m ≤ n) : Bd q n := ⟨h.ok, Int.lt_of_lt_of_le h.num (bp_mono hm), Int.lt_of_lt_of_le h.den (bp_mono hm)⟩
theorem rat_ne {d : Int} (h : 0 < d) : (d : Rat) ≠ 0 := by
  have : d ≠ 0 := by omega
  exact_mod_cast this
theorem ratV_of {q : QI} {N D : Int} (hq : okQ q = true) (hD : 0 < D) (h : numQ q * D = N * denQ q) : ratV q = (N : Rat) / (D : Rat) := by
  have h1 : (0 : Int) < (denQ q : Int) := by have := denQ_pos hq; omega
  have n1 := rat_ne h1
  have n2 := rat_ne hD
  have h' : (numQ q : Rat) * (D : Rat) = (N : Rat) * ((denQ q : Int) : Rat) := by exact_mod_cast h
  unfold ratV
  grind
theorem low_is (n : Bool) (a b : Nat) (hb : b ≠ 0) (ha : (a : Int) < bp 18) (hb2 : (b : Int) < bp 18) :
    (lowQ n a b).2 = true ∧ numQ (lowQ n a b).1 * b = (if n = true then -(a : Int) else a) * denQ (lowQ n a b).1 ∧ (numQ (lowQ n a b).1).natAbs ≤ a ∧ denQ (lowQ n a b).1 ≤ b := by
  have hg : 0 < Nat.gcd a b := Nat.gcd_pos_of_pos_right _ (by omega)
  obtain ⟨a', ea⟩ := Nat.gcd_dvd_left a b
  obtain ⟨b', eb⟩ := Nat.gcd_dvd_right a b
  have qa : a / Nat.gcd a b = a' := by rw [Nat.div_eq_of_eq_mul_right hg ea]
  have qb : b / Nat.gcd a b = b' := by rw [Nat.div_eq_of_eq_mul_right hg eb]
  have la : a' ≤ a := by rw [← qa]; exact Nat.div_le_self ..
  have lb : b' ≤ b := by rw [← qb]; exact Nat.div_le_self ..
  have l1 : (limbs a').length ≤ 18 := limbs_length_le _ 18 (by omega)
  have l2 : (limbs b').length ≤ 18 := limbs_length_le _ 18 (by omega)
  have e : lowQ n a b = ((mkS n (limbs a'), limbs b'), true) := by
    unfold lowQ
    rw [qa, qb, if_pos ⟨hb, l1, l2⟩]
  have ev : numQ ((mkS n (limbs a'), limbs b') : QI) = if n = true then -(a' : Int) else a' := by
    show valS (mkS n (limbs a')) = _
    rw [mkS_limbs, ofZ_val]
    rw [show (if n = true then -(a' : Int) else a').natAbs = a' by split <;> omega]
    omega
  have ed : denQ ((mkS n (limbs a'), limbs b') : QI) = b' := by
    show (nval (limbs b')).toNat = b'
    rw [limbs_val, Int.toNat_natCast]
  rw [e]
  refine ⟨rfl, ?_, ?_, ?_⟩
  · rw [ev, ed]
    have key : (a' : Int) * b = a * b' := by
      have h1 : a' * b = a * b' := by
        have e1 : a * b' = (Nat.gcd a b * a') * b' := by rw [← ea]
        have e2 : a' * b = a' * (Nat.gcd a b * b') := by rw [← eb]
        rw [e1, e2]
        ac_rfl
      exact_mod_cast h1
    split
    · rw [Int.neg_mul, Int.neg_mul, key]
    · exact key
  · rw [ev]; split <;> omega
  · rw [ed]; exact lb
theorem low_bd {n : Bool} {a b m : Nat} (hb : b ≠ 0) (hm : m ≤ 18) (ha : (a : Int) < bp m) (hb2 : (b : Int) < bp m) :
    (lowQ n a b).2 = true ∧ Bd (lowQ n a b).1 m ∧ ratV (lowQ n a b).1 = ((if n = true then -(a : Int) else a : Int) : Rat) / ((b : Int) : Rat) := by
  have h18 := bp_mono hm
  obtain ⟨h1, h2, h3, h4⟩ := low_is n a b hb (by omega) (by omega)
  have ok := lowQ_ok n a b h1
  exact ⟨h1, ⟨ok, by omega, by omega⟩, ratV_of ok (by omega) h2⟩
theorem abs_top {q : QI} (h : okQ q = true) : topN q = (numQ q).natAbs := by
  have := (parts_of h).top
  rw [this]
  split <;> omega
theorem mul_lt {a b : Nat} {i j : Nat} (ha : (a : Int) < bp i) (hb : (b : Int) < bp j) : ((a * b : Nat) : Int) < bp (i + j) := by
  rw [bp_add, Int.natCast_mul]
  have p := bp_pos i
  have q := bp_pos j
  have h1 : (a : Int) * b ≤ (bp i - 1) * b := Int.mul_le_mul_of_nonneg_right (by omega) (by omega)
  have h2 : (bp i - 1) * (b : Int) ≤ (bp i - 1) * (bp j - 1) := Int.mul_le_mul_of_nonneg_left (by omega) (by omega)
  have h3 : (bp i - 1) * (bp j - 1) = bp i * bp j - bp i - bp j + 1 := by grind
  omega
theorem negS_mag {x : SI} (h : okS x = true) : (negS x).2 = x.2 := by
  have hp := okS_parts h
  have hl := (natOk_parts hp.1).2.1
  have ha := valS_abs x hp.1
  have hx := natOk_limbs hp.1
  unfold negS
  rw [if_pos h]
  have e : (-valS x).natAbs = (nval x.2).toNat := by rw [Int.natAbs_neg]; omega
  unfold ofZ
  rw [e, ← hx, if_pos hl]
theorem neg_bd {s : QI} {k : Nat} (hs : Bd s k) : (negQ s).2 = true ∧ Bd (negQ s).1 k ∧ ratV (negQ s).1 = - ratV s := by
  have hp := okQ_parts hs.ok
  have hm := negS_mag hp.1
  have e : negQ s = ((negS s.1, s.2), true) := by unfold negQ; rw [if_pos hs.ok]
  have ev : numQ ((negS s.1, s.2) : QI) = - numQ s := by
    have hl : (limbs (-valS s.1).natAbs).length ≤ 50 := by
      have := (natOk_parts (okS_parts hp.1).1).2.1
      have hx := natOk_limbs (okS_parts hp.1).1
      have ha := valS_abs s.1 (okS_parts hp.1).1
      rw [Int.natAbs_neg, show (valS s.1).natAbs = (nval s.1.2).toNat by omega, ← hx]
      exact this
    show valS (negS s.1) = - valS s.1
    unfold negS
    rw [if_pos hp.1, ofZ_val hl]
  have hok : okQ ((negS s.1, s.2) : QI) = true := by
    have hn : okS (negS s.1) = true := by unfold negS; rw [if_pos hp.1]; exact ofZ_ok _
    unfold okQ
    simp only
    rw [hn, hp.2.1, hm]
    simp only [Bool.true_and, decide_eq_true_eq]
    exact ⟨hp.2.2.1, hp.2.2.2.1, hp.2.2.2.2.1, hp.2.2.2.2.2⟩
  rw [e]
  refine ⟨rfl, ⟨hok, by rw [ev, Int.natAbs_neg]; exact hs.num, hs.den⟩, ?_⟩
  unfold ratV
  rw [ev, show denQ ((negS s.1, s.2) : QI) = denQ s from rfl]
  simp only [Rat.intCast_neg]
  grind
end Go.Proofs.YtofehcpapdlcnabGreatDoor

namespace Go.Proofs.YtofehcpapdlcnabGreatDoor
open Go.RowKit

/-- what rounding makes of the size: the whole part, or one more where something is left over -/
theorem roundN_cases (neg : Bool) (A D : Nat) (m : Int) : (roundN neg A D m = A / D ∧ (A % D = 0 ∨ awayB neg (A / D) (A % D) D m = false)) ∨ (roundN neg A D m = A / D + 1 ∧ A % D ≠ 0 ∧ awayB neg (A / D) (A % D) D m = true) := by
  unfold roundN
  by_cases h : A % D ≠ 0 ∧ awayB neg (A / D) (A % D) D m = true
  · rw [if_pos h]; exact .inr ⟨rfl, h.1, h.2⟩
  · rw [if_neg h]
    refine .inl ⟨by omega, ?_⟩
    by_cases h0 : A % D = 0
    · exact .inl h0
    · refine .inr ?_
      rcases Bool.eq_false_or_eq_true (awayB neg (A / D) (A % D) D m) with e | e
      · exact absurd ⟨h0, e⟩ h
      · exact e
theorem near_away {neg : Bool} {Q R D : Nat} {m : Int} (h4 : 4 ≤ m) (h6 : m ≤ 6) : (awayB neg Q R D m = true → D ≤ 2 * R) ∧ (awayB neg Q R D m = false → 2 * R ≤ D) := by
  rcases (show m = 4 ∨ m = 5 ∨ m = 6 by omega) with rfl | rfl | rfl
  · show (decide (D < 2 * R) = true → _) ∧ (decide (D < 2 * R) = false → _)
    rw [decide_eq_true_eq, decide_eq_false_iff_not]; omega
  · show (decide (D ≤ 2 * R) = true → _) ∧ (decide (D ≤ 2 * R) = false → _)
    rw [decide_eq_true_eq, decide_eq_false_iff_not]; omega
  · show ((decide (D < 2 * R) || (decide (2 * R = D) && decide (Q % 2 = 1))) = true → _) ∧ ((decide (D < 2 * R) || (decide (2 * R = D) && decide (Q % 2 = 1))) = false → _)
    rw [Bool.or_eq_true, Bool.or_eq_false_iff, Bool.and_eq_true, decide_eq_true_eq, decide_eq_true_eq, decide_eq_false_iff_not]
    omega
/-- the rounded size times the denominator is off by less than one, by at most a half in the nearest modes, and not at all where nothing is left over -/
theorem round_off (neg : Bool) (A D : Nat) (m : Int) (hD : 0 < D) : ∃ e : Int, (roundN neg A D m : Int) * D = A + e ∧ -(D : Int) < e ∧ e < D ∧ (4 ≤ m → m ≤ 6 → 2 * e ≤ D ∧ -(D : Int) ≤ 2 * e) ∧ (e = 0 ↔ A % D = 0) := by
  have h1 := Nat.div_add_mod A D
  have h2 := Nat.mod_lt A hD
  rcases roundN_cases neg A D m with ⟨hk, hc⟩ | ⟨hk, h0, hc⟩
  · refine ⟨-((A % D : Nat) : Int), ?_, by omega, by omega, fun h4 h6 => ?_, by omega⟩
    · rw [hk, Int.mul_comm, ← Int.natCast_mul]; omega
    · rcases hc with hc | hc
      · omega
      · have := (near_away h4 h6).2 hc; omega
  · refine ⟨(D : Int) - ((A % D : Nat) : Int), ?_, by omega, by omega, fun h4 h6 => ?_, by omega⟩
    · rw [hk, Int.natCast_add, Int.add_mul, Int.mul_comm, ← Int.natCast_mul]; omega
    · have := (near_away h4 h6).1 hc; omega
theorem roundS_val {r : QI} (h : Parts r) (m : Int) : valS (roundS r m) = if r.1.1 = true then -(roundN r.1.1 (topN r) (denQ r) m : Int) else roundN r.1.1 (topN r) (denQ r) m := by
  unfold roundS
  rw [mkS_limbs, ofZ_val]
  have := round_len h m
  rw [show (if r.1.1 = true then -(roundN r.1.1 (topN r) (denQ r) m : Int) else roundN r.1.1 (topN r) (denQ r) m).natAbs = roundN r.1.1 (topN r) (denQ r) m by split <;> omega]
  omega
/-- the value of a rounded fraction, against the fraction -/
theorem round_val {r : QI} (h : okQ r = true) (m : Int) : ∃ e : Int, valS (roundS r m) * denQ r = numQ r + e ∧ -(denQ r : Int) < e ∧ e < denQ r ∧ (4 ≤ m → m ≤ 6 → 2 * e ≤ denQ r ∧ -(denQ r : Int) ≤ 2 * e) ∧ (e = 0 ↔ topN r % denQ r = 0) := by
  have hp := parts_of h
  obtain ⟨e, h1, h2, h3, h4, h5⟩ := round_off r.1.1 (topN r) (denQ r) m hp.pos
  rw [roundS_val hp, hp.top]
  generalize roundN r.1.1 (topN r) (denQ r) m = k at *
  cases r.1.1 with
  | true => exact ⟨-e, by rw [if_pos rfl, if_pos rfl, Int.neg_mul, h1]; omega, by omega, by omega, fun a b => by have := h4 a b; omega, by omega⟩
  | false => exact ⟨e, by rw [if_neg (by decide), if_neg (by decide), h1], by omega, by omega, h4, h5⟩
end Go.Proofs.YtofehcpapdlcnabGreatDoor
