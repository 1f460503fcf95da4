/-
  JA6
-/
import Derived.Deep.RegionHeld3
import Derived.Deep.DeepCutAuto
import Derived.Deep.Cut
import Derived.Deep.CutBlock
import Derived.Test.YtofehcpapdlcnabGreatDoorJE5
namespace Go.Proofs.YtofehcpapdlcnabGreatDoor
open Go.RowKit

set_option maxHeartbeats 1000000 in
set_option maxRecDepth 100000 in
theorem implIntNum_any (v : Value) (x : SI) (w : World) (hl : x.2.length ≤ 1048576) (h : OwnS v x w) :
    Calls Tryz.prog 57 #[v] w fun e w' => e = .returned (.tuple #[.int .i64 (numS x).1, .bool (numS x).2]) ∧ Below w.heap.size w w' := by
  obtain ⟨u, rfl, ho⟩ := h
  obtain ⟨A, c, rfl⟩ := own_len ho
  have hbb : Below w.heap.size w (w.alloc (.cells #[.bool x.1, .slice A x.2.length c] 29)) := below_al (Below.refl _ _) _
  have kb := box_new w #[.bool x.1, .slice A x.2.length c] 29
  have hoB := own_below ho hbb
  have hrow := (ownI_of hoB).row
  by_cases hN : natOkB x.2 = true ∧ nval x.2 ≤ 9223372036854775807
  · have h0 := nval_ok hN.1
    have HI := Lib.hid (show natIntN x.2 = (nval x.2, true) by unfold natIntN; rw [if_pos hN])
    have h63 := hN.2
    by_cases ok : okS x = true
    · have HV := Lib.hid (show numS x = (valS x, true) by unfold numS; rw [if_pos ⟨ok, hN.2⟩])
      have HX := Lib.hid (show valS x = if x.1 = true then -(nval x.2) else nval x.2 from rfl)
      clear hN
      go_enter Tryz.func57, Tryz.ntmps57
      go_wp2_with fail
      refine (implNatInt_any _ x.2 0 _ _ hl (Nat.le_refl _) hrow).mono ?_
      rintro e w1 ⟨rfl, b1⟩
      rw [HI.out]
      have bb1 := Below.next hbb b1
      replace kb := kb.below b1
      have cb0 := kb.here.cell 0 _ rfl
      have cb1 := kb.here.cell 1 _ rfl
      have hrd : RdS w1 (.agg #[.bool x.1, .slice A x.2.length c]) x := (OwnS.mk (x := x) (ownI_of (own_below hoB b1))).rd
      clear hrow hoB ho
      go_wp2_with fail
      refine (implIntOk_any _ x w1 hl hrd).mono ?_
      rintro e w2 ⟨rfl, b2⟩
      rw [ok]
      have bb2 := Below.next bb1 b2
      replace kb := kb.below b2
      clear cb0 cb1 hrd
      have cb0 := kb.here.cell 0 _ rfl
      cases hx1 : x.1 with
      | false =>
        rw [hx1] at HX cb0
        clear hx1
        go_wp2
        go_ret2
        exact ⟨by rw [HV.out, HX.out]; rfl, bb2⟩
      | true =>
        rw [hx1] at HX cb0
        clear hx1
        go_wp2
        go_ret2
        exact ⟨by rw [HV.out, HX.out]; rfl, bb2⟩
    · have ok' : okS x = false := by simpa using ok
      have HV := Lib.hid (show numS x = (0, false) by unfold numS; rw [if_neg (fun h => ok h.1)])
      clear hN ok
      go_enter Tryz.func57, Tryz.ntmps57
      go_wp2_with fail
      refine (implNatInt_any _ x.2 0 _ _ hl (Nat.le_refl _) hrow).mono ?_
      rintro e w1 ⟨rfl, b1⟩
      rw [HI.out]
      have bb1 := Below.next hbb b1
      replace kb := kb.below b1
      have cb0 := kb.here.cell 0 _ rfl
      have cb1 := kb.here.cell 1 _ rfl
      have hrd : RdS w1 (.agg #[.bool x.1, .slice A x.2.length c]) x := (OwnS.mk (x := x) (ownI_of (own_below hoB b1))).rd
      clear hrow hoB ho
      go_wp2_with fail
      refine (implIntOk_any _ x w1 hl hrd).mono ?_
      rintro e w2 ⟨rfl, b2⟩
      rw [ok']
      have bb2 := Below.next bb1 b2
      go_wp2
      go_ret2
      exact ⟨by rw [HV.out]; rfl, bb2⟩
  · have HI := Lib.hid (show natIntN x.2 = (0, false) by unfold natIntN; rw [if_neg hN])
    have HV := Lib.hid (show numS x = (0, false) by unfold numS; rw [if_neg (fun h => hN ⟨(okS_parts h.1).1, h.2⟩)])
    clear hN
    go_enter Tryz.func57, Tryz.ntmps57
    go_wp2_with fail
    refine (implNatInt_any _ x.2 0 _ _ hl (Nat.le_refl _) hrow).mono ?_
    rintro e w1 ⟨rfl, b1⟩
    rw [HI.out]
    have bb1 := Below.next hbb b1
    clear hrow hoB ho
    go_wp2
    go_ret2
    exact ⟨by rw [HV.out]; rfl, bb1⟩

set_option maxHeartbeats 2000000 in
set_option maxRecDepth 100000 in
theorem implIntCmp_any (vx vy : Value) (x y : SI) (w : World) (hlx : x.2.length ≤ 1048576) (hly : y.2.length ≤ 1048576) (hx : OwnS vx x w) (hy : OwnS vy y w) :
    Calls Tryz.prog 89 #[vx, vy] w fun e w' => e = .returned (.int .i64 (cmpS x y)) ∧ Below w.heap.size w w' := by
  obtain ⟨ux, rfl, hox⟩ := hx
  obtain ⟨uy, rfl, hoy⟩ := hy
  obtain ⟨Ax, cx, rfl⟩ := own_len hox
  obtain ⟨Ay, cy, rfl⟩ := own_len hoy
  have hbb : Below w.heap.size w ((w.alloc (.cells #[.bool x.1, .slice Ax x.2.length cx] 29)).alloc (.cells #[.bool y.1, .slice Ay y.2.length cy] 29)) := below_al (below_al (Below.refl _ _) _) _
  have kx := (box_new w #[.bool x.1, .slice Ax x.2.length cx] 29).below (below_al (Below.refl _ _) (.cells #[.bool y.1, .slice Ay y.2.length cy] 29))
  have ky := box_new (w.alloc (.cells #[.bool x.1, .slice Ax x.2.length cx] 29)) #[.bool y.1, .slice Ay y.2.length cy] 29
  rw [show (w.alloc (.cells #[.bool x.1, .slice Ax x.2.length cx] 29)).heap.size = w.heap.size + 1 by simp] at ky
  have ox := own_below hox hbb
  have oy := own_below hoy hbb
  have rdx := (OwnS.mk (x := x) (ownI_of ox)).rd
  clear hox hoy
  by_cases okx : okS x = true
  · go_enter Tryz.func89, Tryz.ntmps89
    go_wp2_with fail
    refine (implIntOk_any _ x _ hlx rdx).mono ?_
    rintro e w1 ⟨rfl, b1⟩
    rw [okx]
    have bb1 := Below.next hbb b1
    replace kx := kx.below b1
    replace ky := ky.below b1
    replace ox := own_below ox b1
    replace oy := own_below oy b1
    have cy0 := ky.here.cell 0 _ rfl
    have cy1 := ky.here.cell 1 _ rfl
    clear rdx
    go_wp2_with fail
    refine (implIntOk_any _ y w1 hly (OwnS.mk (x := y) (ownI_of oy)).rd).mono ?_
    rintro e w2 ⟨rfl, b2⟩
    have bb2 := Below.next bb1 b2
    replace kx := kx.below b2
    replace ky := ky.below b2
    replace ox := own_below ox b2
    replace oy := own_below oy b2
    clear cy0 cy1
    by_cases oky : okS y = true
    · rw [oky]
      have HV := Lib.hid (show cmpS x y = cmpI (valS x) (valS y) by unfold cmpS; rw [if_pos ⟨okx, oky⟩])
      have px := okS_parts okx
      have py := okS_parts oky
      have h0x := nval_ok px.1
      have h0y := nval_ok py.1
      have Dx := Lib.hid (natOk_parts px.1)
      have Dy := Lib.hid (natOk_parts py.1)
      have cx0 := kx.here.cell 0 _ rfl
      have cx1 := kx.here.cell 1 _ rfl
      have cy0 := ky.here.cell 0 _ rfl
      have cy1 := ky.here.cell 1 _ rfl
      have hpx : x.1 = true → 0 < nval x.2 := fun h => okS_pos okx (px.2 h)
      have hpy : y.1 = true → 0 < nval y.2 := fun h => okS_pos oky (py.2 h)
      have HPX := Lib.hid hpx
      have HPY := Lib.hid hpy
      have rx := (ownI_of ox).row
      have ry := (ownI_of oy).row
      clear px py hpx hpy okx oky kx ky
      cases hx1 : x.1 <;> cases hy1 : y.1
      · rw [hx1] at cx0
        rw [hy1] at cy0
        have HC := Lib.hid (show cmpI (valS x) (valS y) = cmpI (nval x.2) (nval y.2) by unfold valS; rw [hx1, hy1]; rfl)
        clear hx1 hy1
        go_wp2_with fail
        refine (compareLimbs_any _ _ x.2 y.2 0 _ 0 _ w2 (by omega) (by omega) ⟨Dx.out.1, Dx.out.2.2⟩ ⟨Dy.out.1, Dy.out.2.2⟩ rx ry).mono ?_
        rintro e w' ⟨rfl, q, rfl⟩
        go_wp2
        go_ret
        exact ⟨ret_int (by rw [HV.out, HC.out]), below_drewN bb2 q⟩
      · rw [hx1] at cx0
        rw [hy1] at cy0
        have HC := Lib.hid (show cmpI (valS x) (valS y) = 1 by have := HPY.out hy1; unfold valS; rw [hx1, hy1]; simp; unfold cmpI; rw [if_neg (by omega), if_pos (by omega)])
        clear hx1 hy1
        go_wp2
        go_ret
        exact ⟨ret_int (by rw [HV.out, HC.out]), bb2⟩
      · rw [hx1] at cx0
        rw [hy1] at cy0
        have HC := Lib.hid (show cmpI (valS x) (valS y) = -1 by have := HPX.out hx1; unfold valS; rw [hx1, hy1]; simp; unfold cmpI; rw [if_pos (by omega)])
        clear hx1 hy1
        go_wp2
        go_ret
        exact ⟨ret_int (by rw [HV.out, HC.out]), bb2⟩
      · rw [hx1] at cx0
        rw [hy1] at cy0
        have HC := Lib.hid (show cmpI (valS x) (valS y) = cmpI (nval y.2) (nval x.2) by unfold valS; rw [hx1, hy1]; simp; unfold cmpI; split <;> split <;> (try split) <;> (try split) <;> omega)
        clear hx1 hy1
        go_wp2_with fail
        refine (compareLimbs_any _ _ y.2 x.2 0 _ 0 _ w2 (by omega) (by omega) ⟨Dy.out.1, Dy.out.2.2⟩ ⟨Dx.out.1, Dx.out.2.2⟩ ry rx).mono ?_
        rintro e w' ⟨rfl, q, rfl⟩
        go_wp2
        go_ret
        exact ⟨ret_int (by rw [HV.out, HC.out]), below_drewN bb2 q⟩
    · have oky' : okS y = false := by simpa using oky
      have HV := Lib.hid (show cmpS x y = 0 by unfold cmpS; rw [if_neg (fun h => oky h.2)])
      rw [oky']
      clear oky kx ky
      go_wp2
      go_ret
      exact ⟨ret_int HV.out.symm, bb2⟩
  · have okx' : okS x = false := by simpa using okx
    have HV := Lib.hid (show cmpS x y = 0 by unfold cmpS; rw [if_neg (fun h => okx h.1)])
    clear okx
    go_enter Tryz.func89, Tryz.ntmps89
    go_wp2_with fail
    refine (implIntOk_any _ x _ hlx rdx).mono ?_
    rintro e w1 ⟨rfl, b1⟩
    rw [okx']
    have bb1 := Below.next hbb b1
    clear kx ky rdx
    go_wp2
    go_ret
    exact ⟨ret_int HV.out.symm, bb1⟩

set_option maxHeartbeats 400000 in
set_option maxRecDepth 100000 in
theorem implIntSign_any (v : Value) (x : SI) (w : World) (hl : x.2.length ≤ 1048576) (h : OwnS v x w) :
    Calls Tryz.prog 54 #[v] w fun e w' => e = .returned (.int .i64 (cmpS x zeroS)) ∧ Below w.heap.size w w' := by
  obtain ⟨u, rfl, ho⟩ := h
  obtain ⟨A, c, rfl⟩ := own_len ho
  have hbb : Below w.heap.size w (w.alloc (.cells #[.bool x.1, .slice A x.2.length c] 29)) := below_al (Below.refl _ _) _
  have hoB := OwnS.mk (x := x) (ownI_of (own_below ho hbb))
  have hz : OwnS (.agg #[.bool false, .slice none 0 0]) zeroS (w.alloc (.cells #[.bool x.1, .slice A x.2.length c] 29)) := ⟨_, rfl, World.ownsRow_nil _ _ _ _⟩
  go_enter Tryz.func54, Tryz.ntmps54
  go_wp2_with fail
  refine (implIntCmp_any _ _ x zeroS _ hl (by decide) hoB hz).mono ?_
  rintro e w1 ⟨rfl, b1⟩
  go_wp2
  go_ret
  exact ⟨rfl, Below.next hbb b1⟩

end Go.Proofs.YtofehcpapdlcnabGreatDoor

namespace Go.Proofs.YtofehcpapdlcnabGreatDoor
open Go.RowKit

/-- an integer under construction: its limbs lie at the head of its block, its sign behind them -/
@[reducible] def intK (n : Bool) : NatK := ⟨[.bool n], 115, by decide⟩
theorem NatX.below {K : NatK} {B b : Nat} {xs : List Int} {w w' : World} (h : NatX K B b xs w) (hb : Below w.heap.size w w') : NatX K B b xs w' := by
  have hlt := h.lt
  obtain ⟨hB, v, hk, ho, hne⟩ := h
  exact ⟨hB, v, (hb.block b hlt).trans hk, own_below ho hb, hne⟩
/-- a new integer -/
def NewInteger (x : SI) (w : World) (e : Ending) (w' : World) : Prop :=
  ∃ b, e = .returned (.pointer (some ⟨b, 0, none⟩)) ∧ NatX (intK x.1) w.heap.size b x.2 w' ∧ Below w.heap.size w w'

theorem NatX.sign {m : Bool} {B b : Nat} {xs : List Int} {w : World} (h : NatX (intK m) B b xs w) (n : Bool) : NatX (intK n) B b xs (w.setCell ⟨b, 1, none⟩ (.bool n)) := by
  obtain ⟨hB, v, hk, ho, hne⟩ := h
  refine ⟨hB, v, ?_, own_stays ho fun i hi => Below.heap_setCell _ _ _ _ (fun e => hne (by rw [hi, e])), hne⟩
  simp [World.setCell, Array.getElem?_modify, hk]
set_option maxHeartbeats 1000000 in
set_option maxRecDepth 100000 in
theorem copyInt_any (v : Value) (x : SI) (w : World) (hl : x.2.length ≤ 1048576) (h : RdS w v x) :
    Calls Tryz.prog 100 #[v] w (NewInteger x w) := by
  obtain ⟨u, rfl, hp⟩ := h
  obtain ⟨A, c, rfl⟩ := row_form hp
  rw [intsV_length] at hp ⊢
  have hbx : Below w.heap.size w (w.alloc (.cells #[.bool x.1, .slice A x.2.length c] 29)) := below_al (Below.refl _ _) _
  have kx := box_new w #[.bool x.1, .slice A x.2.length c] 29
  obtain ⟨W0, hW0⟩ : ∃ W0, W0 = w.alloc (.cells #[.bool x.1, .slice A x.2.length c] 29) := ⟨_, rfl⟩
  rw [← hW0] at hbx kx
  have HW := Lib.hid hW0
  have HP := Lib.hid hp
  have c0 := kx.here.cell 0 _ rfl
  have c1 := kx.here.cell 1 _ rfl
  have HBX := Lib.hid hbx
  have KX := Lib.hid kx
  clear hp hW0 kx hbx
  go_enter Tryz.func100, Tryz.ntmps100
  go_wp2_with fail
  rw [← HW.out]
  go_region_with (go_at_call 131; refine (copyNat_any _ x.2 0 w.heap.size _ hl (HP.out.below (Below.drew1 HBX.out) (Nat.le_refl _))).mono ?_; rintro e w3 ⟨b, rfl, hx, b3⟩; obtain ⟨hB, vv, hbk, hown, hne⟩ := hx; obtain ⟨A3, c3, rfl⟩ := own_len hown; have hk3 := ((At.move (w' := W0.drew) KX.out (fun _ _ => rfl) (Nat.le_refl _)).below b3).here; (have d0 := hk3.cell 0 _ rfl); (have d1 := hk3.cell 1 _ rfl); (have cb := NatX.cell hbk); have HO := Lib.hid hown; have HB3 := Lib.hid b3; clear hbk hown hne hB b3 hk3)
  all_goals
    have bb3 := Below.next (Below.drew1 HBX.out) HB3.out
    go_wp2
    go_ret
    exact ⟨_, rfl, NatX.new (K := intK x.1) bb3.size (own_low HO.out (Below.drew1 HBX.out).size), below_al bb3 _⟩

/-- a new signed number; its limbs lie at B or behind it -/
def NewSB (B : Nat) (x : SI) (w : World) (e : Ending) (w' : World) : Prop := ∃ u, e = .returned (.agg #[.bool x.1, u]) ∧ w'.ownsRow B 3 1 u x.2.length (intsV x.2) ∧ Below w.heap.size w w'
set_option maxHeartbeats 1000000 in
set_option maxRecDepth 100000 in
theorem signed_any (n : Bool) (B b : Nat) (xs : List Int) (w : World) (hl : xs.length ≤ 1048576) (h : NatX (intK n) B b xs w) :
    Calls Tryz.prog 103 #[.pointer (some ⟨b, 0, none⟩)] w (NewSB B (mkS n xs) w) := by
  have hcl : (capL xs).length ≤ 50 := by
    unfold capL
    split
    · simp
    · omega
  have HR := Lib.hid (show mkS n xs = (n && decide (0 < (capL xs).length), capL xs) from rfl)
  have hbb := below_al (Below.refl w.heap.size w) (.cells #[.bool false, .slice none 0 0] 29)
  have kr := box_new w #[.bool false, .slice none 0 0] 29
  have hx : NatX (intK n) B b xs (w.alloc (.cells #[.bool false, .slice none 0 0] 29)) := h.below hbb
  obtain ⟨W0, hW0⟩ : ∃ W0, W0 = w.alloc (.cells #[.bool false, .slice none 0 0] 29) := ⟨_, rfl⟩
  rw [← hW0] at hx hbb kr
  have HW := Lib.hid hW0
  clear hW0
  have cn : W0.cell? ⟨b, 1, none⟩ = some (.bool n) := by
    obtain ⟨_, v, hb, _⟩ := hx
    exact NatX.cell1 hb 0 rfl
  have cz0 := kr.here.cell 0 _ rfl
  have cz1 := kr.here.cell 1 _ rfl
  have fz0 := Lib.frozen_of_heap kr.here 0
  have fz1 := Lib.frozen_of_heap kr.here 1
  have HK := Lib.hid kr
  clear kr h
  cases n
  all_goals
    go_enter Tryz.func103, Tryz.ntmps103
    go_wp2_with fail
    rw [← HW.out]
    refine (natResult_any B b xs _ hl hx).mono ?_
    rintro e w1 ⟨rfl, v1, rfl, o1⟩
    obtain ⟨A1, c1, rfl⟩ := own_len o1
    have HR2 := HR.out
    generalize capL xs = ys at *
    have HO := Lib.hid o1
    have HRR := Lib.hid HR2
    clear o1 hx HR2 HR
    go_wp2
    refine bodyPost_ret (v := .agg #[.bool _, .slice A1 ys.length c1]) (by simp [results, Tryz.results103, go_sem, cz0, cz1]; rfl) rfl ?_
    rw [HRR.out]
    have hne := Lib.ownBlock_ne HO.out HK.out.here (by decide)
    refine ⟨.slice A1 ys.length c1, ?_, own_stays HO.out fun i hi => ?_, below_set2 hbb (Nat.le_refl _)⟩
    · first | rfl | simp
    · have : i ≠ w.heap.size := fun e => hne (by rw [hi, e])
      exact (Below.heap_setCell _ _ _ _ this).trans (Below.heap_setCell _ _ _ _ this)

set_option maxHeartbeats 1000000 in
set_option maxRecDepth 100000 in
theorem withSign_any (v : Value) (x : SI) (n : Bool) (w : World) (hl : x.2.length ≤ 1048576) (h : OwnS v x w) :
    Calls Tryz.prog 95 #[v, .bool n] w (NewS (if okS x = true then mkS n x.2 else zeroS) w) := by
  obtain ⟨u, rfl, ho⟩ := h
  obtain ⟨A, c, rfl⟩ := own_len ho
  have hbb : Below w.heap.size w ((w.alloc (.cells #[.bool x.1, .slice A x.2.length c] 29)).alloc (.cells #[.bool false, .slice none 0 0] 29)) := below_al (below_al (Below.refl _ _) _) _
  have kb := (box_new w #[.bool x.1, .slice A x.2.length c] 29).below (below_al (Below.refl _ _) (.cells #[.bool false, .slice none 0 0] 29))
  have kr := box_new (w.alloc (.cells #[.bool x.1, .slice A x.2.length c] 29)) #[.bool false, .slice none 0 0] 29
  rw [show (w.alloc (.cells #[.bool x.1, .slice A x.2.length c] 29)).heap.size = w.heap.size + 1 by simp] at kr
  have hoB := own_below ho hbb
  have hrd : RdS _ (.agg #[.bool x.1, .slice A x.2.length c]) x := (OwnS.mk (x := x) (ownI_of hoB)).rd
  by_cases ok : okS x = true
  · rw [if_pos ok]
    go_enter Tryz.func95, Tryz.ntmps95
    go_wp2_with fail
    refine (implIntOk_any _ x _ hl hrd).mono ?_
    rintro e w1 ⟨rfl, b1⟩
    rw [ok]
    clear ok
    have bb1 := Below.next hbb b1
    replace kb := kb.below b1
    replace kr := kr.below b1
    have hlt1 : w.heap.size + 1 < w1.heap.size := kr.lt _ (by simp)
    have ho1 := own_below hoB b1
    have cb0 := kb.here.cell 0 _ rfl
    have cb1 := kb.here.cell 1 _ rfl
    clear hoB hrd ho
    go_wp2_with fail
    refine (copyInt_any _ x _ hl (OwnS.mk (x := x) (ownI_of ho1)).rd).mono ?_
    rintro e w2 ⟨b, rfl, hx, b2⟩
    have bb2 := Below.next bb1 b2
    replace kr := kr.below b2
    have fn1 : w2.frozen? ⟨b, 1, none⟩ = false := by
      obtain ⟨_, v, hb, _⟩ := hx
      exact Lib.frozen_of_heap hb 1
    have cn1 : w2.cell? ⟨b, 1, none⟩ = some (.bool x.1) := by
      obtain ⟨_, v, hb, _⟩ := hx
      exact NatX.cell1 hb 0 rfl
    have hx2 := hx.sign n
    have hbr : w1.heap.size ≤ b := hx.1
    have hc2 : Chg [b] w2 (w2.setCell ⟨b, 1, none⟩ (.bool n)) := (Chg.refl _ _).setCell (by simp) _
    have bb3 : Below w.heap.size w (w2.setCell ⟨b, 1, none⟩ (.bool n)) := below_chg bb2 hc2 bb2.size (fun g hg => by simp at hg; have := bb1.size; omega)
    have kr3 := kr.chg hc2 (fun i hi hm => by simp at hi hm; omega)
    clear kr kb cb0 cb1 ho1 hx
    go_wp2_with fail
    refine (signed_any n _ b x.2 _ hl hx2).mono ?_
    rintro e w3 ⟨u3, rfl, o3, b3⟩
    obtain ⟨A3, c3, rfl⟩ := own_len o3
    have bb4 := Below.next bb3 b3
    have kr4 := kr3.below b3
    have cz0 := kr4.here.cell 0 _ rfl
    have cz1 := kr4.here.cell 1 _ rfl
    have fz0 := Lib.frozen_of_heap kr4.here 0
    have fz1 := Lib.frozen_of_heap kr4.here 1
    have HO := Lib.hid o3
    have HK := Lib.hid kr4
    clear o3 kr3 kr4 hc2 hx2
    go_wp2
    refine bodyPost_ret (v := .agg #[.bool _, .slice A3 _ c3]) (by simp [results, Tryz.results95, go_sem, cz0, cz1]; exact ⟨rfl, rfl⟩) rfl ?_
    exact newS_ret HK.out.here HO.out bb1.size (by omega) bb4
  · have ok' : okS x = false := by simpa using ok
    rw [if_neg ok]
    clear ok
    go_enter Tryz.func95, Tryz.ntmps95
    go_wp2_with fail
    refine (implIntOk_any _ x _ hl hrd).mono ?_
    rintro e w1 ⟨rfl, b1⟩
    rw [ok']
    have bb1 := Below.next hbb b1
    replace kr := kr.below b1
    have cz0 := kr.here.cell 0 _ rfl
    have cz1 := kr.here.cell 1 _ rfl
    have fz0 := Lib.frozen_of_heap kr.here 0
    have fz1 := Lib.frozen_of_heap kr.here 1
    clear kb hoB hrd ho
    go_wp2
    refine bodyPost_ret (v := .agg #[.bool false, .slice none 0 0]) (by simp [results, Tryz.results95, go_sem, cz0, cz1]) rfl ?_
    exact newS_zero (below_set2 bb1 (by omega))
theorem natOk_trim {xs : List Int} (h : natOkB xs = true) : trimL xs = xs := by
  rw [ok_trimL h, ← natOk_limbs h]
set_option maxHeartbeats 1000000 in
set_option maxRecDepth 100000 in
theorem implIntNeg_any (v : Value) (x : SI) (w : World) (hl : x.2.length ≤ 1048576) (h : OwnS v x w) :
    Calls Tryz.prog 96 #[v] w (NewS (negS x) w) := by
  have HV := Lib.hid (show (if okS x = true then mkS (!x.1) x.2 else zeroS) = negS x by
    by_cases ok : okS x = true
    · rw [if_pos ok, ← negS_mk ok, natOk_trim (okS_parts ok).1]
    · unfold negS; rw [if_neg ok, if_neg ok])
  obtain ⟨u, rfl, ho⟩ := h
  obtain ⟨A, c, rfl⟩ := own_len ho
  have hbb : Below w.heap.size w ((w.alloc (.cells #[.bool x.1, .slice A x.2.length c] 29)).alloc (.cells #[.bool false, .slice none 0 0] 29)) := below_al (below_al (Below.refl _ _) _) _
  have kr := box_new (w.alloc (.cells #[.bool x.1, .slice A x.2.length c] 29)) #[.bool false, .slice none 0 0] 29
  rw [show (w.alloc (.cells #[.bool x.1, .slice A x.2.length c] 29)).heap.size = w.heap.size + 1 by simp] at kr
  have hoB := OwnS.mk (x := x) (ownI_of (own_below ho hbb))
  clear ho
  go_enter Tryz.func96, Tryz.ntmps96
  go_wp2_with fail
  refine (withSign_any _ x (!x.1) _ hl hoB).mono ?_
  rw [HV.out]
  rintro e w1 ⟨u1, rfl, o1, b1⟩
  generalize negS x = z at *
  obtain ⟨A1, c1, rfl⟩ := own_len o1
  have bb1 := Below.next hbb b1
  replace kr := kr.below b1
  have cz0 := kr.here.cell 0 _ rfl
  have cz1 := kr.here.cell 1 _ rfl
  have fz0 := Lib.frozen_of_heap kr.here 0
  have fz1 := Lib.frozen_of_heap kr.here 1
  have HO := Lib.hid o1
  have HK := Lib.hid kr
  clear o1 kr hoB HV
  go_wp2
  refine bodyPost_ret (v := .agg #[.bool _, .slice A1 _ c1]) (by simp [results, Tryz.results96, go_sem, cz0, cz1]; exact ⟨rfl, rfl⟩) rfl ?_
  exact newS_ret HK.out.here HO.out hbb.size (by omega) bb1

set_option maxHeartbeats 1000000 in
set_option maxRecDepth 100000 in
theorem implIntAbs_any (v : Value) (x : SI) (w : World) (hl : x.2.length ≤ 1048576) (h : OwnS v x w) :
    Calls Tryz.prog 58 #[v] w (NewS (absS x) w) := by
  have HV := Lib.hid (show (if okS x = true then mkS (false) x.2 else zeroS) = absS x by
    by_cases ok : okS x = true
    · rw [if_pos ok, ← absS_mk ok, natOk_trim (okS_parts ok).1]
    · unfold absS; rw [if_neg ok, if_neg ok])
  obtain ⟨u, rfl, ho⟩ := h
  obtain ⟨A, c, rfl⟩ := own_len ho
  have hbb : Below w.heap.size w ((w.alloc (.cells #[.bool x.1, .slice A x.2.length c] 29)).alloc (.cells #[.bool false, .slice none 0 0] 29)) := below_al (below_al (Below.refl _ _) _) _
  have kr := box_new (w.alloc (.cells #[.bool x.1, .slice A x.2.length c] 29)) #[.bool false, .slice none 0 0] 29
  rw [show (w.alloc (.cells #[.bool x.1, .slice A x.2.length c] 29)).heap.size = w.heap.size + 1 by simp] at kr
  have hoB := OwnS.mk (x := x) (ownI_of (own_below ho hbb))
  clear ho
  go_enter Tryz.func58, Tryz.ntmps58
  go_wp2_with fail
  refine (withSign_any _ x (false) _ hl hoB).mono ?_
  rw [HV.out]
  rintro e w1 ⟨u1, rfl, o1, b1⟩
  generalize absS x = z at *
  obtain ⟨A1, c1, rfl⟩ := own_len o1
  have bb1 := Below.next hbb b1
  replace kr := kr.below b1
  have cz0 := kr.here.cell 0 _ rfl
  have cz1 := kr.here.cell 1 _ rfl
  have fz0 := Lib.frozen_of_heap kr.here 0
  have fz1 := Lib.frozen_of_heap kr.here 1
  have HO := Lib.hid o1
  have HK := Lib.hid kr
  clear o1 kr hoB HV
  go_wp2
  refine bodyPost_ret (v := .agg #[.bool _, .slice A1 _ c1]) (by simp [results, Tryz.results58, go_sem, cz0, cz1]; exact ⟨rfl, rfl⟩) rfl ?_
  exact newS_ret HK.out.here HO.out hbb.size (by omega) bb1
end Go.Proofs.YtofehcpapdlcnabGreatDoor

namespace Go.Proofs.YtofehcpapdlcnabGreatDoor
open Go.RowKit

set_option maxHeartbeats 400000 in
set_option maxRecDepth 100000 in
theorem ratSized_any (v : Value) (x : QI) (w : World) (h : OwnQ v x w) :
    Calls Tryz.prog 147 #[v] w (Postb (decide (x.1.2.length ≤ 18 ∧ 0 < x.2.length ∧ x.2.length ≤ 18)) w) := by
  obtain ⟨A, c, B, f, rfl⟩ := ownQ_form h
  have bb0 : Below w.heap.size w (w.alloc (.cells #[.bool x.1.1, .slice A x.1.2.length c, .slice B x.2.length f] 63)) := below_al (Below.refl _ _) _
  clear h
  by_cases g1 : x.1.2.length ≤ 18
  · have h1 : decide ((x.1.2.length : Int) ≤ 18) = true := decide_eq_true (by omega)
    by_cases g2 : 0 < x.2.length
    · by_cases g3 : x.2.length ≤ 18
      · have h3 : decide ((x.2.length : Int) ≤ 18) = true := decide_eq_true (by omega)
        have HV := Lib.hid (show decide (x.1.2.length ≤ 18 ∧ 0 < x.2.length ∧ x.2.length ≤ 18) = true from decide_eq_true ⟨g1, g2, g3⟩)
        clear g1 g3
        go_enter Tryz.func147, Tryz.ntmps147
        go_wp2
        go_ret
        exact ⟨ret_bool HV.out.symm, bb0⟩
      · have h3 : decide ((x.2.length : Int) ≤ 18) = false := decide_eq_false (by omega)
        have HV := Lib.hid (show decide (x.1.2.length ≤ 18 ∧ 0 < x.2.length ∧ x.2.length ≤ 18) = false from decide_eq_false (fun h => g3 h.2.2))
        clear g1 g3
        go_enter Tryz.func147, Tryz.ntmps147
        go_wp2
        go_ret
        exact ⟨ret_bool HV.out.symm, bb0⟩
    · have HV := Lib.hid (show decide (x.1.2.length ≤ 18 ∧ 0 < x.2.length ∧ x.2.length ≤ 18) = false from decide_eq_false (fun h => g2 h.2.1))
      clear g1
      go_enter Tryz.func147, Tryz.ntmps147
      go_wp2
      go_ret
      exact ⟨ret_bool HV.out.symm, bb0⟩
  · have h1 : decide ((x.1.2.length : Int) ≤ 18) = false := decide_eq_false (by omega)
    have HV := Lib.hid (show decide (x.1.2.length ≤ 18 ∧ 0 < x.2.length ∧ x.2.length ≤ 18) = false from decide_eq_false (fun h => g1 h.1))
    clear g1
    go_enter Tryz.func147, Tryz.ntmps147
    go_wp2
    go_ret
    exact ⟨ret_bool HV.out.symm, bb0⟩
theorem okQ_cmp {x : QI} (h1 : okS x.1 = true) (h2 : natOkB x.2 = true) (h3 : x.1.2.length ≤ 18 ∧ 0 < x.2.length ∧ x.2.length ≤ 18) : (cmpN (gcdN x.1.2 x.2) (limbs 1) == 0) = okQ x := by
  have hg := gcdN_small x.1.2 x.2
  have pn := (okS_parts h1).1
  have okg : natOkB (gcdN x.1.2 x.2) = true := by
    have e : gcdN x.1.2 x.2 = limbs (Nat.gcd (nval x.1.2).toNat (nval x.2).toNat) := by unfold gcdN; rw [if_pos ⟨pn, h2⟩]
    rw [e] at hg ⊢
    exact limbs_okL _ hg
  have ok1 : natOkB (limbs 1) = true := by rw [one_limbs]; rfl
  have k := gcd_one_iff pn h2
  unfold cmpN
  rw [if_pos ⟨okg, ok1⟩, one_limbs]
  have hV : okQ x = decide (Nat.gcd (nval x.1.2).toNat (nval x.2).toNat = 1) := by unfold okQ; rw [h1, h2]; simp [h3]
  rw [hV]
  by_cases hc : cmpI (nval (gcdN x.1.2 x.2)) (nval [1]) = 0
  · rw [decide_eq_true (k.1 hc), hc]; rfl
  · rw [decide_eq_false (fun e => hc (k.2 e)), beq_eq_false_iff_ne]; exact hc
theorem okQ_false {x : QI} (h : ¬ (okS x.1 = true ∧ natOkB x.2 = true ∧ x.1.2.length ≤ 18 ∧ 0 < x.2.length ∧ x.2.length ≤ 18)) : okQ x = false := by
  rcases Bool.eq_false_or_eq_true (okQ x) with e | e
  · have p := okQ_parts e
    exact absurd ⟨p.1, p.2.1, p.2.2.2.2.1, p.2.2.1, p.2.2.2.1⟩ h
  · exact e
set_option maxHeartbeats 1000000 in
set_option maxRecDepth 100000 in
theorem implRatOk_any (vr : Value) (r : QI) (w : World) (hzr : szQ r ≤ 1048576) (hr : OwnQ vr r w) (hs : Sen w) :
    Calls Tryz.prog 124 #[vr] w (Postb (okQ r) w) := by
  have HS := Lib.hid hs
  clear hs
  have Hr := Lib.hid hr
  obtain ⟨Ar, cr, Br, dr, rfl⟩ := ownQ_form hr
  have OQr := Lib.hid (show ∀ W, Below w.heap.size w W → OwnQ (.agg #[.bool r.1.1, .slice Ar r.1.2.length cr, .slice Br r.2.length dr]) r W from fun W hb => OwnQ.below Hr.out hb)
  have OUr := Lib.hid (show ∀ W, Below w.heap.size w W → OwnI (.slice Ar r.1.2.length cr) r.1.2 W from fun W hb => (ownQ_open (OQr.out W hb)).2.1)
  have ODr := Lib.hid (show ∀ W, Below w.heap.size w W → OwnI (.slice Br r.2.length dr) r.2 W from fun W hb => (ownQ_open (OQr.out W hb)).2.2.1)
  have OSr := Lib.hid (show ∀ W, Below w.heap.size w W → OwnS (.agg #[.bool r.1.1, .slice Ar r.1.2.length cr]) r.1 W from fun W hb => OwnS.mk (OUr.out W hb))
  clear hr
  have hlr := szQ_len hzr
  have hl1r := hlr.1
  have hl2r := hlr.2
  clear hlr
  have bb0 : Below w.heap.size w (w.alloc (.cells #[.bool r.1.1, .slice Ar r.1.2.length cr, .slice Br r.2.length dr] 63)) := below_al (Below.refl _ _) _
  have kr := (box_new w #[.bool r.1.1, .slice Ar r.1.2.length cr, .slice Br r.2.length dr] 63)
  go_enter Tryz.func124, Tryz.ntmps124
  have kr_c0 := kr.here.cell 0 _ rfl
  have kr_c1 := kr.here.cell 1 _ rfl
  have kr_c2 := kr.here.cell 2 _ rfl
  go_wp2_with fail
  clear kr_c0 kr_c1 kr_c2
  refine (implIntOk_any _ r.1 _ hl1r (OwnS.rd (OSr.out _ bb0))).mono ?_
  rintro e w1 ⟨rfl, b1⟩
  have bb1 := Below.next bb0 b1
  replace kr := kr.below b1
  by_cases ok1 : okS r.1 = true
  · rw [ok1]
    have HO1 := Lib.hid ok1
    clear ok1
    have kr_c0 := kr.here.cell 0 _ rfl
    have kr_c1 := kr.here.cell 1 _ rfl
    have kr_c2 := kr.here.cell 2 _ rfl
    go_wp2_with fail
    refine (implNatOk_same _ r.2 _ _ _ (by omega) (ODr.out _ bb1).row).mono ?_
    rintro e w_ ⟨rfl, rfl⟩
    by_cases ok2 : natOkB r.2 = true
    · rw [ok2]
      have HO2 := Lib.hid ok2
      clear ok2
      go_wp2_with fail
      clear kr_c0 kr_c1 kr_c2
      skip
      refine (ratSized_any _ r _ (OQr.out _ bb1)).mono ?_
      rintro e w2 ⟨rfl, b2⟩
      have bb2 := Below.next bb1 b2
      replace kr := kr.below b2
      by_cases ok3 : r.1.2.length ≤ 18 ∧ 0 < r.2.length ∧ r.2.length ≤ 18
      · rw [decide_eq_true ok3]
        have HV := Lib.hid (okQ_cmp HO1.out HO2.out ok3)
        clear ok3
        have kr_c0 := kr.here.cell 0 _ rfl
        have kr_c1 := kr.here.cell 1 _ rfl
        have kr_c2 := kr.here.cell 2 _ rfl
        go_wp2_with fail
        clear kr_c0 kr_c1 kr_c2
        refine (implNatGcd_any _ _ r.1.2 r.2 0 _ 0 _ _ hl1r hl2r (Nat.le_refl _) (OUr.out _ bb2).row (ODr.out _ bb2).row (HS.out.below bb2)).mono ?_
        rintro e w3 ⟨vg, rfl, og, b3⟩
        have bb3 := Below.next bb2 b3
        replace kr := kr.below b3
        have hgl : (gcdN r.1.2 r.2).length ≤ 1048576 := by have := gcdN_small r.1.2 r.2; omega
        go_wp2_with fail
        refine (implNatOf_any 1 _ (by decide)).mono ?_
        rintro e w4 ⟨vo, rfl, oo, b4⟩
        have bb4 := Below.next bb3 b4
        replace kr := kr.below b4
        rw [show (1 : Int).toNat = 1 from rfl] at oo
        have og2 := own_up og b4
        go_wp2_with fail
        refine (implNatCmp_any _ _ (gcdN r.1.2 r.2) (limbs 1) _ _ _ _ _ hgl (by rw [one_limbs]; decide) (Nat.le_refl _) (Nat.le_refl _) (Row.of_own og2) (Row.of_own oo)).mono ?_
        rintro e w5 ⟨rfl, b5⟩
        have bb5 := Below.next bb4 b5
        replace kr := kr.below b5
        generalize cmpN (gcdN r.1.2 r.2) (limbs 1) = z at *
        generalize okQ r = q at *
        clear og og2 oo hgl kr
        go_wp2
        go_ret
        exact ⟨ret_bool HV.out, bb5⟩
      · rw [decide_eq_false ok3]
        have HV := Lib.hid (show okQ r = false from okQ_false (fun h => ok3 h.2.2))
        clear ok3
        go_wp2
        go_ret
        exact ⟨ret_bool HV.out.symm, bb2⟩
    · have ok2' : natOkB r.2 = false := by simpa using ok2
      have HV := Lib.hid (show okQ r = false from okQ_false (fun h => ok2 h.2.1))
      rw [ok2']
      clear ok2 ok2'
      go_wp2
      go_ret
      exact ⟨ret_bool HV.out.symm, bb1⟩
  · have ok1' : okS r.1 = false := by simpa using ok1
    have HV := Lib.hid (show okQ r = false from okQ_false (fun h => ok1 h.1))
    rw [ok1']
    clear ok1 ok1'
    go_wp2
    go_ret
    exact ⟨ret_bool HV.out.symm, bb1⟩
set_option maxHeartbeats 400000 in
set_option maxRecDepth 100000 in
theorem natResult_same {K : NatK} (b : Nat) (A : Option Addr) (c : Nat) (xs : List Int) (w : World) (hl : xs.length ≤ 50) (hb : w.heap[b]? = some (.cells (.slice A xs.length c :: K.rest).toArray K.ty (0, 0))) :
    Calls Tryz.prog 135 #[.pointer (some ⟨b, 0, none⟩)] w fun e w' => e = .returned (.slice A xs.length c) ∧ w = w' := by
  have hc : w.cell? ⟨b, 0, none⟩ = some (.slice A xs.length c) := NatX.cell hb
  clear hb
  have h50 : decide ((50 : Int) < (xs.length : Int)) = false := decide_eq_false (by omega)
  clear hl
  go_enter Tryz.func135, Tryz.ntmps135
  go_wp2
  go_ret
  exact ⟨rfl, rfl⟩
set_option maxHeartbeats 1000000 in
set_option maxRecDepth 100000 in
theorem signed_same (n : Bool) (b : Nat) (A : Option Addr) (c : Nat) (xs : List Int) (sg : Bool) (w : World) (hl : xs.length ≤ 50) (hsg : (n && decide (0 < xs.length)) = sg) (h : BoxAt b #[.slice A xs.length c, .bool n] 115 w) :
    Calls Tryz.prog 103 #[.pointer (some ⟨b, 0, none⟩)] w fun e w' => e = .returned (.agg #[.bool sg, .slice A xs.length c]) ∧ Below w.heap.size w w' := by
  have hbb := below_al (Below.refl w.heap.size w) (.cells #[.bool false, .slice none 0 0] 29)
  have kr := box_new w #[.bool false, .slice none 0 0] 29
  have hx := (box_at h).below hbb
  have hlt := (box_at h).lt b (by simp)
  obtain ⟨W0, hW0⟩ : ∃ W0, W0 = w.alloc (.cells #[.bool false, .slice none 0 0] 29) := ⟨_, rfl⟩
  rw [← hW0] at hx hbb kr
  have HW := Lib.hid hW0
  have HX := Lib.hid hx.here
  clear hW0 h
  have cn : W0.cell? ⟨b, 1, none⟩ = some (.bool n) := hx.here.cell 1 _ rfl
  have cz0 := kr.here.cell 0 _ rfl
  have cz1 := kr.here.cell 1 _ rfl
  have fz0 := Lib.frozen_of_heap kr.here 0
  have fz1 := Lib.frozen_of_heap kr.here 1
  have HBB := Lib.hid hbb
  clear kr hx hlt hbb
  have HSG := Lib.hid hsg
  clear hsg
  by_cases h0 : 0 < xs.length
  · have e0 := Lib.hid (show sg = n by rw [← HSG.out, decide_eq_true h0, Bool.and_true])
    cases n
    all_goals
      go_enter Tryz.func103, Tryz.ntmps103
      go_wp2_with fail
      rw [← HW.out]
      refine (natResult_same (K := intK _) b A c xs _ hl HX.out).mono ?_
      rintro e w1 ⟨rfl, rfl⟩
      go_wp2
      refine bodyPost_ret (v := .agg #[.bool _, .slice A xs.length c]) (by simp [results, Tryz.results103, go_sem, cz0, cz1]; rfl) rfl ?_
      rw [e0.out]
      exact ⟨rfl, below_set2 HBB.out (Nat.le_refl _)⟩
  · have e0 := Lib.hid (show sg = false by rw [← HSG.out, decide_eq_false h0, Bool.and_false])
    cases n
    all_goals
      go_enter Tryz.func103, Tryz.ntmps103
      go_wp2_with fail
      rw [← HW.out]
      refine (natResult_same (K := intK _) b A c xs _ hl HX.out).mono ?_
      rintro e w1 ⟨rfl, rfl⟩
      go_wp2
      refine bodyPost_ret (v := .agg #[.bool _, .slice A xs.length c]) (by simp [results, Tryz.results103, go_sem, cz0, cz1]; rfl) rfl ?_
      rw [e0.out]
      exact ⟨rfl, below_set2 HBB.out (Nat.le_refl _)⟩
set_option maxHeartbeats 2000000 in
set_option maxRecDepth 100000 in
theorem implRatMake_any (va vb : Value) (a b : SI) (w : World) (hza : szS a ≤ 1048576) (hzb : szS b ≤ 1048576) (ha : OwnS va a w) (hb : OwnS vb b w) (hs : Sen w) :
    Calls Tryz.prog 119 #[va, vb] w (PostQb (makeQ a b).1 (makeQ a b).2 w) := by
  have HS := Lib.hid hs
  clear hs
  have Ha := Lib.hid ha
  obtain ⟨Aa, ca, rfl⟩ := ownS_form ha
  have OSa := Lib.hid (show ∀ W, Below w.heap.size w W → OwnS (.agg #[.bool a.1, .slice Aa a.2.length ca]) a W from fun W hb => OwnS.below Ha.out hb)
  have OIa := Lib.hid (show ∀ W, Below w.heap.size w W → OwnI (.slice Aa a.2.length ca) a.2 W from fun W hb => ownS_open (OSa.out W hb))
  clear ha
  have Hb := Lib.hid hb
  obtain ⟨Ab, cb, rfl⟩ := ownS_form hb
  have OSb := Lib.hid (show ∀ W, Below w.heap.size w W → OwnS (.agg #[.bool b.1, .slice Ab b.2.length cb]) b W from fun W hb => OwnS.below Hb.out hb)
  have OIb := Lib.hid (show ∀ W, Below w.heap.size w W → OwnI (.slice Ab b.2.length cb) b.2 W from fun W hb => ownS_open (OSb.out W hb))
  clear hb
  have hla : a.2.length ≤ 1048576 := by unfold szS szI at hza; omega
  have hlb : b.2.length ≤ 1048576 := by unfold szS szI at hzb; omega
  clear hza hzb
  have bb0 : Below w.heap.size w (((w.alloc (.cells #[.bool a.1, .slice Aa a.2.length ca] 29)).alloc (.cells #[.bool b.1, .slice Ab b.2.length cb] 29)).alloc (.cells #[.bool false, .slice none 0 0, .slice none 0 0] 63)) := below_al (below_al (below_al (Below.refl _ _) _) _) _
  have ka := (box_new w #[.bool a.1, .slice Aa a.2.length ca] 29).below (below_al (below_al (Below.refl _ _) (.cells #[.bool b.1, .slice Ab b.2.length cb] 29)) (.cells #[.bool false, .slice none 0 0, .slice none 0 0] 63))
  have kb := (box_new (w.alloc (.cells #[.bool a.1, .slice Aa a.2.length ca] 29)) #[.bool b.1, .slice Ab b.2.length cb] 29).below (below_al (Below.refl _ _) (.cells #[.bool false, .slice none 0 0, .slice none 0 0] 63))
  rw [show (w.alloc (.cells #[.bool a.1, .slice Aa a.2.length ca] 29)).heap.size = w.heap.size + 1 by simp] at kb
  have ko := (box_new ((w.alloc (.cells #[.bool a.1, .slice Aa a.2.length ca] 29)).alloc (.cells #[.bool b.1, .slice Ab b.2.length cb] 29)) #[.bool false, .slice none 0 0, .slice none 0 0] 63)
  rw [show ((w.alloc (.cells #[.bool a.1, .slice Aa a.2.length ca] 29)).alloc (.cells #[.bool b.1, .slice Ab b.2.length cb] 29)).heap.size = w.heap.size + 1 + 1 by simp] at ko
  have HKO := Lib.hid (ko.lt (w.heap.size + 1 + 1) (by simp))
  go_enter Tryz.func119, Tryz.ntmps119
  have ka_c0 := ka.here.cell 0 _ rfl
  have ka_c1 := ka.here.cell 1 _ rfl
  go_wp2_with fail
  clear ka_c0 ka_c1
  refine (implIntOk_any _ a _ hla (OwnS.rd (OSa.out _ bb0))).mono ?_
  rintro e w1 ⟨rfl, b1⟩
  have bb1 := Below.next bb0 b1
  replace ka := ka.below b1
  replace kb := kb.below b1
  replace ko := ko.below b1
  by_cases oka : okS a = true
  · rw [oka]
    have HOa := Lib.hid oka
    clear oka
    have kb_c0 := kb.here.cell 0 _ rfl
    have kb_c1 := kb.here.cell 1 _ rfl
    go_wp2_with fail
    clear kb_c0 kb_c1
    refine (implIntSign_any _ b _ hlb (OSb.out _ bb1)).mono ?_
    rintro e w2 ⟨rfl, b2⟩
    have bb2 := Below.next bb1 b2
    replace ka := ka.below b2
    replace kb := kb.below b2
    replace ko := ko.below b2
    by_cases okb : cmpS b zeroS = 0
    · have HV := Lib.hid (show makeQ a b = (zeroQ, false) from makeQ_none (fun h => h.2 okb))
      rw [okb]
      clear okb
      have ko_c0 := ko.here.cell 0 _ rfl
      have ko_c1 := ko.here.cell 1 _ rfl
      have ko_c2 := ko.here.cell 2 _ rfl
      have cz0 := ko.here.cell 0 _ rfl
      have fz0 := Lib.frozen_of_heap ko.here 0
      have cz1 := ko.here.cell 1 _ rfl
      have fz1 := Lib.frozen_of_heap ko.here 1
      have cz2 := ko.here.cell 2 _ rfl
      have fz2 := Lib.frozen_of_heap ko.here 2
      go_wp2
      refine bodyPost_ret (v := .tuple #[.agg #[.bool false, .slice none 0 0, .slice none 0 0], .bool false]) (by simp [results, Tryz.results119, go_sem, cz0, cz1, cz2]) rfl ?_
      rw [HV.out]
      first | exact newQb_zero _ bb2 | exact newQb_zero _ (below_set3 bb2 (by omega))
    · have hne : (cmpS b zeroS == 0) = false := by rw [beq_eq_false_iff_ne]; exact okb
      obtain ⟨X, Y, eg, ex, ey, lx, ly, hy0, HV0⟩ := makeQ_parts HOa.out okb
      have EX := Lib.hid ex
      have EY := Lib.hid ey
      have HVm := Lib.hid HV0
      have hgl := gcdN_small a.2 b.2
      obtain ⟨G, hG⟩ : ∃ G, gcdN a.2 b.2 = G := ⟨_, rfl⟩
      have EG := Lib.hid hG
      rw [hG] at hgl
      have EXG := Lib.hid (show (divN a.2 G).1 = limbs X by rw [← hG]; exact ex)
      have EYG := Lib.hid (show (divN b.2 G).1 = limbs Y by rw [← hG]; exact ey)
      have kb50 := (natOk_parts (okS_parts (cmpS_ok okb)).1).2.1
      have ka50 := (natOk_parts (okS_parts HOa.out).1).2.1
      generalize cmpS b zeroS = z at *
      clear eg ex ey HV0 hG okb
      have ka_c0 := ka.here.cell 0 _ rfl
      have ka_c1 := ka.here.cell 1 _ rfl
      have kb_c0 := kb.here.cell 0 _ rfl
      have kb_c1 := kb.here.cell 1 _ rfl
      go_wp2_with fail
      clear ka_c0 ka_c1 kb_c0 kb_c1
      refine (implNatGcd_any _ _ a.2 b.2 0 _ 0 _ _ hla hlb (Nat.le_refl _) (OIa.out _ bb2).row (OIb.out _ bb2).row (HS.out.below bb2)).mono ?_
      rintro e w3 ⟨vg, rfl, og0, b3⟩
      rw [EG.out] at og0
      have og := own_at' og0
      obtain ⟨Ag, cg, rfl⟩ := own_len og0
      have bb3 := Below.next bb2 b3
      replace ka := ka.below b3
      replace kb := kb.below b3
      replace ko := ko.below b3
      clear hne og0
      have ka_c0 := ka.here.cell 0 _ rfl
      have ka_c1 := ka.here.cell 1 _ rfl
      go_wp2_with fail
      clear ka_c0 ka_c1
      refine (implNatDiv_any _ _ a.2 G 0 _ 0 _ _ hla (by omega) (Nat.le_refl _) (Nat.le_refl _) (OIa.out _ bb3).row (At.here og).row (HS.out.below bb3)).mono ?_
      rintro e w4 ⟨vx, vx2, rfl, ox0, _, _, b4⟩
      rw [EXG.out] at ox0
      have ox := own_at' ox0
      obtain ⟨Ax, cx, rfl⟩ := own_len ox0
      have bb4 := Below.next bb3 b4
      replace ka := ka.below b4
      replace kb := kb.below b4
      replace ko := ko.below b4
      replace og := og.below b4
      have kb_c0 := kb.here.cell 0 _ rfl
      have kb_c1 := kb.here.cell 1 _ rfl
      go_wp2_with fail
      clear kb_c0 kb_c1
      refine (implNatDiv_any _ _ b.2 G 0 _ 0 _ _ hlb (by omega) (Nat.le_refl _) (Nat.le_refl _) (OIb.out _ bb4).row (At.here og).row (HS.out.below bb4)).mono ?_
      rintro e w5 ⟨vy, vy2, rfl, oy0, _, _, b5⟩
      rw [EYG.out] at oy0
      obtain ⟨Ay, cy, rfl⟩ := own_len oy0
      have bb5 := Below.next bb4 b5
      replace ka := ka.below b5
      replace kb := kb.below b5
      replace ko := ko.below b5
      replace og := og.below b5
      replace ox := ox.below b5
      have hap : ∀ g, (Value.slice Ax (limbs X).length cx).ownBlock = some g → (Value.slice Ay (limbs Y).length cy).ownBlock ≠ some g := fun g h1 h2 => by
        have h3 := (own_lt ox0 h1).2
        have h4 := (own_lt oy0 h2).1
        omega
      have ox1 := own_up ox0 b5
      obtain ⟨sg, hsg⟩ : ∃ sg, ((!(a.1 == b.1)) && decide (0 < (limbs X).length)) = sg := ⟨_, rfl⟩
      have ESG := Lib.hid hsg
      have EM := Lib.hid (show mkS (!(a.1 == b.1)) (limbs X) = (sg, limbs X) by unfold mkS capL; rw [if_neg (by omega), hsg])
      have of := partsQ_at (x := ((sg, limbs X), limbs Y)) ox1 oy0 hap
      have lf0 : Within (partsB (Value.slice Ax (limbs X).length cx) (Value.slice Ay (limbs Y).length cy)) w3.heap.size w5.heap.size := fun g hg => by
        rcases List.mem_append.1 hg with hg | hg
        · exact own_within ox1 g hg
        · have := own_within oy0 g hg
          have := b4.size
          omega
      have LF := Lib.hid lf0
      have HS2 := Lib.hid (show w.heap.size + 1 + 1 < w3.heap.size from Nat.lt_of_lt_of_le HKO.out (by have := b1.size; have := b2.size; have := b3.size;  omega))
      clear ox0 oy0 ox1 hap lf0 hsg ox og
      have ka_c0 := ka.here.cell 0 _ rfl
      have ka_c1 := ka.here.cell 1 _ rfl
      have kb_c0 := kb.here.cell 0 _ rfl
      have kb_c1 := kb.here.cell 1 _ rfl
      have kn := box_new (w5) #[.slice Ax (limbs X).length cx, .bool (!(a.1 == b.1))] 115
      have aln := below_al (Below.refl (w5).heap.size (w5)) (.cells #[.slice Ax (limbs X).length cx, .bool (!(a.1 == b.1))] 115)
      have bbn := Below.next bb5 aln
      replace ka := ka.below aln
      replace kb := kb.below aln
      replace ko := ko.below aln
      replace of := of.below aln
      go_wp2_with fail
      clear ka_c0 ka_c1 kb_c0 kb_c1
      refine (signed_same _ _ Ax cx (limbs X) sg _ lx ESG.out kn.here).mono ?_
      rintro e w6 ⟨rfl, b6⟩
      have bb6 := Below.next bbn b6
      replace ka := ka.below b6
      replace kb := kb.below b6
      replace ko := ko.below b6
      replace of := of.below b6
      replace kn := kn.below b6
      clear kn
      have kr := box_new (w6) #[.bool sg, .slice Ax (limbs X).length cx, .slice Ay (limbs Y).length cy] 63
      have alr := below_al (Below.refl (w6).heap.size (w6)) (.cells #[.bool sg, .slice Ax (limbs X).length cx, .slice Ay (limbs Y).length cy] 63)
      have bbr := Below.next bb6 alr
      replace ka := ka.below alr
      replace kb := kb.below alr
      replace ko := ko.below alr
      replace of := of.below alr
      have kr_c0 := kr.here.cell 0 _ rfl
      have kr_c1 := kr.here.cell 1 _ rfl
      have kr_c2 := kr.here.cell 2 _ rfl
      go_wp2_with fail
      clear kr_c0 kr_c1 kr_c2
      refine (ratSized_any _ ((sg, limbs X), limbs Y) _ of.here).mono ?_
      rintro e w7 ⟨rfl, b7⟩
      have bb7 := Below.next bbr b7
      replace ka := ka.below b7
      replace kb := kb.below b7
      replace ko := ko.below b7
      replace of := of.below b7
      replace kr := kr.below b7
      by_cases hsz : (limbs X).length ≤ 18 ∧ 0 < (limbs Y).length ∧ (limbs Y).length ≤ 18
      · have HV := Lib.hid (show makeQ a b = (((sg, limbs X), limbs Y), true) by rw [HVm.out, if_pos ⟨hsz.1, hsz.2.2⟩, EM.out])
        rw [decide_eq_true hsz]
        clear hsz
        have hkz := kr.here.cell 0 _ rfl
        have hkz1 := kr.here.cell 1 _ rfl
        have hkz2 := kr.here.cell 2 _ rfl
        have HW := Lib.hid (newQb_at (x := ((sg, limbs X), limbs Y)) (r := w.heap.size + 1 + 1) (b := true) of (within_up LF.out (Nat.le_refl _) (by have := b6.size; have := b7.size; have := aln.size; have := alr.size; omega)) HS2.out (by omega) bb7)
        have cz0 := ko.here.cell 0 _ rfl
        have fz0 := Lib.frozen_of_heap ko.here 0
        have cz1 := ko.here.cell 1 _ rfl
        have fz1 := Lib.frozen_of_heap ko.here 1
        have cz2 := ko.here.cell 2 _ rfl
        have fz2 := Lib.frozen_of_heap ko.here 2
        clear of ko kr
        go_wp2
        refine bodyPost_ret (v := .tuple #[.agg #[.bool sg, .slice Ax _ cx, .slice Ay _ cy], .bool true]) (by simp [results, Tryz.results119, go_sem, cz0, cz1, cz2]; exact ⟨rfl, rfl⟩) rfl ?_
        rw [HV.out]
        exact HW.out
      · have HV := Lib.hid (show makeQ a b = (zeroQ, false) by rw [HVm.out, if_neg (fun h => hsz ⟨h.1, hy0, h.2⟩)])
        rw [decide_eq_false hsz]
        clear hsz
        have ko_c0 := ko.here.cell 0 _ rfl
        have ko_c1 := ko.here.cell 1 _ rfl
        have ko_c2 := ko.here.cell 2 _ rfl
        have cz0 := ko.here.cell 0 _ rfl
        have fz0 := Lib.frozen_of_heap ko.here 0
        have cz1 := ko.here.cell 1 _ rfl
        have fz1 := Lib.frozen_of_heap ko.here 1
        have cz2 := ko.here.cell 2 _ rfl
        have fz2 := Lib.frozen_of_heap ko.here 2
        go_wp2
        refine bodyPost_ret (v := .tuple #[.agg #[.bool false, .slice none 0 0, .slice none 0 0], .bool false]) (by simp [results, Tryz.results119, go_sem, cz0, cz1, cz2]) rfl ?_
        rw [HV.out]
        first | exact newQb_zero _ bb7 | exact newQb_zero _ (below_set3 bb7 (by omega))
  · have oka' : okS a = false := by simpa using oka
    have HV := Lib.hid (show makeQ a b = (zeroQ, false) from makeQ_none (fun h => oka h.1))
    rw [oka']
    clear oka oka'
    have ko_c0 := ko.here.cell 0 _ rfl
    have ko_c1 := ko.here.cell 1 _ rfl
    have ko_c2 := ko.here.cell 2 _ rfl
    have cz0 := ko.here.cell 0 _ rfl
    have fz0 := Lib.frozen_of_heap ko.here 0
    have cz1 := ko.here.cell 1 _ rfl
    have fz1 := Lib.frozen_of_heap ko.here 1
    have cz2 := ko.here.cell 2 _ rfl
    have fz2 := Lib.frozen_of_heap ko.here 2
    go_wp2
    refine bodyPost_ret (v := .tuple #[.agg #[.bool false, .slice none 0 0, .slice none 0 0], .bool false]) (by simp [results, Tryz.results119, go_sem, cz0, cz1, cz2]) rfl ?_
    rw [HV.out]
    first | exact newQb_zero _ bb1 | exact newQb_zero _ (below_set3 bb1 (by omega))
end Go.Proofs.YtofehcpapdlcnabGreatDoor

namespace Go.Proofs.YtofehcpapdlcnabGreatDoor
open Go.RowKit

theorem capL_short {xs : List Int} (h : xs.length ≤ 50) : capL xs = xs := by unfold capL; rw [if_neg (by omega)]
theorem capL_res (b : Bool) (n : Int) : mkS b (natRes n) = mkS b (limbs n.toNat) := by
  have e : capL (natRes n) = capL (limbs n.toNat) := by
    unfold natRes
    by_cases h : (limbs n.toNat).length ≤ 50
    · rw [capL_short h, capL_short h]
    · rw [show capL (limbs n.toNat) = [] by unfold capL; rw [if_pos (by omega)]]; rfl
  unfold mkS
  rw [e]
theorem natRes_short (n : Int) : (natRes n).length ≤ 50 := by
  unfold natRes capL
  split
  · simp
  · omega
theorem mulN_short (a b : List Int) : (mulN a b).length ≤ 50 := by unfold mulN; split; exact natRes_short _; simp
theorem mulS_mk {x y : SI} (okx : okS x = true) (oky : okS y = true) : mkS (x.1 != y.1) (mulN x.2 y.2) = mulS x y := by
  have px := okS_parts okx
  have py := okS_parts oky
  have h0x := nval_ok px.1
  have h0y := nval_ok py.1
  have h0 := Int.mul_nonneg h0x h0y
  unfold mulS
  rw [if_pos ⟨okx, oky⟩, mulN_ok px.1 py.1, capL_res, mkS_limbs]
  congr 1
  unfold valS
  rw [Int.toNat_of_nonneg h0]
  cases x.1 <;> cases y.1 <;> simp [Int.neg_mul, Int.mul_neg]
/-- an integer laid early into its block, which was zero -/
theorem NatX.early {n : Bool} {g : Nat} {u c0 c1 : Value} {xs : List Int} {W : World} {B0 B : Nat} (hb : BoxAt g #[c0, c1] 115 W) (o : W.ownsRow B 3 1 u xs.length (intsV xs)) (hB : B0 ≤ B) (hg : B0 ≤ g) :
    NatX (intK n) B0 g xs ((W.setCell ⟨g, 0, none⟩ u).setCell ⟨g, 1, none⟩ (.bool n)) := by
  have hne := Lib.ownBlock_ne o hb (by decide)
  have hb' : W.heap[g]? = some (.cells #[c0, c1] 115 (0, 0)) := hb
  refine ⟨hg, u, by simp [World.setCell, Array.getElem?_modify, hb'], own_low (own_stays o fun i hi => ?_) hB, hne⟩
  have : i ≠ g := fun e => hne (by rw [hi, e])
  exact (Below.heap_setCell _ _ _ _ this).trans (Below.heap_setCell _ _ _ _ this)
theorem NatX.late {n : Bool} {u : Value} {xs : List Int} {W : World} {B0 B : Nat} (o : W.ownsRow B 3 1 u xs.length (intsV xs)) (hB : B0 ≤ B) (hW : B0 ≤ W.heap.size) : NatX (intK n) B0 W.heap.size xs (W.alloc (.cells #[u, .bool n] 115)) :=
  NatX.new (K := intK n) hW (own_low o hB)

set_option maxHeartbeats 4000000 in
set_option maxRecDepth 100000 in
theorem implIntMul_any (vx vy : Value) (x y : SI) (w : World) (hlx : x.2.length ≤ 1048576) (hly : y.2.length ≤ 1048576) (hx : OwnS vx x w) (hy : OwnS vy y w) :
    Calls Tryz.prog 125 #[vx, vy] w (NewS (mulS x y) w) := by
  obtain ⟨ux, rfl, hox⟩ := hx
  obtain ⟨uy, rfl, hoy⟩ := hy
  obtain ⟨Ax, cx, rfl⟩ := own_len hox
  obtain ⟨Ay, cy, rfl⟩ := own_len hoy
  obtain ⟨W0, hW0⟩ : ∃ W0, W0 = ((w.alloc (.cells #[.bool x.1, .slice Ax x.2.length cx] 29)).alloc (.cells #[.bool y.1, .slice Ay y.2.length cy] 29)).alloc (.cells #[.bool false, .slice none 0 0] 29) := ⟨_, rfl⟩
  have hbb : Below w.heap.size w W0 := by rw [hW0]; exact below_al (below_al (below_al (Below.refl _ _) _) _) _
  have h3 := alloc3 w (.cells #[.bool x.1, .slice Ax x.2.length cx] 29) (.cells #[.bool y.1, .slice Ay y.2.length cy] 29) (.cells #[.bool false, .slice none 0 0] 29)
  rw [← hW0] at h3
  have kx : At [w.heap.size] (BoxAt w.heap.size #[.bool x.1, .slice Ax x.2.length cx] 29) W0 := box_at h3.1
  have ky : At [w.heap.size + 1] (BoxAt (w.heap.size + 1) #[.bool y.1, .slice Ay y.2.length cy] 29) W0 := box_at h3.2.1
  have kr : At [w.heap.size + 1 + 1] (BoxAt (w.heap.size + 1 + 1) #[.bool false, .slice none 0 0] 29) W0 := box_at h3.2.2.1
  have ox := own_below hox hbb
  have oy := own_below hoy hbb
  have rdx := (OwnS.mk (x := x) (ownI_of ox)).rd
  have HW := Lib.hid hW0
  have cx0 := kx.here.cell 0 _ rfl
  have cx1 := kx.here.cell 1 _ rfl
  clear h3 hox hoy hW0
  by_cases okx : okS x = true
  · go_enter Tryz.func125, Tryz.ntmps125
    go_wp2_with fail
    rw [← HW.out]
    refine (implIntOk_any _ x _ hlx rdx).mono ?_
    rintro e w1 ⟨rfl, b1⟩
    rw [okx]
    have bb1 := Below.next hbb b1
    replace kx := kx.below b1
    replace ky := ky.below b1
    replace kr := kr.below b1
    replace ox := own_below ox b1
    replace oy := own_below oy b1
    have cy0 := ky.here.cell 0 _ rfl
    have cy1 := ky.here.cell 1 _ rfl
    clear rdx cx0 cx1
    go_wp2_with fail
    refine (implIntOk_any _ y w1 hly (OwnS.mk (x := y) (ownI_of oy)).rd).mono ?_
    rintro e w2 ⟨rfl, b2⟩
    have bb2 := Below.next bb1 b2
    replace kx := kx.below b2
    replace ky := ky.below b2
    replace kr := kr.below b2
    replace ox := own_below ox b2
    replace oy := own_below oy b2
    clear cy0 cy1
    by_cases oky : okS y = true
    · rw [oky]
      have HV := Lib.hid (mulS_mk okx oky)
      have cx0 := kx.here.cell 0 _ rfl
      have cx1 := kx.here.cell 1 _ rfl
      have cy0 := ky.here.cell 0 _ rfl
      have cy1 := ky.here.cell 1 _ rfl
      have HOX := Lib.hid (show ∀ W, Below w2.heap.size w2 W → Row W 0 W.heap.size (.slice Ax x.2.length cx) (intsV x.2) from fun W hb => (ownI_of (own_below ox hb)).row)
      have HOY := Lib.hid (show ∀ W, Below w2.heap.size w2 W → Row W 0 W.heap.size (.slice Ay y.2.length cy) (intsV y.2) from fun W hb => (ownI_of (own_below oy hb)).row)
      have HKR := Lib.hid kr
      have hlt2 : w.heap.size + 1 + 1 < w2.heap.size := kr.lt _ (by simp)
      clear okx oky ox oy kr
      have HKX := Lib.hid kx
      have HKY := Lib.hid ky
      have HMB := Lib.hid (Lib.hid (show mkS (x.1 != y.1) (mulN x.2 y.2) = mulS x y from HV.out))
      have hml : (mulN x.2 y.2).length ≤ 50 := mulN_short x.2 y.2
      clear kx ky b1 b2 HV
      obtain ⟨n, hn, hm⟩ : ∃ n, (x.1 != y.1) = n ∧ (x.1 == y.1) = !n := ⟨_, rfl, by cases x.1 <;> cases y.1 <;> rfl⟩
      have HN := Lib.hid hn
      cases n
      all_goals
        first | rw [Bool.not_false] at hm | rw [Bool.not_true] at hm
        go_upto_region 3 with fail
        go_cut [5] (fun s wx => ∃ b, s = .pointer (some ⟨b, 0, none⟩) ∧ Hid (NatX (intK (x.1 != y.1)) w2.heap.size b (mulN x.2 y.2) wx) ∧ Below w2.heap.size w2 wx)
        case first =>
          have HB0 := Lib.hid (show Below w2.heap.size w2 w2.drew from (Below.refl _ _).drew)
          have KL := Lib.hid (show ∀ W, Below w2.heap.size w2 W → W.cell? ⟨w.heap.size, 0, none⟩ = some (.bool x.1) ∧ W.cell? ⟨w.heap.size, 1, none⟩ = some (.slice Ax x.2.length cx) ∧ W.cell? ⟨w.heap.size + 1, 0, none⟩ = some (.bool y.1) ∧ W.cell? ⟨w.heap.size + 1, 1, none⟩ = some (.slice Ay y.2.length cy) ∧ Hid (Below w2.heap.size w2 W) from
            fun W hb => ⟨(HKX.out.below hb).here.cell 0 _ rfl, (HKX.out.below hb).here.cell 1 _ rfl, (HKY.out.below hb).here.cell 0 _ rfl, (HKY.out.below hb).here.cell 1 _ rfl, Lib.hid hb⟩)
          clear cx0 cx1 cy0 cy1
          go_region_held3 (fun W => W.cell? ⟨w.heap.size, 0, none⟩ = some (.bool x.1) ∧ W.cell? ⟨w.heap.size, 1, none⟩ = some (.slice Ax x.2.length cx) ∧ W.cell? ⟨w.heap.size + 1, 0, none⟩ = some (.bool y.1) ∧ W.cell? ⟨w.heap.size + 1, 1, none⟩ = some (.slice Ay y.2.length cy) ∧ Hid (Below w2.heap.size w2 W))
            ((refine KL.out _ ?_; (first | exact HBf.out | exact HB0.out | exact below_al HBf.out _ | exact below_al HB0.out _ | exact below_set2 HBf.out HB0.out.size | fail)))
            (first
              | (go_at_call 154; (have hBB := (‹_ ∧ _ ∧ _ ∧ _ ∧ Hid (Below w2.heap.size w2 _)›).2.2.2.2); (with_reducible refine (implNatMul_any _ _ x.2 y.2 0 _ 0 _ _ hlx hly (Nat.le_refl _) (Nat.le_refl _) (HOX.out _ hBB.out) (HOY.out _ hBB.out)).mono ?_); rintro e wf ⟨uf, rfl, of, bf⟩; have HBf := Lib.hid (Below.next hBB.out bf); have HBS := Lib.hid hBB.out.size; (try have hbxf : At [w2.heap.size] (BoxAt w2.heap.size #[.slice none 0 0, .bool false] 115) wf := At.below (box_new w2.drew _ _) bf); obtain ⟨Af, cf, rfl⟩ := own_len of; (try (have cz0 := hbxf.here.cell 0 _ rfl; have cz1 := hbxf.here.cell 1 _ rfl; have fz0 := Lib.frozen_of_heap hbxf.here 0; have fz1 := Lib.frozen_of_heap hbxf.here 1)); clear hBB))
          all_goals (go_wp2_with fail; go_meet; first | exact ⟨_, rfl, Lib.hid (by rw [HN.out]; exact NatX.late of HBS.out HBf.out.size), below_al HBf.out _⟩ | exact ⟨_, rfl, Lib.hid (by rw [HN.out]; exact NatX.early hbxf.here of HBS.out (Nat.le_refl _)), below_set2 HBf.out (Nat.le_refl _)⟩)
        rename World => w3
        obtain ⟨b, rfl, HX, b3⟩ := hcut
        have bb3 := Below.next bb2 b3
        have kr3 := HKR.out.below b3
        clear cx0 cx1 cy0 cy1
        go_wp2_with fail
        refine (signed_any _ _ b _ _ (by omega) HX.out).mono ?_
        rw [HMB.out.out]
        rintro e w4 ⟨u4, rfl, o4, b4⟩
        generalize mulS x y = z at *
        obtain ⟨A4, c4, rfl⟩ := own_len o4
        have bb4 := Below.next bb3 b4
        have kr4 := kr3.below b4
        have cz0 := kr4.here.cell 0 _ rfl
        have cz1 := kr4.here.cell 1 _ rfl
        have fz0 := Lib.frozen_of_heap kr4.here 0
        have fz1 := Lib.frozen_of_heap kr4.here 1
        have HO := Lib.hid o4
        have HK := Lib.hid kr4
        clear o4 kr3 kr4 HX HMB
        go_wp2
        refine bodyPost_ret (v := .agg #[.bool _, .slice A4 _ c4]) (by simp [results, Tryz.results125, go_sem, cz0, cz1]; exact ⟨rfl, rfl⟩) rfl ?_
        exact newS_ret HK.out.here HO.out bb2.size (by omega) bb4
    · have oky' : okS y = false := by simpa using oky
      have HV := Lib.hid (show mulS x y = zeroS by unfold mulS; rw [if_neg (fun h => oky h.2)])
      rw [oky']
      have cz0 := kr.here.cell 0 _ rfl
      have cz1 := kr.here.cell 1 _ rfl
      have fz0 := Lib.frozen_of_heap kr.here 0
      have fz1 := Lib.frozen_of_heap kr.here 1
      clear oky kx ky kr ox oy
      go_wp2
      refine bodyPost_ret (v := .agg #[.bool false, .slice none 0 0]) (by simp [results, Tryz.results125, go_sem, cz0, cz1]) rfl ?_
      rw [HV.out]
      exact newS_zero (below_set2 bb2 (by omega))
  · have okx' : okS x = false := by simpa using okx
    have HV := Lib.hid (show mulS x y = zeroS by unfold mulS; rw [if_neg (fun h => okx h.1)])
    clear okx
    go_enter Tryz.func125, Tryz.ntmps125
    go_wp2_with fail
    rw [← HW.out]
    refine (implIntOk_any _ x _ hlx rdx).mono ?_
    rintro e w1 ⟨rfl, b1⟩
    rw [okx']
    have bb1 := Below.next hbb b1
    replace kr := kr.below b1
    have cz0 := kr.here.cell 0 _ rfl
    have cz1 := kr.here.cell 1 _ rfl
    have fz0 := Lib.frozen_of_heap kr.here 0
    have fz1 := Lib.frozen_of_heap kr.here 1
    clear kx ky kr rdx ox oy cx0 cx1
    go_wp2
    refine bodyPost_ret (v := .agg #[.bool false, .slice none 0 0]) (by simp [results, Tryz.results125, go_sem, cz0, cz1]) rfl ?_
    rw [HV.out]
    exact newS_zero (below_set2 bb1 (by omega))
end Go.Proofs.YtofehcpapdlcnabGreatDoor

namespace Go.Proofs.YtofehcpapdlcnabGreatDoor
open Go.RowKit

theorem At.belowB {S : List Nat} {φ : World → Prop} {w w' : World} {B : Nat} (h : At S φ w) (hb : Below B w w') (hS : ∀ g ∈ S, g < B) : At S φ w' := h.move (fun g hg => hb.block g (hS g hg)) hb.size
theorem add_mk {P Q : SI} (okp : okS P = true) (okq : okS Q = true) (hs : P.1 = Q.1) : mkS P.1 (limbs (nval P.2 + nval Q.2).toNat) = ofZ (valS P + valS Q) := by
  have h0p := nval_ok (okS_parts okp).1
  have h0q := nval_ok (okS_parts okq).1
  rw [mkS_limbs]
  congr 1
  unfold valS
  rw [← hs]
  split <;> omega
theorem sub_mk {P Q : SI} (okp : okS P = true) (okq : okS Q = true) (hs : ¬ P.1 = Q.1) (hle : nval Q.2 ≤ nval P.2) : mkS P.1 (limbs (nval P.2 - nval Q.2).toNat) = ofZ (valS P + valS Q) := by
  have h0p := nval_ok (okS_parts okp).1
  have h0q := nval_ok (okS_parts okq).1
  rw [mkS_limbs]
  congr 1
  unfold valS
  cases hp : P.1 <;> cases hq : Q.1 <;> simp_all <;> omega
theorem addS_ok {x y : SI} (okx : okS x = true) (oky : okS y = true) : addS x y = ofZ (valS x + valS y) := by unfold addS; rw [if_pos ⟨okx, oky⟩]
theorem swap_box {g : Nat} {a b : Value} {c0 c1 : Value} {W : World} (h : BoxAt g #[c0, c1] 29 W) : BoxAt g #[a, b] 29 ((W.setCell ⟨g, 0, none⟩ a).setCell ⟨g, 1, none⟩ b) := by
  have h' : W.heap[g]? = some (.cells #[c0, c1] 29 (0, 0)) := h
  simp [BoxAt, World.setCell, Array.getElem?_modify, h']

theorem NatX.drew1 {K : NatK} {B b : Nat} {xs : List Int} {w : World} (h : NatX K B b xs w) : NatX K B b xs w.drew := h
theorem Row.drew1 {w : World} {lo hi : Nat} {v : Value} {xs : List Value} (h : Row w lo hi v xs) : Row w.drew lo hi v xs := h
theorem natAdd_any {K : NatK} (B b : Nat) (xs : List Int) (vy : Value) (ys : List Int) (lo hi : Nat) (w : World) (oa : natOkB xs = true) (ob : natOkB ys = true) (hhi : hi ≤ B) (hr : Row w lo hi vy (intsV ys)) (h : NatX K B b xs w) :
    Calls Tryz.prog 101 #[.pointer (some ⟨b, 0, none⟩), vy, .int .i64 1, .int .i64 0] w fun e w' => e = .returned (.tuple #[]) ∧ LeftX K B b (limbs (nval xs + nval ys).toNat) w w' := by
  have pa := natOk_parts oa
  have pb := natOk_parts ob
  refine (addTimes_any B b xs vy ys lo hi 1 0 w (by omega) (by omega) (by omega) (by omega) (by omega) pa.1 pb.1 hhi hr h).mono ?_
  rintro e w' ⟨rfl, zs, hl, hd, hv, hlen⟩
  rw [← add_limbs oa ob hd hv hlen]
  exact ⟨rfl, hl⟩
theorem nval_b50 {xs : List Int} (h : natOkB xs = true) : nval xs < bp 50 := by
  have p := natOk_parts h
  have h1 := nval_lt xs p.1
  have h2 := bp_mono p.2.1
  omega
theorem sum_short {xs ys : List Int} (oa : natOkB xs = true) (ob : natOkB ys = true) : (limbs (nval xs + nval ys).toNat).length ≤ 1048576 := by
  have h1 := nval_b50 oa
  have h2 := nval_b50 ob
  have h3 := nval_ok oa
  have h4 := nval_ok ob
  have e : bp 51 = 1000000000 * bp 50 := rfl
  have h5 := bp_pos 50
  have h6 := limbs_length_le (nval xs + nval ys).toNat 51 (by rw [Int.toNat_of_nonneg (by omega)]; omega)
  omega
theorem dif_short {xs ys : List Int} (oa : natOkB xs = true) (ob : natOkB ys = true) (hle : nval ys ≤ nval xs) : (limbs (nval xs - nval ys).toNat).length ≤ 1048576 := by
  have h1 := nval_b50 oa
  have h4 := nval_ok ob
  have h6 := limbs_length_le (nval xs - nval ys).toNat 50 (by rw [Int.toNat_of_nonneg (by omega)]; omega)
  omega
theorem below_low {B C : Nat} {w w1 w2 : World} (h : Below B w w1) (k : Below C w1 w2) (hB : B ≤ C) : Below B w w2 :=
  ⟨k.os.trans h.os, k.tape.trans h.tape, k.output.trans h.output, Nat.le_trans h.size k.size, fun i hi => (k.block i (by omega)).trans (h.block i hi)⟩
set_option maxHeartbeats 4000000 in
set_option maxRecDepth 100000 in
theorem implIntAdd_any (vx vy : Value) (x y : SI) (w : World) (hlx : x.2.length ≤ 1048576) (hly : y.2.length ≤ 1048576) (hx : OwnS vx x w) (hy : OwnS vy y w) :
    Calls Tryz.prog 62 #[vx, vy] w (NewS (addS x y) w) := by
  obtain ⟨ux, rfl, hox⟩ := hx
  obtain ⟨uy, rfl, hoy⟩ := hy
  obtain ⟨Ax, cx, rfl⟩ := own_len hox
  obtain ⟨Ay, cy, rfl⟩ := own_len hoy
  obtain ⟨W0, hW0⟩ : ∃ W0, W0 = ((w.alloc (.cells #[.bool x.1, .slice Ax x.2.length cx] 29)).alloc (.cells #[.bool y.1, .slice Ay y.2.length cy] 29)).alloc (.cells #[.bool false, .slice none 0 0] 29) := ⟨_, rfl⟩
  have hbb : Below w.heap.size w W0 := by rw [hW0]; exact below_al (below_al (below_al (Below.refl _ _) _) _) _
  have h3 := alloc3 w (.cells #[.bool x.1, .slice Ax x.2.length cx] 29) (.cells #[.bool y.1, .slice Ay y.2.length cy] 29) (.cells #[.bool false, .slice none 0 0] 29)
  rw [← hW0] at h3
  have kx : At [w.heap.size] (BoxAt w.heap.size #[.bool x.1, .slice Ax x.2.length cx] 29) W0 := box_at h3.1
  have ky : At [w.heap.size + 1] (BoxAt (w.heap.size + 1) #[.bool y.1, .slice Ay y.2.length cy] 29) W0 := box_at h3.2.1
  have kr : At [w.heap.size + 1 + 1] (BoxAt (w.heap.size + 1 + 1) #[.bool false, .slice none 0 0] 29) W0 := box_at h3.2.2.1
  have ox := own_below hox hbb
  have oy := own_below hoy hbb
  have rdx := (OwnS.mk (x := x) (ownI_of ox)).rd
  have HW := Lib.hid hW0
  have cx0 := kx.here.cell 0 _ rfl
  have cx1 := kx.here.cell 1 _ rfl
  clear h3 hox hoy hW0
  by_cases okx : okS x = true
  · go_enter Tryz.func62, Tryz.ntmps62
    go_wp2_with fail
    rw [← HW.out]
    refine (implIntOk_any _ x _ hlx rdx).mono ?_
    rintro e w1 ⟨rfl, b1⟩
    rw [okx]
    have bb1 := Below.next hbb b1
    replace kx := kx.below b1
    replace ky := ky.below b1
    replace kr := kr.below b1
    replace ox := own_below ox b1
    replace oy := own_below oy b1
    have cy0 := ky.here.cell 0 _ rfl
    have cy1 := ky.here.cell 1 _ rfl
    clear rdx cx0 cx1
    go_wp2_with fail
    refine (implIntOk_any _ y w1 hly (OwnS.mk (x := y) (ownI_of oy)).rd).mono ?_
    rintro e w2 ⟨rfl, b2⟩
    have bb2 := Below.next bb1 b2
    replace kx := kx.below b2
    replace ky := ky.below b2
    replace kr := kr.below b2
    replace ox := own_below ox b2
    replace oy := own_below oy b2
    clear cy0 cy1
    by_cases oky : okS y = true
    · rw [oky]
      have HZ := Lib.hid (addS_ok okx oky).symm
      have OKX := Lib.hid okx
      have OKY := Lib.hid oky
      have px := okS_parts okx
      have py := okS_parts oky
      have Nx := Lib.hid px.1
      have Ny := Lib.hid py.1
      have Dx := Lib.hid (natOk_parts px.1)
      have Dy := Lib.hid (natOk_parts py.1)
      have hlx5 := Dx.out.2.1
      have hly5 := Dy.out.2.1
      have cx0 := kx.here.cell 0 _ rfl
      have cx1 := kx.here.cell 1 _ rfl
      have cy0 := ky.here.cell 0 _ rfl
      have cy1 := ky.here.cell 1 _ rfl
      have rx := (ownI_of ox).row
      have ry := (ownI_of oy).row
      have hlt2 : w.heap.size + 1 + 1 < w2.heap.size := kr.lt _ (by simp)
      clear okx oky px py b1 b2
      go_upto_region 3 with fail
      go_wp2_with fail
      refine (compareLimbs_any _ _ x.2 y.2 0 _ 0 _ w2 (by omega) (by omega) ⟨Dx.out.1, Dx.out.2.2⟩ ⟨Dy.out.1, Dy.out.2.2⟩ rx ry).mono ?_
      rintro e w' ⟨rfl, q, rfl⟩
      clear cx0 cx1 cy0 cy1
      obtain ⟨W3, hW3⟩ : ∃ W3, W3 = w2.drewN q := ⟨_, rfl⟩
      have b3 : Below w2.heap.size w2 W3 := by rw [hW3]; exact below_drewN (Below.refl _ _) q
      have bb3 := Below.next bb2 b3
      have hlt3 : w.heap.size + 1 + 1 < W3.heap.size := by rw [hW3]; exact hlt2
      replace kx := kx.below b3
      replace ky := ky.below b3
      replace kr := kr.below b3
      replace ox := own_below ox b3
      replace oy := own_below oy b3
      rw [← hW3]
      clear rx ry b3 hW3 bb1 bb2 hlt2
      by_cases hle : nval y.2 ≤ nval x.2
      · have hz : 0 ≤ cmpI (nval x.2) (nval y.2) := by unfold cmpI; split <;> (try split) <;> omega
        have HLE := Lib.hid hle
        have OKP := OKX
        have OKQ := OKY
        have NP := Nx
        have NQ := Ny
        generalize cmpI (nval x.2) (nval y.2) = z at *
        have hzb : decide (z < 0) = false := decide_eq_false (by omega)
        clear hz hle
        obtain ⟨kP, kQ, oP, oQ⟩ : _ ∧ _ ∧ _ ∧ _ := ⟨kx, ky, ox, oy⟩
        clear kx ky ox oy
        -- P: the greater magnitude
        have rdP := (OwnS.mk (x := x) (ownI_of oP)).rd
        have cp0 := kP.here.cell 0 _ rfl
        have cp1 := kP.here.cell 1 _ rfl
        go_wp2_with fail
        refine (copyInt_any _ x W3 (by omega) rdP).mono ?_
        rintro e w4 ⟨b, rfl, hnx, b4⟩
        have bb4 := Below.next bb3 b4
        have hrQ : Row w4 0 W3.heap.size (.slice Ay y.2.length cy) (intsV y.2) := (ownI_of oQ).row.below b4 (Nat.le_refl _)
        replace kP := kP.below b4
        replace kQ := kQ.below b4
        replace kr := kr.below b4
        clear cp0 cp1 rdP oP oQ
        have cp0 := kP.here.cell 0 _ rfl
        have cq0 := kQ.here.cell 0 _ rfl
        have cq1 := kQ.here.cell 1 _ rfl
        have HKQ := Lib.hid kQ
        have HKR := Lib.hid kr
        have HNX := Lib.hid hnx
        have HRQ := Lib.hid hrQ
        have hsz3 : w.heap.size + 1 + 1 < W3.heap.size := hlt3
        clear kP kQ kr hnx hrQ
        by_cases hs : x.1 = y.1
        · have hsb : (x.1 == y.1) = true := by rw [hs]; simp
          have HV := Lib.hid ((add_mk OKP.out OKQ.out hs).trans HZ.out)
          clear hs HZ
          go_upto_region 9 with fail
          go_cut [] (fun wx => Hid (NatX (intK x.1) W3.heap.size b (limbs (nval x.2 + nval y.2).toNat) wx) ∧ Below W3.heap.size w4 wx)
          case first =>
            go_wp2_with fail
            go_region_with (go_at_call 101; refine (natAdd_any W3.heap.size b x.2 _ y.2 0 W3.heap.size _ NP.out NQ.out (Nat.le_refl _) HRQ.out.drew1 HNX.out.drew1).mono ?_; rintro e w5 ⟨rfl, hp5⟩; have H5 := Lib.hid hp5; clear hp5)
            all_goals
              go_wp2_with fail
              go_meet
              exact ⟨Lib.hid H5.out.1, (Below.drew1 (Below.refl _ _)).trans H5.out.2⟩
          rename World => w6
          obtain ⟨HX, b6⟩ := hcut
          have bb6 := below_low bb4 b6 (by omega)
          have kr6 := HKR.out.belowB b6 (fun g hg => by simp at hg; omega)
          clear cp0 cq0 cq1
          go_wp2_with fail
          refine (signed_any _ _ b _ _ (sum_short NP.out NQ.out) HX.out).mono ?_
          rw [HV.out]
          rintro e w7 ⟨u7, rfl, o7, b7⟩
          generalize addS x y = z7 at *
          obtain ⟨A7, c7, rfl⟩ := own_len o7
          have bb7 := Below.next bb6 b7
          have kr7 := kr6.below b7
          have cz0 := kr7.here.cell 0 _ rfl
          have cz1 := kr7.here.cell 1 _ rfl
          have fz0 := Lib.frozen_of_heap kr7.here 0
          have fz1 := Lib.frozen_of_heap kr7.here 1
          have HO := Lib.hid o7
          have HK := Lib.hid kr7
          clear o7 kr6 kr7 HX HV
          go_wp2
          refine bodyPost_ret (v := .agg #[.bool _, .slice A7 _ c7]) (by simp [results, Tryz.results62, go_sem, cz0, cz1]; exact ⟨rfl, rfl⟩) rfl ?_
          exact newS_ret HK.out.here HO.out (by omega) (by omega) bb7
        · have hsb : (x.1 == y.1) = false := by rw [beq_eq_false_iff_ne]; exact hs
          have HV := Lib.hid ((sub_mk OKP.out OKQ.out hs HLE.out).trans HZ.out)
          clear hs HZ
          go_upto_region 9 with fail
          go_cut [] (fun wx => Hid (NatX (intK x.1) W3.heap.size b (limbs (nval x.2 - nval y.2).toNat) wx) ∧ Below W3.heap.size w4 wx)
          case first =>
            go_wp2_with fail
            go_region_with (go_at_call 102; refine (natTake_any W3.heap.size b x.2 _ y.2 0 W3.heap.size _ (by omega) (lens_of_le NP.out NQ.out HLE.out) (natOk_parts NP.out).1 (natOk_parts NQ.out).1 HLE.out (Nat.le_refl _) HRQ.out.drew1 HNX.out.drew1).mono ?_; rintro e w5 ⟨rfl, hp5⟩; have H5 := Lib.hid hp5; clear hp5)
            all_goals
              go_wp2_with fail
              go_meet
              exact ⟨Lib.hid H5.out.1, (Below.drew1 (Below.refl _ _)).trans H5.out.2⟩
          rename World => w6
          obtain ⟨HX, b6⟩ := hcut
          have bb6 := below_low bb4 b6 (by omega)
          have kr6 := HKR.out.belowB b6 (fun g hg => by simp at hg; omega)
          clear cp0 cq0 cq1
          go_wp2_with fail
          refine (signed_any _ _ b _ _ (dif_short NP.out NQ.out HLE.out) HX.out).mono ?_
          rw [HV.out]
          rintro e w7 ⟨u7, rfl, o7, b7⟩
          generalize addS x y = z7 at *
          obtain ⟨A7, c7, rfl⟩ := own_len o7
          have bb7 := Below.next bb6 b7
          have kr7 := kr6.below b7
          have cz0 := kr7.here.cell 0 _ rfl
          have cz1 := kr7.here.cell 1 _ rfl
          have fz0 := Lib.frozen_of_heap kr7.here 0
          have fz1 := Lib.frozen_of_heap kr7.here 1
          have HO := Lib.hid o7
          have HK := Lib.hid kr7
          clear o7 kr6 kr7 HX HV
          go_wp2
          refine bodyPost_ret (v := .agg #[.bool _, .slice A7 _ c7]) (by simp [results, Tryz.results62, go_sem, cz0, cz1]; exact ⟨rfl, rfl⟩) rfl ?_
          exact newS_ret HK.out.here HO.out (by omega) (by omega) bb7
      · have hz : cmpI (nval x.2) (nval y.2) < 0 := by unfold cmpI; rw [if_pos (by omega)]; omega
        have hle2 : nval x.2 ≤ nval y.2 := by omega
        have HLE := Lib.hid hle2
        have OKP := OKY
        have OKQ := OKX
        have NP := Ny
        have NQ := Nx
        replace HZ : Hid (ofZ (valS y + valS x) = addS x y) := Lib.hid (by rw [Int.add_comm]; exact HZ.out)
        generalize cmpI (nval x.2) (nval y.2) = z at *
        have hzb : decide (z < 0) = true := decide_eq_true hz
        clear hz hle hle2
        have cx0 := kx.here.cell 0 _ rfl
        have cx1 := kx.here.cell 1 _ rfl
        have cy0 := ky.here.cell 0 _ rfl
        have cy1 := ky.here.cell 1 _ rfl
        have fx0 := Lib.frozen_of_heap kx.here 0
        have fx1 := Lib.frozen_of_heap kx.here 1
        have fy0 := Lib.frozen_of_heap ky.here 0
        have fy1 := Lib.frozen_of_heap ky.here 1
        have HKX := Lib.hid kx
        have HKY := Lib.hid ky
        clear kx ky
        go_upto_region 5 with fail
        obtain ⟨V3, hV3⟩ : ∃ V3, V3 = (((W3.setCell ⟨w.heap.size, 0, none⟩ (.bool y.1)).setCell ⟨w.heap.size, 1, none⟩ (.slice Ay y.2.length cy)).setCell ⟨w.heap.size + 1, 0, none⟩ (.bool x.1)).setCell ⟨w.heap.size + 1, 1, none⟩ (.slice Ax x.2.length cx) := ⟨_, rfl⟩
        rw [← hV3]
        have hsame : ∀ i, i ≠ w.heap.size → i ≠ w.heap.size + 1 → V3.heap[i]? = W3.heap[i]? := fun i h1 h2 => by
          rw [hV3, Below.heap_setCell _ _ _ _ h2, Below.heap_setCell _ _ _ _ h2, Below.heap_setCell _ _ _ _ h1, Below.heap_setCell _ _ _ _ h1]
        have hsize : V3.heap.size = W3.heap.size := by rw [hV3]; simp [World.setCell]
        have hnx0 := Lib.ownBlock_ne ox HKX.out.here (by decide)
        have hnx1 := Lib.ownBlock_ne ox HKY.out.here (by decide)
        have hny0 := Lib.ownBlock_ne oy HKX.out.here (by decide)
        have hny1 := Lib.ownBlock_ne oy HKY.out.here (by decide)
        have oP : V3.ownsRow 0 3 1 (.slice Ay y.2.length cy) y.2.length (intsV y.2) := own_stays (own_zero oy) fun i hi => hsame i (fun e => hny0 (by rw [hi, e])) (fun e => hny1 (by rw [hi, e]))
        have oQ : V3.ownsRow 0 3 1 (.slice Ax x.2.length cx) x.2.length (intsV x.2) := own_stays (own_zero ox) fun i hi => hsame i (fun e => hnx0 (by rw [hi, e])) (fun e => hnx1 (by rw [hi, e]))
        have kP : At [w.heap.size] (BoxAt w.heap.size #[.bool y.1, .slice Ay y.2.length cy] 29) V3 := box_at (by
          show V3.heap[w.heap.size]? = _
          rw [hV3, Below.heap_setCell _ _ _ _ (by simp), Below.heap_setCell _ _ _ _ (by simp)]
          exact swap_box HKX.out.here)
        have kQ : At [w.heap.size + 1] (BoxAt (w.heap.size + 1) #[.bool x.1, .slice Ax x.2.length cx] 29) V3 := box_at (by
          rw [hV3]
          refine swap_box (c0 := .bool y.1) (c1 := .slice Ay y.2.length cy) ?_
          show (World.heap _)[w.heap.size + 1]? = _
          rw [Below.heap_setCell _ _ _ _ (by simp), Below.heap_setCell _ _ _ _ (by simp)]
          exact HKY.out.here)
        replace kr : At [w.heap.size + 1 + 1] (BoxAt (w.heap.size + 1 + 1) #[.bool false, .slice none 0 0] 29) V3 := kr.move (fun g hg => by simp at hg; subst hg; exact hsame _ (by omega) (by omega)) (by omega)
        replace bb3 : Below w.heap.size w V3 := by rw [hV3]; exact below_set2 (below_set2 bb3 (Nat.le_refl _)) (by omega)
        replace hlt3 : w.heap.size + 1 + 1 < V3.heap.size := by omega
        clear hV3 hsame hsize hnx0 hnx1 hny0 hny1 ox oy cx0 cx1 cy0 cy1 fx0 fx1 fy0 fy1 HKX HKY
        -- P: the greater magnitude
        have rdP := (OwnS.mk (x := y) (ownI_of oP)).rd
        have cp0 := kP.here.cell 0 _ rfl
        have cp1 := kP.here.cell 1 _ rfl
        go_wp2_with fail
        refine (copyInt_any _ y V3 (by omega) rdP).mono ?_
        rintro e w4 ⟨b, rfl, hnx, b4⟩
        have bb4 := Below.next bb3 b4
        have hrQ : Row w4 0 V3.heap.size (.slice Ax x.2.length cx) (intsV x.2) := (ownI_of oQ).row.below b4 (Nat.le_refl _)
        replace kP := kP.below b4
        replace kQ := kQ.below b4
        replace kr := kr.below b4
        clear cp0 cp1 rdP oP oQ
        have cp0 := kP.here.cell 0 _ rfl
        have cq0 := kQ.here.cell 0 _ rfl
        have cq1 := kQ.here.cell 1 _ rfl
        have HKQ := Lib.hid kQ
        have HKR := Lib.hid kr
        have HNX := Lib.hid hnx
        have HRQ := Lib.hid hrQ
        have hsz3 : w.heap.size + 1 + 1 < V3.heap.size := hlt3
        clear kP kQ kr hnx hrQ
        by_cases hs : y.1 = x.1
        · have hsb : (y.1 == x.1) = true := by rw [hs]; simp
          have HV := Lib.hid ((add_mk OKP.out OKQ.out hs).trans HZ.out)
          clear hs HZ
          go_upto_region 9 with fail
          go_cut [] (fun wx => Hid (NatX (intK y.1) V3.heap.size b (limbs (nval y.2 + nval x.2).toNat) wx) ∧ Below V3.heap.size w4 wx)
          case first =>
            go_wp2_with fail
            go_region_with (go_at_call 101; refine (natAdd_any V3.heap.size b y.2 _ x.2 0 V3.heap.size _ NP.out NQ.out (Nat.le_refl _) HRQ.out.drew1 HNX.out.drew1).mono ?_; rintro e w5 ⟨rfl, hp5⟩; have H5 := Lib.hid hp5; clear hp5)
            all_goals
              go_wp2_with fail
              go_meet
              exact ⟨Lib.hid H5.out.1, (Below.drew1 (Below.refl _ _)).trans H5.out.2⟩
          rename World => w6
          obtain ⟨HX, b6⟩ := hcut
          have bb6 := below_low bb4 b6 (by omega)
          have kr6 := HKR.out.belowB b6 (fun g hg => by simp at hg; omega)
          clear cp0 cq0 cq1
          go_wp2_with fail
          refine (signed_any _ _ b _ _ (sum_short NP.out NQ.out) HX.out).mono ?_
          rw [HV.out]
          rintro e w7 ⟨u7, rfl, o7, b7⟩
          generalize addS x y = z7 at *
          obtain ⟨A7, c7, rfl⟩ := own_len o7
          have bb7 := Below.next bb6 b7
          have kr7 := kr6.below b7
          have cz0 := kr7.here.cell 0 _ rfl
          have cz1 := kr7.here.cell 1 _ rfl
          have fz0 := Lib.frozen_of_heap kr7.here 0
          have fz1 := Lib.frozen_of_heap kr7.here 1
          have HO := Lib.hid o7
          have HK := Lib.hid kr7
          clear o7 kr6 kr7 HX HV
          go_wp2
          refine bodyPost_ret (v := .agg #[.bool _, .slice A7 _ c7]) (by simp [results, Tryz.results62, go_sem, cz0, cz1]; exact ⟨rfl, rfl⟩) rfl ?_
          exact newS_ret HK.out.here HO.out (by omega) (by omega) bb7
        · have hsb : (y.1 == x.1) = false := by rw [beq_eq_false_iff_ne]; exact hs
          have HV := Lib.hid ((sub_mk OKP.out OKQ.out hs HLE.out).trans HZ.out)
          clear hs HZ
          go_upto_region 9 with fail
          go_cut [] (fun wx => Hid (NatX (intK y.1) V3.heap.size b (limbs (nval y.2 - nval x.2).toNat) wx) ∧ Below V3.heap.size w4 wx)
          case first =>
            go_wp2_with fail
            go_region_with (go_at_call 102; refine (natTake_any V3.heap.size b y.2 _ x.2 0 V3.heap.size _ (by omega) (lens_of_le NP.out NQ.out HLE.out) (natOk_parts NP.out).1 (natOk_parts NQ.out).1 HLE.out (Nat.le_refl _) HRQ.out.drew1 HNX.out.drew1).mono ?_; rintro e w5 ⟨rfl, hp5⟩; have H5 := Lib.hid hp5; clear hp5)
            all_goals
              go_wp2_with fail
              go_meet
              exact ⟨Lib.hid H5.out.1, (Below.drew1 (Below.refl _ _)).trans H5.out.2⟩
          rename World => w6
          obtain ⟨HX, b6⟩ := hcut
          have bb6 := below_low bb4 b6 (by omega)
          have kr6 := HKR.out.belowB b6 (fun g hg => by simp at hg; omega)
          clear cp0 cq0 cq1
          go_wp2_with fail
          refine (signed_any _ _ b _ _ (dif_short NP.out NQ.out HLE.out) HX.out).mono ?_
          rw [HV.out]
          rintro e w7 ⟨u7, rfl, o7, b7⟩
          generalize addS x y = z7 at *
          obtain ⟨A7, c7, rfl⟩ := own_len o7
          have bb7 := Below.next bb6 b7
          have kr7 := kr6.below b7
          have cz0 := kr7.here.cell 0 _ rfl
          have cz1 := kr7.here.cell 1 _ rfl
          have fz0 := Lib.frozen_of_heap kr7.here 0
          have fz1 := Lib.frozen_of_heap kr7.here 1
          have HO := Lib.hid o7
          have HK := Lib.hid kr7
          clear o7 kr6 kr7 HX HV
          go_wp2
          refine bodyPost_ret (v := .agg #[.bool _, .slice A7 _ c7]) (by simp [results, Tryz.results62, go_sem, cz0, cz1]; exact ⟨rfl, rfl⟩) rfl ?_
          exact newS_ret HK.out.here HO.out (by omega) (by omega) bb7
    · have oky' : okS y = false := by simpa using oky
      have HV := Lib.hid (show addS x y = zeroS by unfold addS; rw [if_neg (fun h => oky h.2)])
      rw [oky']
      have cz0 := kr.here.cell 0 _ rfl
      have cz1 := kr.here.cell 1 _ rfl
      have fz0 := Lib.frozen_of_heap kr.here 0
      have fz1 := Lib.frozen_of_heap kr.here 1
      clear oky kx ky kr ox oy
      go_wp2
      refine bodyPost_ret (v := .agg #[.bool false, .slice none 0 0]) (by simp [results, Tryz.results62, go_sem, cz0, cz1]) rfl ?_
      rw [HV.out]
      exact newS_zero (below_set2 bb2 (by omega))
  · have okx' : okS x = false := by simpa using okx
    have HV := Lib.hid (show addS x y = zeroS by unfold addS; rw [if_neg (fun h => okx h.1)])
    clear okx
    go_enter Tryz.func62, Tryz.ntmps62
    go_wp2_with fail
    rw [← HW.out]
    refine (implIntOk_any _ x _ hlx rdx).mono ?_
    rintro e w1 ⟨rfl, b1⟩
    rw [okx']
    have bb1 := Below.next hbb b1
    replace kr := kr.below b1
    have cz0 := kr.here.cell 0 _ rfl
    have cz1 := kr.here.cell 1 _ rfl
    have fz0 := Lib.frozen_of_heap kr.here 0
    have fz1 := Lib.frozen_of_heap kr.here 1
    clear kx ky kr rdx ox oy cx0 cx1
    go_wp2
    refine bodyPost_ret (v := .agg #[.bool false, .slice none 0 0]) (by simp [results, Tryz.results62, go_sem, cz0, cz1]) rfl ?_
    rw [HV.out]
    exact newS_zero (below_set2 bb1 (by omega))
theorem negS_len (x : SI) : (negS x).2.length ≤ 1048576 := by
  have := (natOk_parts (okS_parts (negS_ok x)).1).2.1
  omega
theorem sub_add (x : SI) {y : SI} (oky : okS y = true) : subS x y = addS x (negS y) := by
  unfold subS addS
  by_cases okx : okS x = true
  · rw [if_pos ⟨okx, oky⟩, if_pos ⟨okx, negS_ok y⟩, negS_val oky]; rfl
  · rw [if_neg (fun h => okx h.1), if_neg (fun h => okx h.1)]
set_option maxHeartbeats 4000000 in
set_option maxRecDepth 100000 in
theorem implIntSub_any (vx vy : Value) (x y : SI) (w : World) (hlx : x.2.length ≤ 1048576) (hly : y.2.length ≤ 1048576) (hx : OwnS vx x w) (hy : OwnS vy y w) :
    Calls Tryz.prog 59 #[vx, vy] w (NewS (subS x y) w) := by
  obtain ⟨ux, rfl, hox⟩ := hx
  obtain ⟨uy, rfl, hoy⟩ := hy
  obtain ⟨Ax, cx, rfl⟩ := own_len hox
  obtain ⟨Ay, cy, rfl⟩ := own_len hoy
  obtain ⟨W0, hW0⟩ : ∃ W0, W0 = ((w.alloc (.cells #[.bool x.1, .slice Ax x.2.length cx] 29)).alloc (.cells #[.bool y.1, .slice Ay y.2.length cy] 29)).alloc (.cells #[.bool false, .slice none 0 0] 29) := ⟨_, rfl⟩
  have hbb : Below w.heap.size w W0 := by rw [hW0]; exact below_al (below_al (below_al (Below.refl _ _) _) _) _
  have h3 := alloc3 w (.cells #[.bool x.1, .slice Ax x.2.length cx] 29) (.cells #[.bool y.1, .slice Ay y.2.length cy] 29) (.cells #[.bool false, .slice none 0 0] 29)
  rw [← hW0] at h3
  have kx : At [w.heap.size] (BoxAt w.heap.size #[.bool x.1, .slice Ax x.2.length cx] 29) W0 := box_at h3.1
  have ky : At [w.heap.size + 1] (BoxAt (w.heap.size + 1) #[.bool y.1, .slice Ay y.2.length cy] 29) W0 := box_at h3.2.1
  have kr : At [w.heap.size + 1 + 1] (BoxAt (w.heap.size + 1 + 1) #[.bool false, .slice none 0 0] 29) W0 := box_at h3.2.2.1
  have atx := own_at hox
  have aty := own_at hoy
  have ltx := atx.lt
  have lty := aty.lt
  have OFx := Lib.hid (show ∀ W, Chg [w.heap.size + 1 + 1] W0 W → OwnI (.slice Ax x.2.length cx) x.2 W from fun W hc => ((atx.below hbb).chg hc (fun i hi hm => by have := ltx i hi; simp at hm; omega)).here)
  have OFy := Lib.hid (show ∀ W, Chg [w.heap.size + 1 + 1] W0 W → OwnI (.slice Ay y.2.length cy) y.2 W from fun W hc => ((aty.below hbb).chg hc (fun i hi hm => by have := lty i hi; simp at hm; omega)).here)
  have KL := Lib.hid (show ∀ W, Chg [w.heap.size + 1 + 1] W0 W → W.cell? ⟨w.heap.size, 0, none⟩ = some (.bool x.1) ∧ W.cell? ⟨w.heap.size, 1, none⟩ = some (.slice Ax x.2.length cx) ∧ W.cell? ⟨w.heap.size + 1, 0, none⟩ = some (.bool y.1) ∧ W.cell? ⟨w.heap.size + 1, 1, none⟩ = some (.slice Ay y.2.length cy) ∧ Hid (Chg [w.heap.size + 1 + 1] W0 W) from
    fun W hc => ⟨(kx.chg hc (fun i hi hm => by simp at hi hm; omega)).here.cell 0 _ rfl, (kx.chg hc (fun i hi hm => by simp at hi hm; omega)).here.cell 1 _ rfl, (ky.chg hc (fun i hi hm => by simp at hi hm; omega)).here.cell 0 _ rfl, (ky.chg hc (fun i hi hm => by simp at hi hm; omega)).here.cell 1 _ rfl, Lib.hid hc⟩)
  have HW := Lib.hid hW0
  have RDy := Lib.hid (show ∀ W, Below W0.heap.size W0 W → RdS W (.agg #[.bool y.1, .slice Ay y.2.length cy]) y from fun W hb => (OwnS.mk (x := y) (OFy.out W (Chg.of_below hb))).rd)
  have cx0 := kx.here.cell 0 _ rfl
  have cx1 := kx.here.cell 1 _ rfl
  have cy0 := ky.here.cell 0 _ rfl
  have cy1 := ky.here.cell 1 _ rfl
  have frz := Lib.frozen_of_heap kr.here
  clear h3 atx aty ltx lty hW0 hox hoy
  by_cases oky : okS y = true
  · have HV := Lib.hid (sub_add x oky)
    have hnl := negS_len y
    go_enter Tryz.func59, Tryz.ntmps59
    go_wp2_with fail
    rw [← HW.out]
    refine (implIntOk_any _ y W0 hly (RDy.out W0 (Below.refl _ _))).mono ?_
    rintro e w2 ⟨rfl, b02⟩
    rw [oky]
    have bb2 := Below.next hbb b02
    replace kx := kx.below b02
    replace ky := ky.below b02
    replace kr := kr.below b02
    clear cx0 cx1 cy0 cy1
    have cx0 := kx.here.cell 0 _ rfl
    have cx1 := kx.here.cell 1 _ rfl
    have cy0 := ky.here.cell 0 _ rfl
    have cy1 := ky.here.cell 1 _ rfl
    go_wp2_with fail
    have KF := Lib.hid (show ∀ W, Chg [w.heap.size + 1 + 1] w2 W → Chg [w.heap.size + 1 + 1] W0 W from fun W hc => (Chg.of_below b02).trans hc)
    clear cx0 cx1 cy0 cy1
    go_region_held3 (fun W => W.cell? ⟨w.heap.size, 0, none⟩ = some (.bool x.1) ∧ W.cell? ⟨w.heap.size, 1, none⟩ = some (.slice Ax x.2.length cx) ∧ W.cell? ⟨w.heap.size + 1, 0, none⟩ = some (.bool y.1) ∧ W.cell? ⟨w.heap.size + 1, 1, none⟩ = some (.slice Ay y.2.length cy) ∧ Hid (Chg [w.heap.size + 1 + 1] W0 W))
      ((refine KL.out _ ?_; (first | exact HC2.out | exact HC1.out | exact (Chg.setCell (Chg.setCell HC2.out (by simp) _) (by simp) _) | exact KF.out _ ⟨rfl, rfl, rfl, Nat.le_refl _, fun _ _ _ => rfl⟩ | fail)))
      (first
        | (go_at_call 96; (have hBB := (‹_ ∧ _ ∧ _ ∧ _ ∧ Hid (Chg [w.heap.size + 1 + 1] W0 _)›).2.2.2.2); (with_reducible refine (implIntNeg_any _ y _ hly (OwnS.mk (x := y) (OFy.out _ hBB.out))).mono ?_); rintro e w3' ⟨u3', rfl, o3', b3'⟩; have HC1 := Lib.hid (hBB.out.trans (Chg.of_below b3')); (have kr3 := At.behind kr b3' rfl); (have bb3' := Below.next (show Below w.heap.size w w2.drew from bb2.drew) b3'); obtain ⟨A3', c3', rfl⟩ := own_len o3'; clear hBB)
        | (go_at_call 62; (have hBB := (‹_ ∧ _ ∧ _ ∧ _ ∧ Hid (Chg [w.heap.size + 1 + 1] W0 _)›).2.2.2.2); (with_reducible refine (implIntAdd_any _ _ x (negS y) _ hlx hnl (OwnS.mk (x := x) (OFx.out _ hBB.out)) (OwnS.mk (x := negS y) (ownI_of o3'))).mono ?_); rintro e w3 ⟨u3, rfl, o3, b3⟩; have HC2 := Lib.hid (hBB.out.trans (Chg.of_below b3)); (have kr4 := kr3.below b3); (have bb3 := Below.next bb3' b3); (have cz0 := kr4.here.cell 0 _ rfl); (have cz1 := kr4.here.cell 1 _ rfl); (have fz0 := Lib.frozen_of_heap kr4.here 0); (have fz1 := Lib.frozen_of_heap kr4.here 1); obtain ⟨A3, c3, rfl⟩ := own_len o3; clear hBB))
    have HO := Lib.hid o3
    have HBB := Lib.hid bb3
    have HK := Lib.hid kr4
    have HZ := Lib.hid bb3'.size
    clear o3 bb3 kr kr3 kr4 kx ky o3' b3' b3
    go_wp2
    refine bodyPost_ret (v := .agg #[.bool _, .slice A3 _ c3]) (by simp [results, Tryz.results59, go_sem, cz0, cz1]; exact ⟨rfl, rfl⟩) rfl ?_
    rw [HV.out]
    exact newS_ret HK.out.here HO.out HZ.out (by omega) HBB.out
  · have oky2 : okS y = false := by simpa using oky
    have HV := Lib.hid (show subS x y = zeroS by unfold subS; rw [if_neg (fun h => oky h.2)])
    clear oky
    go_enter Tryz.func59, Tryz.ntmps59
    go_wp2_with fail
    rw [← HW.out]
    refine (implIntOk_any _ y W0 hly (RDy.out W0 (Below.refl _ _))).mono ?_
    rintro e w2 ⟨rfl, b2⟩
    rw [oky2]
    have bb2 := Below.next hbb b2
    replace kr := kr.below b2
    have cz0 := kr.here.cell 0 _ rfl
    have cz1 := kr.here.cell 1 _ rfl
    have fz0 := Lib.frozen_of_heap kr.here 0
    have fz1 := Lib.frozen_of_heap kr.here 1
    clear kx ky kr cx0 cx1 cy0 cy1
    go_wp2
    refine bodyPost_ret (v := .agg #[.bool false, .slice none 0 0]) (by simp [results, Tryz.results59, go_sem, cz0, cz1]) rfl ?_
    rw [HV.out]
    exact newS_zero (below_set2 bb2 (by omega))
end Go.Proofs.YtofehcpapdlcnabGreatDoor
