/-
  Chapter 5 of package impl: what its functions on signed numbers return.
-/
import Derived.Test.YthfkdofnoomhaaaSignSpec
import Derived.Test.YthfkdofnoomhaaaNatTimes
import Derived.Test.YthfkdofnoomhaaaNatOps
import Derived.Deep.RegionHeld3
namespace Go.Proofs.Ythfkdofnoomhaaa
open Go.RowKit

/-- an integer under construction: its limbs lie at the head of its block, its sign behind them -/
@[reducible] def intK (n : Bool) : NatK := ⟨[.bool n], 66, by decide⟩
theorem NatX.below {K : NatK} {B b : Nat} {xs : List Int} {w w' : World} (h : NatX K B b xs w) (hb : Below w.heap.size w w') : NatX K B b xs w' := by
  have hlt := h.lt
  obtain ⟨hB, v, hk, ho, hne⟩ := h
  exact ⟨hB, v, (hb.block b hlt).trans hk, own_below ho hb, hne⟩
/-- a new integer -/
def NewInteger (x : SI) (w : World) (e : Ending) (w' : World) : Prop :=
  ∃ b, e = .returned (.pointer (some ⟨b, 0, none⟩)) ∧ NatX (intK x.1) w.heap.size b x.2 w' ∧ Below w.heap.size w w'

theorem NatX.sign {m : Bool} {B b : Nat} {xs : List Int} {w : World} (h : NatX (intK m) B b xs w) (n : Bool) : NatX (intK n) B b xs (w.setCell ⟨b, 1, none⟩ (.bool n)) := by
  obtain ⟨hB, v, hk, ho, hne⟩ := h
  refine ⟨hB, v, ?_, own_stays ho fun i hi => Below.heap_setCell _ _ _ _ (fun e => hne (by rw [hi, e])), hne⟩
  simp [World.setCell, Array.getElem?_modify, hk]
set_option maxHeartbeats 400000 in
set_option maxRecDepth 100000 in
theorem implIntOk_any (v : Value) (x : SI) (w : World) (hl : x.2.length ≤ 1048576) (h : RdS w v x) :
    Calls Try.prog 27 #[v] w fun e w' => e = .returned (.bool (okS x)) ∧ Below w.heap.size w w' := by
  obtain ⟨n, xs⟩ := x
  obtain ⟨u, rfl, hp⟩ := h
  obtain ⟨A, c, rfl⟩ := row_form hp
  rw [intsV_length] at hp ⊢
  simp only at hl hp ⊢
  have hbx : Below w.heap.size w (w.alloc (.cells #[.bool n, .slice A xs.length c] 29)) := below_al (Below.refl _ _) _
  have HV := Lib.hid (show okS (n, xs) = (natOkB xs && (!n || decide (0 < xs.length))) from rfl)
  by_cases ok : natOkB xs = true
  · rw [ok] at HV
    go_enter Try.func27, Try.ntmps27
    go_wp2_with fail
    refine (implNatOk_same _ xs 0 w.heap.size _ (by omega) (hp.below hbx (Nat.le_refl _))).mono ?_
    rintro e w1 ⟨rfl, rfl⟩
    rw [ok]
    by_cases hz : xs.length = 0
    · have hb : ((xs.length : Int) == 0) = true := by rw [hz]; rfl
      have hd : decide (0 < xs.length) = false := decide_eq_false (by omega)
      rw [hd] at HV
      clear hz hd
      cases n <;>
      · go_wp2
        go_ret
        exact ⟨ret_bool (by rw [HV.out]; rfl), hbx⟩
    · have hb : ((xs.length : Int) == 0) = false := by rw [beq_eq_false_iff_ne]; omega
      have hd : decide (0 < xs.length) = true := decide_eq_true (by omega)
      rw [hd] at HV
      clear hz hd
      cases n <;>
      · go_wp2
        go_ret
        exact ⟨ret_bool (by rw [HV.out]; rfl), hbx⟩
  · have ok' : natOkB xs = false := by simpa using ok
    rw [ok'] at HV
    clear ok
    go_enter Try.func27, Try.ntmps27
    go_wp2_with fail
    refine (implNatOk_same _ xs 0 w.heap.size _ (by omega) (hp.below hbx (Nat.le_refl _))).mono ?_
    rintro e w1 ⟨rfl, rfl⟩
    rw [ok']
    go_wp2
    go_ret
    exact ⟨ret_bool (by rw [HV.out]; rfl), hbx⟩

theorem Below.drew1 {B : Nat} {w w1 : World} (h : Below B w w1) : Below B w w1.drew := ⟨h.os, h.tape, h.output, h.size, h.block⟩
set_option maxHeartbeats 1000000 in
set_option maxRecDepth 100000 in
theorem copyInt_any (v : Value) (x : SI) (w : World) (hl : x.2.length ≤ 1048576) (h : RdS w v x) :
    Calls Try.prog 52 #[v] w (NewInteger x w) := by
  obtain ⟨u, rfl, hp⟩ := h
  obtain ⟨A, c, rfl⟩ := row_form hp
  rw [intsV_length] at hp ⊢
  have hbx : Below w.heap.size w (w.alloc (.cells #[.bool x.1, .slice A x.2.length c] 29)) := below_al (Below.refl _ _) _
  have kx := box_new w #[.bool x.1, .slice A x.2.length c] 29
  obtain ⟨W0, hW0⟩ : ∃ W0, W0 = w.alloc (.cells #[.bool x.1, .slice A x.2.length c] 29) := ⟨_, rfl⟩
  rw [← hW0] at hbx kx
  have HW := Lib.hid hW0
  have HP := Lib.hid hp
  have c0 := kx.here.cell 0 _ rfl
  have c1 := kx.here.cell 1 _ rfl
  have HBX := Lib.hid hbx
  have KX := Lib.hid kx
  clear hp hW0 kx hbx
  go_enter Try.func52, Try.ntmps52
  go_wp2_with fail
  rw [← HW.out]
  go_region_with (go_at_call 70; refine (copyNat_any _ x.2 0 w.heap.size _ hl (HP.out.below (Below.drew1 HBX.out) (Nat.le_refl _))).mono ?_; rintro e w3 ⟨b, rfl, hx, b3⟩; obtain ⟨hB, vv, hbk, hown, hne⟩ := hx; obtain ⟨A3, c3, rfl⟩ := own_len hown; have hk3 := ((At.move (w' := W0.drew) KX.out (fun _ _ => rfl) (Nat.le_refl _)).below b3).here; (have d0 := hk3.cell 0 _ rfl); (have d1 := hk3.cell 1 _ rfl); (have cb := NatX.cell hbk); have HO := Lib.hid hown; have HB3 := Lib.hid b3; clear hbk hown hne hB b3 hk3)
  all_goals
    have bb3 := Below.next (Below.drew1 HBX.out) HB3.out
    go_wp2
    go_ret
    exact ⟨_, rfl, NatX.new (K := intK x.1) bb3.size (own_low HO.out (Below.drew1 HBX.out).size), below_al bb3 _⟩

/-- a new signed number; its limbs lie at B or behind it -/
def NewSB (B : Nat) (x : SI) (w : World) (e : Ending) (w' : World) : Prop := ∃ u, e = .returned (.agg #[.bool x.1, u]) ∧ w'.ownsRow B 3 1 u x.2.length (intsV x.2) ∧ Below w.heap.size w w'
set_option maxHeartbeats 1000000 in
set_option maxRecDepth 100000 in
theorem signed_any (n : Bool) (B b : Nat) (xs : List Int) (w : World) (hl : xs.length ≤ 1048576) (h : NatX (intK n) B b xs w) :
    Calls Try.prog 55 #[.pointer (some ⟨b, 0, none⟩)] w (NewSB B (mkS n xs) w) := by
  have hcl : (capL xs).length ≤ 50 := by
    unfold capL
    split
    · simp
    · omega
  have HR := Lib.hid (show mkS n xs = (n && decide (0 < (capL xs).length), capL xs) from rfl)
  have hbb := below_al (Below.refl w.heap.size w) (.cells #[.bool false, .slice none 0 0] 29)
  have kr := box_new w #[.bool false, .slice none 0 0] 29
  have hx : NatX (intK n) B b xs (w.alloc (.cells #[.bool false, .slice none 0 0] 29)) := h.below hbb
  obtain ⟨W0, hW0⟩ : ∃ W0, W0 = w.alloc (.cells #[.bool false, .slice none 0 0] 29) := ⟨_, rfl⟩
  rw [← hW0] at hx hbb kr
  have HW := Lib.hid hW0
  clear hW0
  have cn : W0.cell? ⟨b, 1, none⟩ = some (.bool n) := by
    obtain ⟨_, v, hb, _⟩ := hx
    exact NatX.cell1 hb 0 rfl
  have cz0 := kr.here.cell 0 _ rfl
  have cz1 := kr.here.cell 1 _ rfl
  have fz0 := Lib.frozen_of_heap kr.here 0
  have fz1 := Lib.frozen_of_heap kr.here 1
  have HK := Lib.hid kr
  clear kr h
  cases n
  all_goals
    go_enter Try.func55, Try.ntmps55
    go_wp2_with fail
    rw [← HW.out]
    refine (natResult_any B b xs _ hl hx).mono ?_
    rintro e w1 ⟨rfl, v1, rfl, o1⟩
    obtain ⟨A1, c1, rfl⟩ := own_len o1
    have HR2 := HR.out
    generalize capL xs = ys at *
    have HO := Lib.hid o1
    have HRR := Lib.hid HR2
    clear o1 hx HR2 HR
    go_wp2
    refine bodyPost_ret (v := .agg #[.bool _, .slice A1 ys.length c1]) (by simp [results, Try.results55, go_sem, cz0, cz1]; rfl) rfl ?_
    rw [HRR.out]
    have hne := Lib.ownBlock_ne HO.out HK.out.here (by decide)
    refine ⟨.slice A1 ys.length c1, ?_, own_stays HO.out fun i hi => ?_, below_set2 hbb (Nat.le_refl _)⟩
    · first | rfl | simp
    · have : i ≠ w.heap.size := fun e => hne (by rw [hi, e])
      exact (Below.heap_setCell _ _ _ _ this).trans (Below.heap_setCell _ _ _ _ this)

set_option maxHeartbeats 1000000 in
set_option maxRecDepth 100000 in
theorem withSign_any (v : Value) (x : SI) (n : Bool) (w : World) (hl : x.2.length ≤ 1048576) (h : OwnS v x w) :
    Calls Try.prog 75 #[v, .bool n] w (NewS (if okS x = true then mkS n x.2 else zeroS) w) := by
  obtain ⟨u, rfl, ho⟩ := h
  obtain ⟨A, c, rfl⟩ := own_len ho
  have hbb : Below w.heap.size w ((w.alloc (.cells #[.bool x.1, .slice A x.2.length c] 29)).alloc (.cells #[.bool false, .slice none 0 0] 29)) := below_al (below_al (Below.refl _ _) _) _
  have kb := (box_new w #[.bool x.1, .slice A x.2.length c] 29).below (below_al (Below.refl _ _) (.cells #[.bool false, .slice none 0 0] 29))
  have kr := box_new (w.alloc (.cells #[.bool x.1, .slice A x.2.length c] 29)) #[.bool false, .slice none 0 0] 29
  rw [show (w.alloc (.cells #[.bool x.1, .slice A x.2.length c] 29)).heap.size = w.heap.size + 1 by simp] at kr
  have hoB := own_below ho hbb
  have hrd : RdS _ (.agg #[.bool x.1, .slice A x.2.length c]) x := (OwnS.mk (x := x) (ownI_of hoB)).rd
  by_cases ok : okS x = true
  · rw [if_pos ok]
    go_enter Try.func75, Try.ntmps75
    go_wp2_with fail
    refine (implIntOk_any _ x _ hl hrd).mono ?_
    rintro e w1 ⟨rfl, b1⟩
    rw [ok]
    clear ok
    have bb1 := Below.next hbb b1
    replace kb := kb.below b1
    replace kr := kr.below b1
    have hlt1 : w.heap.size + 1 < w1.heap.size := kr.lt _ (by simp)
    have ho1 := own_below hoB b1
    have cb0 := kb.here.cell 0 _ rfl
    have cb1 := kb.here.cell 1 _ rfl
    clear hoB hrd ho
    go_wp2_with fail
    refine (copyInt_any _ x _ hl (OwnS.mk (x := x) (ownI_of ho1)).rd).mono ?_
    rintro e w2 ⟨b, rfl, hx, b2⟩
    have bb2 := Below.next bb1 b2
    replace kr := kr.below b2
    have fn1 : w2.frozen? ⟨b, 1, none⟩ = false := by
      obtain ⟨_, v, hb, _⟩ := hx
      exact Lib.frozen_of_heap hb 1
    have cn1 : w2.cell? ⟨b, 1, none⟩ = some (.bool x.1) := by
      obtain ⟨_, v, hb, _⟩ := hx
      exact NatX.cell1 hb 0 rfl
    have hx2 := hx.sign n
    have hbr : w1.heap.size ≤ b := hx.1
    have hc2 : Chg [b] w2 (w2.setCell ⟨b, 1, none⟩ (.bool n)) := (Chg.refl _ _).setCell (by simp) _
    have bb3 : Below w.heap.size w (w2.setCell ⟨b, 1, none⟩ (.bool n)) := below_chg bb2 hc2 bb2.size (fun g hg => by simp at hg; have := bb1.size; omega)
    have kr3 := kr.chg hc2 (fun i hi hm => by simp at hi hm; omega)
    clear kr kb cb0 cb1 ho1 hx
    go_wp2_with fail
    refine (signed_any n _ b x.2 _ hl hx2).mono ?_
    rintro e w3 ⟨u3, rfl, o3, b3⟩
    obtain ⟨A3, c3, rfl⟩ := own_len o3
    have bb4 := Below.next bb3 b3
    have kr4 := kr3.below b3
    have cz0 := kr4.here.cell 0 _ rfl
    have cz1 := kr4.here.cell 1 _ rfl
    have fz0 := Lib.frozen_of_heap kr4.here 0
    have fz1 := Lib.frozen_of_heap kr4.here 1
    have HO := Lib.hid o3
    have HK := Lib.hid kr4
    clear o3 kr3 kr4 hc2 hx2
    go_wp2
    refine bodyPost_ret (v := .agg #[.bool _, .slice A3 _ c3]) (by simp [results, Try.results75, go_sem, cz0, cz1]; exact ⟨rfl, rfl⟩) rfl ?_
    exact newS_ret HK.out.here HO.out bb1.size (by omega) bb4
  · have ok' : okS x = false := by simpa using ok
    rw [if_neg ok]
    clear ok
    go_enter Try.func75, Try.ntmps75
    go_wp2_with fail
    refine (implIntOk_any _ x _ hl hrd).mono ?_
    rintro e w1 ⟨rfl, b1⟩
    rw [ok']
    have bb1 := Below.next hbb b1
    replace kr := kr.below b1
    have cz0 := kr.here.cell 0 _ rfl
    have cz1 := kr.here.cell 1 _ rfl
    have fz0 := Lib.frozen_of_heap kr.here 0
    have fz1 := Lib.frozen_of_heap kr.here 1
    clear kb hoB hrd ho
    go_wp2
    refine bodyPost_ret (v := .agg #[.bool false, .slice none 0 0]) (by simp [results, Try.results75, go_sem, cz0, cz1]) rfl ?_
    exact newS_zero (below_set2 bb1 (by omega))
theorem natOk_trim {xs : List Int} (h : natOkB xs = true) : trimL xs = xs := by
  rw [ok_trimL h, ← natOk_limbs h]
set_option maxHeartbeats 1000000 in
set_option maxRecDepth 100000 in
theorem implIntNeg_any (v : Value) (x : SI) (w : World) (hl : x.2.length ≤ 1048576) (h : OwnS v x w) :
    Calls Try.prog 59 #[v] w (NewS (negS x) w) := by
  have HV := Lib.hid (show (if okS x = true then mkS (!x.1) x.2 else zeroS) = negS x by
    by_cases ok : okS x = true
    · rw [if_pos ok, ← negS_mk ok, natOk_trim (okS_parts ok).1]
    · unfold negS; rw [if_neg ok, if_neg ok])
  obtain ⟨u, rfl, ho⟩ := h
  obtain ⟨A, c, rfl⟩ := own_len ho
  have hbb : Below w.heap.size w ((w.alloc (.cells #[.bool x.1, .slice A x.2.length c] 29)).alloc (.cells #[.bool false, .slice none 0 0] 29)) := below_al (below_al (Below.refl _ _) _) _
  have kr := box_new (w.alloc (.cells #[.bool x.1, .slice A x.2.length c] 29)) #[.bool false, .slice none 0 0] 29
  rw [show (w.alloc (.cells #[.bool x.1, .slice A x.2.length c] 29)).heap.size = w.heap.size + 1 by simp] at kr
  have hoB := OwnS.mk (x := x) (ownI_of (own_below ho hbb))
  clear ho
  go_enter Try.func59, Try.ntmps59
  go_wp2_with fail
  refine (withSign_any _ x (!x.1) _ hl hoB).mono ?_
  rw [HV.out]
  rintro e w1 ⟨u1, rfl, o1, b1⟩
  generalize negS x = z at *
  obtain ⟨A1, c1, rfl⟩ := own_len o1
  have bb1 := Below.next hbb b1
  replace kr := kr.below b1
  have cz0 := kr.here.cell 0 _ rfl
  have cz1 := kr.here.cell 1 _ rfl
  have fz0 := Lib.frozen_of_heap kr.here 0
  have fz1 := Lib.frozen_of_heap kr.here 1
  have HO := Lib.hid o1
  have HK := Lib.hid kr
  clear o1 kr hoB HV
  go_wp2
  refine bodyPost_ret (v := .agg #[.bool _, .slice A1 _ c1]) (by simp [results, Try.results59, go_sem, cz0, cz1]; exact ⟨rfl, rfl⟩) rfl ?_
  exact newS_ret HK.out.here HO.out hbb.size (by omega) bb1

end Go.Proofs.Ythfkdofnoomhaaa
