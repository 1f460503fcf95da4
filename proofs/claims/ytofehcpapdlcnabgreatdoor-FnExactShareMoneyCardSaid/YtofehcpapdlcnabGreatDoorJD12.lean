/-
  ShareLowI, RankI, ShareImpl, ShareTie, ShareSame, ListMarkS, ShareLawW, MarkText, JA10, MoneyS, MoneySum
-/
import Derived.Laws.OwnMore
import Derived.Deep.RegionHeld3
import Derived.Deep.DeepCutAuto
import Derived.Lib.SmallJoins
import Derived.ChangeArms
import Derived.Deep.MidRow
import Derived.Test.YtofehcpapdlcnabGreatDoorCards
import Derived.Test.YtofehcpapdlcnabGreatDoorTie
import Derived.Deep.DeepHandedRow
import Derived.OpenVars
import Derived.Lib.LaidU8
import Derived.Stop.LaidErr
import Derived.Test.YtofehcpapdlcnabGreatDoorJD11
namespace Go.Proofs.YtofehcpapdlcnabGreatDoor
open Go.RowKit

/-- what stands beside the two slices while both are appended to -/
structure LowN (B N b : Nat) (P : SI) (Ap : Option Addr) (cp : Nat) (Q : QI) (A2 : Option Addr) (c2 : Nat) (B2 : Option Addr) (d2 : Nat) (w1 W : World) : Prop where
  k12 : At [b] (BoxAt b #[.bool P.1, .slice Ap P.2.length cp] 29) W
  k13 : At [b + 1] (BoxAt (b + 1) #[.bool Q.1.1, .slice A2 Q.1.2.length c2, .slice B2 Q.2.length d2] 63) W
  pl : W.ownsRow N 3 1 (.slice Ap P.2.length cp) P.2.length (intsV P.2)
  ql : OwnQ (.agg #[.bool Q.1.1, .slice A2 Q.1.2.length c2, .slice B2 Q.2.length d2]) Q W
  lo : Below B w1 W
  ba : B ≤ W.heap.size
section
variable {B N b : Nat} {P : SI} {Ap : Option Addr} {cp : Nat} {Q : QI} {A2 : Option Addr} {c2 : Nat} {B2 : Option Addr} {d2 : Nat} {w1 W W' : World}
theorem LowN.be (h : LowN B N b P Ap cp Q A2 c2 B2 d2 w1 W) (hb : Below W.heap.size W W') : LowN B N b P Ap cp Q A2 c2 B2 d2 w1 W' :=
  ⟨h.k12.below hb, h.k13.below hb, own_below h.pl hb, h.ql.below hb, h.lo.trans (hb.mono h.ba), Nat.le_trans h.ba hb.size⟩
theorem LowN.al (h : LowN B N b P Ap cp Q A2 c2 B2 d2 w1 W) (o : Obj) : LowN B N b P Ap cp Q A2 c2 B2 d2 w1 (W.alloc o) := h.be (below_al (Below.refl _ _) o)
theorem LowN.dr (h : LowN B N b P Ap cp Q A2 c2 B2 d2 w1 W) : LowN B N b P Ap cp Q A2 c2 B2 d2 w1 W.drew := h.be (Below.refl _ _).drew
theorem LowN.gr {n sz : Nat} {T : TypeId} {v : Value} {xs : List Value} (h : LowN B N b P Ap cp Q A2 c2 B2 d2 w1 W) (h1 : W.ownsRow B T sz v n xs) (hT : ¬ T = 3) (hg : W.grownBy W' v.ownBlock) (hb : ∀ g, v.ownBlock = some g → g < b) : LowN B N b P Ap cp Q A2 c2 B2 d2 w1 W' :=
  ⟨at_grownS h.k12 hg fun i hi hv => by have := hb i hv; simp at hi; omega, at_grownS h.k13 hg fun i hi hv => by have := hb i hv; simp at hi; omega,
   own_stays h.pl fun g hv => hg.block g (own_lt h.pl hv).2 fun e => own_typesS h1 h.pl hT e.symm hv, ownQ_grown h1 hT hg h.ql,
   h.lo.grown hg h.ba fun k hk => (own_lt h1 hk).1, Nat.le_trans h.ba hg.size⟩
end
/-- the numbers so far, with their cells in view -/
structure LowU (B k : Nat) (l : List SI) (es : List (Bool × Value)) (u : Value) (W : World) : Prop where
  own : W.ownsRow B 29 2 u k (flatC es)
  el : ∀ (j : Nat) y p, l[j]? = some y → es[j]? = some p → p.1 = y.1 ∧ W.ownsRow B 3 1 p.2 y.2.length (intsV y.2)
structure LowQ (B k : Nat) (l : List QI) (es : List (Bool × Value × Value)) (u : Value) (W : World) : Prop where
  own : W.ownsRow B 63 3 u k (flatQ es)
  el : ∀ (j : Nat) y p, l[j]? = some y → es[j]? = some p → p.1 = y.1.1 ∧ OwnQ (.agg #[.bool y.1.1, p.2.1, p.2.2]) y W
section
variable {B k : Nat} {l : List SI} {lq : List QI} {es : List (Bool × Value)} {eq : List (Bool × Value × Value)} {u v : Value} {W W' : World}
theorem LowU.be (h : LowU B k l es u W) (hb : Below W.heap.size W W') : LowU B k l es u W' := ⟨own_below h.own hb, fun j y p hy hp => ⟨(h.el j y p hy hp).1, own_below (h.el j y p hy hp).2 hb⟩⟩
theorem LowU.al (h : LowU B k l es u W) (o : Obj) : LowU B k l es u (W.alloc o) := h.be (below_al (Below.refl _ _) o)
theorem LowU.dr (h : LowU B k l es u W) : LowU B k l es u W.drew := h.be (Below.refl _ _).drew
theorem LowU.gr (h : LowU B k l es u W) (h1 : LowQ B k lq eq v W) (hg : W.grownBy W' v.ownBlock) : LowU B k l es u W' :=
  ⟨own_stays h.own fun g hv => hg.block g (own_lt h.own hv).2 fun e => own_typesS h1.own h.own (by decide) e.symm hv, fun j y p hy hp => ⟨(h.el j y p hy hp).1, own_stays (h.el j y p hy hp).2 fun g hv => hg.block g (own_lt (h.el j y p hy hp).2 hv).2 fun e => own_typesS h1.own (h.el j y p hy hp).2 (by decide) e.symm hv⟩⟩
theorem LowQ.be (h : LowQ B k lq eq v W) (hb : Below W.heap.size W W') : LowQ B k lq eq v W' := ⟨own_below h.own hb, fun j y p hy hp => ⟨(h.el j y p hy hp).1, (h.el j y p hy hp).2.below hb⟩⟩
theorem LowQ.al (h : LowQ B k lq eq v W) (o : Obj) : LowQ B k lq eq v (W.alloc o) := h.be (below_al (Below.refl _ _) o)
theorem LowQ.dr (h : LowQ B k lq eq v W) : LowQ B k lq eq v W.drew := h.be (Below.refl _ _).drew
theorem LowQ.gr (h : LowQ B k lq eq v W) (h1 : LowU B k l es u W) (hg : W.grownBy W' u.ownBlock) : LowQ B k lq eq v W' :=
  ⟨own_stays h.own fun g hv => hg.block g (own_lt h.own hv).2 fun e => own_typesS h1.own h.own (by decide) e.symm hv, fun j y p hy hp => ⟨(h.el j y p hy hp).1, ownQ_grown h1.own (by decide) hg (h.el j y p hy hp).2⟩⟩
end
/-- a literal, not yet appended -/
def LitAt (b : Nat) (cs : Array Value) (T : TypeId) (W : World) : Prop := At [b] (BoxAt b cs T) W
theorem LitAt.new (W : World) (cs : Array Value) (T : TypeId) {b : Nat} (h : b = W.heap.size) : LitAt b cs T (W.alloc (.cells cs T)) := by subst h; exact box_new W cs T
theorem LitAt.al {b : Nat} {cs : Array Value} {T : TypeId} {W : World} (h : LitAt b cs T W) (o : Obj) : LitAt b cs T (W.alloc o) := At.below h (below_al (Below.refl _ _) o)
theorem LitAt.dr {b : Nat} {cs : Array Value} {T : TypeId} {W : World} (h : LitAt b cs T W) : LitAt b cs T W.drew := At.move h (fun _ _ => rfl) (Nat.le_refl _)
theorem LitAt.gr {b : Nat} {cs : Array Value} {T : TypeId} {W W' : World} {v : Value} (h : LitAt b cs T W) (hg : W.grownBy W' v.ownBlock) (hb : ¬ v.ownBlock = some b) : LitAt b cs T W' := at_grownS h hg fun i hi hv => hb (by simp at hi; rw [← hi]; exact hv)
theorem LitAt.news {b : Nat} {cs : Array Value} {T : TypeId} {W : World} (h : LitAt b cs T W) : ∀ j u, cs.toList[j]? = some u → W.cell? ((⟨b, 0, none⟩ : Addr).add j) = some u := World.news_of_block (At.here h)
theorem rowQ_snocL {B : Nat} {l : List QI} {e : List (Bool × Value × Value)} {x : QI} {u un dn v2 : Value} {W1 W2 : World} (h2 : e.length = l.length) (h1' : W1.ownsRow B 63 3 u l.length (flatQ e)) (h3 : ∀ (j : Nat) y p, l[j]? = some y → e[j]? = some p → p.1 = y.1.1 ∧ OwnQ (.agg #[.bool y.1.1, p.2.1, p.2.2]) y W1)
    (on : OwnQ (.agg #[.bool x.1.1, un, dn]) x W1) (ho2 : W2.ownsRow B 63 3 v2 (l.length + 1) (flatQ e ++ [.bool x.1.1, un, dn])) (hg : W1.grownBy W2 u.ownBlock) : RowQ B v2 (l ++ [x]) W2 := by
  refine ⟨e ++ [(x.1.1, un, dn)], by rw [List.length_append, flatQ_append]; exact ho2, by rw [List.length_append, List.length_append, h2]; rfl, fun j y p hy hp => ?_⟩
  by_cases hj : j < l.length
  · rw [List.getElem?_append_left hj] at hy
    rw [List.getElem?_append_left (by omega)] at hp
    obtain ⟨a1, a2⟩ := h3 j y p hy hp
    exact ⟨a1, ownQ_grown h1' (by decide) hg a2⟩
  · rw [List.getElem?_append_right (by omega)] at hy hp
    have hj0 : j - l.length = 0 := by have := (List.getElem?_eq_some_iff.1 hy).1; simp at this; omega
    rw [hj0] at hy
    rw [h2, hj0] at hp
    cases hy
    cases hp
    exact ⟨rfl, ownQ_grown h1' (by decide) hg on⟩
set_option maxHeartbeats 8000000 in
set_option maxRecDepth 100000 in
theorem lowShares_any (v vw : Value) (x : SI) (ws : List Int) (lo hi : Nat) (w : World) (hlx : x.2.length ≤ 1048576) (hlw : ws.length ≤ 1048576) (hhi : hi ≤ w.heap.size) (h : OwnS v x w) (hr : Row w lo hi vw (intsV ws)) (hsen : Sen w) :
    Calls Tryz.prog 53 #[v, vw] w (LowPost x ws w) := by
  have HSEN := Lib.hid hsen
  clear hsen
  obtain ⟨iS, hiS, hS0, hS1, hS2⟩ := info_parts signedInfoS
  obtain ⟨iQ, hiQ, hQ0, hQ1, hQ2⟩ := info_parts ratInfoS
  have Hx := Lib.hid h
  obtain ⟨Ax, cx, rfl⟩ := ownS_form h
  have OSx := Lib.hid (show ∀ W, Below w.heap.size w W → OwnS (.agg #[.bool x.1, .slice Ax x.2.length cx]) x W from fun W hb => OwnS.below Hx.out hb)
  clear h Hx
  have HR0 := Lib.hid hr
  obtain ⟨Aw, cw, rfl, _⟩ := hr
  rw [intsV_length] at HR0 ⊢
  have HRW := Lib.hid (show ∀ W, Below w.heap.size w W → Row W lo hi (.slice Aw ws.length cw) (intsV ws) from fun W hb => Row.below HR0.out hb hhi)
  clear HR0
  have kx := box_new w #[.bool x.1, .slice Ax x.2.length cx] 29
  obtain ⟨w1, hw1⟩ : ∃ W, W = w.alloc (.cells #[.bool x.1, .slice Ax x.2.length cx] 29) := ⟨_, rfl⟩
  have hs1 : w1.heap.size = w.heap.size + 1 := by rw [hw1]; simp
  have BB1 := Lib.hid (show Below w.heap.size w w1 by rw [hw1]; exact below_al (Below.refl _ _) _)
  go_enter Tryz.func53, Tryz.ntmps53
  go_wp2_with fail
  rw [← hw1] at kx ⊢
  have KX := Lib.hid kx
  have hq1 : w.heap.size + 1 ≤ w1.heap.size := by omega
  clear kx hw1 hs1
  refine (implWeightsOk_any _ ws lo hi _ (by omega) (HRW.out _ BB1.out)).mono ?_
  rintro e w2 ⟨rfl, rfl⟩
  obtain ⟨ow, how⟩ : ∃ b, okW ws = b := ⟨_, rfl⟩
  rw [how]
  have HOW := Lib.hid how
  clear how
  cases ow with
  | false =>
    have HE := Lib.hid (lowPost_no (x := x) (ws := ws) (by unfold okSh; rw [HOW.out]; rfl) BB1.out)
    go_wp2
    refine bodyPost_ret (v := .tuple #[.slice none 0 0, .slice none 0 0, .bool false]) (by simp [results, Tryz.results53, go_sem]) rfl ?_
    exact HE.out
  | true =>
    have HSTART := Lib.hid (show LowRel x ws w1 (.slice none 0 0) (.slice none 0 0) (.int .i64 0) w1 from ⟨0, Nat.zero_le _, rfl, rowS_nil _ _, rowQ_nil _ _, fun j hj => absurd hj (Nat.not_lt_zero _), Below.refl _ _⟩)
    go_wp2
    go_loopw [7, 8, 20] (fun u q i wr => LowRel x ws w1 u q i wr) (fun _ _ i _ => ws.length - (intOf i).toNat)
    case atStart => exact HSTART.out
    case round =>
      clear HSTART
      obtain ⟨k, hk, rfl, hS, hQ, hall, hb⟩ := hrel
      have hbs := hb.size
      by_cases hlt : k < ws.length
      · have BBW := Lib.hid (Below.next BB1.out hb)
        have HALL := Lib.hid hall
        have HBW := Lib.hid hb
        have HSW := Lib.hid hS
        have HQW := Lib.hid hQ
        have hll := lowI_len x ws k
        have hlq := restK_len x ws k
        obtain ⟨Au, cu, rfl⟩ := rowS_len hS
        obtain ⟨Aq, cq, rfl⟩ := rowQ_len hQ
        rw [hll] at HSW ⊢
        rw [hlq] at HQW ⊢
        have kxw := KX.out.below hb
        clear hall hb hS hQ hll hlq
        have kx_c0 := kxw.here.cell 0 _ rfl
        have kx_c1 := kxw.here.cell 1 _ rfl
        go_wp2_with fail
        clear kx_c0 kx_c1
        refine (implFairShare_any _ _ x ws k lo hi _ hlx hlw (by omega) (OSx.out _ BBW.out) (HRW.out _ BBW.out) (HSEN.out.below BBW.out)).mono ?_
        rintro e w2 ⟨vf, Sf, rfl, of, lf, b2⟩
        obtain ⟨R, hHR⟩ : ∃ q, fairF x ws k = q := ⟨_, rfl⟩
        rw [show (fairR x ws (k : Int)).1 = R from hHR] at of
        obtain ⟨fb, hfb⟩ : ∃ b, (fairR x ws (k : Int)).2 = b := ⟨_, rfl⟩
        rw [hfb]
        have hzR : szQ R ≤ 1048576 := by have := fair_sz x ws k; rw [show (fairR x ws (k : Int)).1 = R from hHR] at this; exact this
        have HHR := Lib.hid hHR
        clear hHR hfb
        have bb2 := Below.next BBW.out b2
        obtain ⟨A1, c1, B1, d1, rfl⟩ := ownQ_form of.here
        go_upto_region 9 with fail
        have kr := box_new w2 #[.bool R.1.1, .slice A1 R.1.2.length c1, .slice B1 R.2.length d1] 63
        have al3 : Below w2.heap.size w2 (w2.alloc (.cells #[.bool R.1.1, .slice A1 R.1.2.length c1, .slice B1 R.2.length d1] 63)) := below_al (Below.refl _ _) _
        have hs3 : w2.heap.size + 1 ≤ (w2.alloc (.cells #[.bool R.1.1, .slice A1 R.1.2.length c1, .slice B1 R.2.length d1] 63)).heap.size := by simp
        obtain ⟨w3, hw3⟩ : ∃ W, W = (w2.alloc (.cells #[.bool R.1.1, .slice A1 R.1.2.length c1, .slice B1 R.2.length d1] 63)) := ⟨_, rfl⟩
        rw [← hw3] at kr al3 hs3 ⊢
        clear hw3
        have of3 := of.below al3
        have bb3 := Below.next bb2 al3
        have BW3 := b2.trans (al3.mono b2.size)
        clear of al3
        have kr_c0 := kr.here.cell 0 _ rfl
        have kr_c1 := kr.here.cell 1 _ rfl
        have kr_c2 := kr.here.cell 2 _ rfl
        go_wp2_with fail
        clear kr_c0 kr_c1 kr_c2
        refine (implRatRest_any _ R 0 _ hzR of3.here (HSEN.out.below bb3)).mono ?_
        rintro e w4 ⟨vp, vq, Sp, Sq, rfl, op, oq, hSq, lp, lq, b4⟩
        obtain ⟨Ap, cp, rfl⟩ := ownS_form op.here
        obtain ⟨A2, c2, B2, d2, rfl⟩ := ownQ_form oq.here
        have bb4 := Below.next bb3 b4
        have BW4 := BW3.trans (b4.mono (Nat.le_trans b2.size (by omega)))
        have hz4 := b4.size
        have hz2 := b2.size
        obtain ⟨P, hP⟩ : ∃ s, restS R 0 = s := ⟨_, rfl⟩
        obtain ⟨Q, hQ⟩ : ∃ s, restQ R 0 = s := ⟨_, rfl⟩
        obtain ⟨rb, hrb⟩ : ∃ s, restB R 0 = s := ⟨_, rfl⟩
        have hPl : P.2.length ≤ 1048576 := by rw [← hP, ← HHR.out]; exact rests_szS k
        rw [hP] at op ⊢
        rw [hQ] at oq ⊢
        rw [hrb]
        have HP := Lib.hid hP
        have HQ := Lib.hid hQ
        clear hP hQ of3 kr
        cases rb with
        | false =>
          have HE := Lib.hid (lowPost_no (okSh_rest_no (x := x) hlt (by rw [HHR.out]; exact hrb)) (below_al (below_al bb4 (.cells #[.bool P.1, .slice Ap P.2.length cp] 29)) (.cells #[.bool Q.1.1, .slice A2 Q.1.2.length c2, .slice B2 Q.2.length d2] 63)))
          clear hrb
          go_wp2
          refine bodyPost_ret (v := .tuple #[.slice none 0 0, .slice none 0 0, .bool false]) (by simp [results, Tryz.results53, go_sem]) rfl ?_
          exact HE.out
        | true =>
          have HRB := Lib.hid hrb
          clear hrb
          go_upto_region 12 with fail
          obtain ⟨w7, hw7⟩ : ∃ W, W = ((w4.alloc (.cells #[.bool P.1, .slice Ap P.2.length cp] 29)).alloc (.cells #[.bool Q.1.1, .slice A2 Q.1.2.length c2, .slice B2 Q.2.length d2] 63)) := ⟨_, rfl⟩
          have b47 : Below w4.heap.size w4 w7 := by rw [hw7]; exact below_al (below_al (Below.refl _ _) _) _
          have k12 : At [w4.heap.size] (BoxAt w4.heap.size #[.bool P.1, .slice Ap P.2.length cp] 29) w7 := by rw [hw7]; exact (box_new _ _ _).below (below_al (Below.refl _ _) _)
          have k13 : At [w4.heap.size + 1] (BoxAt (w4.heap.size + 1) #[.bool Q.1.1, .slice A2 Q.1.2.length c2, .slice B2 Q.2.length d2] 63) w7 := by
            rw [hw7]
            have h := box_new (w4.alloc (.cells #[.bool P.1, .slice Ap P.2.length cp] 29)) #[.bool Q.1.1, .slice A2 Q.1.2.length c2, .slice B2 Q.2.length d2] 63
            rw [show (w4.alloc (.cells #[.bool P.1, .slice Ap P.2.length cp] 29)).heap.size = w4.heap.size + 1 by simp] at h
            exact h
          rw [← hw7]
          clear hw7
          have hz47 := b47.size
          have hzB := BW4.size
          obtain ⟨es, hse, hsl, hel, h4⟩ := HSW.out
          obtain ⟨eq, hqe, hql, heq⟩ := HQW.out
          rw [lowI_len] at hse hsl
          rw [restK_len] at hqe hql
          have BW7 := BW4.trans (b47.mono hzB)
          have hnx : ∀ p ∈ es, ∀ b, p.2.ownBlock = some b → b < w3.heap.size := fun p hp b hb => by
            obtain ⟨j, hj⟩ := List.mem_iff_getElem?.1 hp
            obtain ⟨y, hy⟩ : ∃ y, (lowI x ws k)[j]? = some y := ⟨_, List.getElem?_eq_getElem (by have := (List.getElem?_eq_some_iff.1 hj).1; rw [lowI_len]; omega)⟩
            have := (own_lt (hel j y p hy hj).2 hb).2
            omega
          have hub : ∀ g, (Value.slice Au k cu).ownBlock = some g → g < w4.heap.size := fun g hg => Nat.lt_of_lt_of_le (own_lt hse hg).2 hzB
          have hqb : ∀ g, (Value.slice Aq k cq).ownBlock = some g → g < w4.heap.size := fun g hg => Nat.lt_of_lt_of_le (own_lt hqe hg).2 hzB
          have U7 : LowU w1.heap.size k (lowI x ws k) es (.slice Au k cu) w7 := (LowU.mk hse hel).be BW7
          have Q7 : LowQ w1.heap.size k (restK x ws k) eq (.slice Aq k cq) w7 := (LowQ.mk hqe heq).be BW7
          have N7 : LowN w1.heap.size w3.heap.size w4.heap.size P Ap cp Q A2 c2 B2 d2 w1 w7 := ⟨k12, k13, own_below (ownS_row op (fun i hi => (lp i hi).1)) b47, (oq.below b47).here, HBW.out.trans (BW7.mono hbs), by omega⟩
          have HSN := Lib.hid (show ∀ (W W9 : World) (v2 : Value), LowU w1.heap.size k (lowI x ws k) es (.slice Au k cu) W → LowN w1.heap.size w3.heap.size w4.heap.size P Ap cp Q A2 c2 B2 d2 w1 W → W9.ownsRow w1.heap.size 29 2 v2 (k + 1) (flatC es ++ [.bool P.1, .slice Ap P.2.length cp]) → W.grownBy W9 (Value.slice Au k cu).ownBlock → RowS w1.heap.size v2 (lowI x ws (k + 1)) W9 from
            fun W W9 v2 hu hn ho hg => by
              rw [lowI_succ, show restS (fairF x ws k) 0 = P by rw [HHR.out, HP.out]]
              exact rowS_snoc (N := w3.heap.size) (by rw [lowI_len]; exact hsl) (by rw [lowI_len]; exact hu.own) hu.el h4 hnx hn.pl (by omega) (by rw [lowI_len]; exact ho) hg)
          have HQN := Lib.hid (show ∀ (W W9 : World) (v2 : Value), LowQ w1.heap.size k (restK x ws k) eq (.slice Aq k cq) W → LowN w1.heap.size w3.heap.size w4.heap.size P Ap cp Q A2 c2 B2 d2 w1 W → W9.ownsRow w1.heap.size 63 3 v2 (k + 1) (flatQ eq ++ [.bool Q.1.1, .slice A2 Q.1.2.length c2, .slice B2 Q.2.length d2]) → W.grownBy W9 (Value.slice Aq k cq).ownBlock → RowQ w1.heap.size v2 (restK x ws (k + 1)) W9 from
            fun W W9 v2 hu hn ho hg => by
              rw [restK_succ, show restQ (fairF x ws k) 0 = Q by rw [HHR.out, HQ.out]]
              exact rowQ_snocL (by rw [restK_len]; exact hql) (by rw [restK_len]; exact hu.own) hu.el hn.ql (by rw [restK_len]; exact ho) hg)
          have KL := Lib.hid (show ∀ W, LowN w1.heap.size w3.heap.size w4.heap.size P Ap cp Q A2 c2 B2 d2 w1 W → W.cell? ⟨w4.heap.size, 0, none⟩ = some (.bool P.1) ∧ W.cell? ⟨w4.heap.size, 1, none⟩ = some (.slice Ap P.2.length cp) ∧ W.cell? ⟨w4.heap.size + 1, 0, none⟩ = some (.bool Q.1.1) ∧ W.cell? ⟨w4.heap.size + 1, 1, none⟩ = some (.slice A2 Q.1.2.length c2) ∧ W.cell? ⟨w4.heap.size + 1, 2, none⟩ = some (.slice B2 Q.2.length d2) from fun W h => ⟨h.k12.here.cell 0 _ rfl, h.k12.here.cell 1 _ rfl, h.k13.here.cell 0 _ rfl, h.k13.here.cell 1 _ rfl, h.k13.here.cell 2 _ rfl⟩)
          have hallN : ∀ j : Nat, j < k + 1 → restB (fairF x ws j) 0 = true := fun j hj => by
            rcases Nat.lt_or_ge j k with h | h
            · exact HALL.out j h
            · obtain rfl : j = k := by omega
              rw [HHR.out]
              exact HRB.out
          have HAN := Lib.hid hallN
          clear hallN k12 k13 b47 BW7 BW4 hse hel hqe heq h4 hnx op oq lp lq b4 b2 lf bb2 bb3 bb4 BW3 kxw
          have lc := KL.out _ N7
          have l_c0 := lc.1
          have l_c1 := lc.2.1
          have l_c2 := lc.2.2.1
          have l_c3 := lc.2.2.2.1
          have l_c4 := lc.2.2.2.2
          clear lc
          go_region_held3 (fun W => W.cell? ⟨w4.heap.size, 0, none⟩ = some (.bool P.1) ∧ W.cell? ⟨w4.heap.size, 1, none⟩ = some (.slice Ap P.2.length cp) ∧ W.cell? ⟨w4.heap.size + 1, 0, none⟩ = some (.bool Q.1.1) ∧ W.cell? ⟨w4.heap.size + 1, 1, none⟩ = some (.slice A2 Q.1.2.length c2) ∧ W.cell? ⟨w4.heap.size + 1, 2, none⟩ = some (.slice B2 Q.2.length d2))
            ((exact KL.out _ (by first | exact NU | exact NU.al _ | exact (NU.al _).al _ | exact NQ | exact NQ.al _ | exact (NQ.al _).al _ | exact N7 | exact N7.al _ | exact (N7.al _).al _ | exact N7.dr | exact N7.dr.al _ | exact (N7.dr.al _).al _ | exact (N7.al _).dr | exact (N7.al _).dr.al _ | exact ((N7.al _).al _).dr)))
            (first
              | (refine step_append_lies _ (by rfl) _ _ _ (by rfl) w1.heap.size 29 iS _ 2 32 Tryz.underlying32 hiS hS0 hS1 hS2 rfl (by omega) (.slice Au k cu) k (flatC es) (by rfl) (LowU.own (by first | exact UQ | exact UQ.al _ | exact (UQ.al _).al _ | exact U7 | exact U7.al _ | exact (U7.al _).al _ | exact U7.dr | exact U7.dr.al _ | exact (U7.dr.al _).al _ | exact (U7.al _).dr | exact (U7.al _).dr.al _ | exact ((U7.al _).al _).dr)) _ 1 1 [.bool P.1, .slice Ap P.2.length cp] (by rfl) (by rfl) (LitAt.news (cs := #[.bool P.1, .slice Ap P.2.length cp]) (T := 29) (by first | exact LitAt.new _ _ _ rfl | exact (LitAt.new _ _ _ rfl).dr | exact (LitAt.new _ _ _ rfl).al _ | exact ((LitAt.new _ _ _ rfl).al _).dr | exact (LitAt.new _ _ _ rfl).dr.al _ | exact LitAt.new _ _ _ (by simp) | exact (LitAt.new _ _ _ (by simp)).dr | exact (LitAt.new _ _ _ (by simp)).al _ | exact ((LitAt.new _ _ _ (by simp)).al _).dr | exact (LitAt.new _ _ _ (by simp)).dr.al _ | exact LSQ | exact LSQ.al _)) (by simp [Value.oneCell']) (by omega) (by unfold maxLen; omega) (by omega) (LowN.ba (by first | exact NU | exact NU.al _ | exact (NU.al _).al _ | exact NQ | exact NQ.al _ | exact (NQ.al _).al _ | exact N7 | exact N7.al _ | exact (N7.al _).al _ | exact N7.dr | exact N7.dr.al _ | exact (N7.dr.al _).al _ | exact (N7.al _).dr | exact (N7.al _).dr.al _ | exact ((N7.al _).al _).dr)) _ (by rfl) ?_; intro gg cap w9 hown9 hg9 hat9 hlt9; have US := HSN.out _ w9 _ (by first | exact UQ | exact UQ.al _ | exact (UQ.al _).al _ | exact U7 | exact U7.al _ | exact (U7.al _).al _ | exact U7.dr | exact U7.dr.al _ | exact (U7.dr.al _).al _ | exact (U7.al _).dr | exact (U7.al _).dr.al _ | exact ((U7.al _).al _).dr) (by first | exact NU | exact NU.al _ | exact (NU.al _).al _ | exact NQ | exact NQ.al _ | exact (NQ.al _).al _ | exact N7 | exact N7.al _ | exact (N7.al _).al _ | exact N7.dr | exact N7.dr.al _ | exact (N7.dr.al _).al _ | exact (N7.al _).dr | exact (N7.al _).dr.al _ | exact ((N7.al _).al _).dr) hown9 hg9; have NU := LowN.gr (by first | exact NU | exact NU.al _ | exact (NU.al _).al _ | exact NQ | exact NQ.al _ | exact (NQ.al _).al _ | exact N7 | exact N7.al _ | exact (N7.al _).al _ | exact N7.dr | exact N7.dr.al _ | exact (N7.dr.al _).al _ | exact (N7.al _).dr | exact (N7.al _).dr.al _ | exact ((N7.al _).al _).dr) (LowU.own (by first | exact UQ | exact UQ.al _ | exact (UQ.al _).al _ | exact U7 | exact U7.al _ | exact (U7.al _).al _ | exact U7.dr | exact U7.dr.al _ | exact (U7.dr.al _).al _ | exact (U7.al _).dr | exact (U7.al _).dr.al _ | exact ((U7.al _).al _).dr)) (by decide) hg9 hub; (first | have QU := LowQ.gr (by first | exact QU | exact QU.al _ | exact (QU.al _).al _ | exact Q7 | exact Q7.al _ | exact (Q7.al _).al _ | exact Q7.dr | exact Q7.dr.al _ | exact (Q7.dr.al _).al _ | exact (Q7.al _).dr | exact (Q7.al _).dr.al _ | exact ((Q7.al _).al _).dr) (by first | exact UQ | exact UQ.al _ | exact (UQ.al _).al _ | exact U7 | exact U7.al _ | exact (U7.al _).al _ | exact U7.dr | exact U7.dr.al _ | exact (U7.dr.al _).al _ | exact (U7.al _).dr | exact (U7.al _).dr.al _ | exact ((U7.al _).al _).dr) hg9 | skip); (first | have RQU := RowQ.grown (by first | exact QS | exact QS.below (below_al (Below.refl _ _) _)) (LowU.own (by first | exact UQ | exact UQ.al _ | exact (UQ.al _).al _ | exact U7 | exact U7.al _ | exact (U7.al _).al _ | exact U7.dr | exact U7.dr.al _ | exact (U7.dr.al _).al _ | exact (U7.al _).dr | exact (U7.al _).dr.al _ | exact ((U7.al _).al _).dr)) (by decide) (by decide) hg9 | skip); (first | have LQU : LitAt w7.heap.size #[.bool Q.1.1, .slice A2 Q.1.2.length c2, .slice B2 Q.2.length d2] 63 w9 := LitAt.gr (by first | exact (LitAt.new _ _ _ rfl).al _ | exact ((LitAt.new _ _ _ rfl).al _).dr | exact (LitAt.new _ _ _ rfl).dr.al _) hg9 (fun e => by have := hub _ e; omega) | have LQU : LitAt (w7.heap.size + 1) #[.bool Q.1.1, .slice A2 Q.1.2.length c2, .slice B2 Q.2.length d2] 63 w9 := LitAt.gr (by first | exact LitAt.new _ _ _ (by simp) | exact (LitAt.new _ _ _ (by simp)).dr) hg9 (fun e => by have := hub _ e; omega) | skip); clear hown9 hat9)
              | (refine step_append_lies _ (by rfl) _ _ _ (by rfl) w1.heap.size 63 iQ _ 3 56 Tryz.underlying61 hiQ hQ0 hQ1 hQ2 rfl (by omega) (.slice Aq k cq) k (flatQ eq) (by rfl) (LowQ.own (by first | exact QU | exact QU.al _ | exact (QU.al _).al _ | exact Q7 | exact Q7.al _ | exact (Q7.al _).al _ | exact Q7.dr | exact Q7.dr.al _ | exact (Q7.dr.al _).al _ | exact (Q7.al _).dr | exact (Q7.al _).dr.al _ | exact ((Q7.al _).al _).dr)) _ 1 1 [.bool Q.1.1, .slice A2 Q.1.2.length c2, .slice B2 Q.2.length d2] (by rfl) (by rfl) (LitAt.news (cs := #[.bool Q.1.1, .slice A2 Q.1.2.length c2, .slice B2 Q.2.length d2]) (T := 63) (by first | exact LitAt.new _ _ _ rfl | exact (LitAt.new _ _ _ rfl).dr | exact (LitAt.new _ _ _ rfl).al _ | exact ((LitAt.new _ _ _ rfl).al _).dr | exact (LitAt.new _ _ _ rfl).dr.al _ | exact LitAt.new _ _ _ (by simp) | exact (LitAt.new _ _ _ (by simp)).dr | exact (LitAt.new _ _ _ (by simp)).al _ | exact ((LitAt.new _ _ _ (by simp)).al _).dr | exact (LitAt.new _ _ _ (by simp)).dr.al _ | exact LQU | exact LQU.al _)) (by simp [Value.oneCell']) (by omega) (by unfold maxLen; omega) (by omega) (LowN.ba (by first | exact NU | exact NU.al _ | exact (NU.al _).al _ | exact NQ | exact NQ.al _ | exact (NQ.al _).al _ | exact N7 | exact N7.al _ | exact (N7.al _).al _ | exact N7.dr | exact N7.dr.al _ | exact (N7.dr.al _).al _ | exact (N7.al _).dr | exact (N7.al _).dr.al _ | exact ((N7.al _).al _).dr)) _ (by rfl) ?_; intro gh caq w8 hown8 hg8 hat8 hlt8; have QS := HQN.out _ w8 _ (by first | exact QU | exact QU.al _ | exact (QU.al _).al _ | exact Q7 | exact Q7.al _ | exact (Q7.al _).al _ | exact Q7.dr | exact Q7.dr.al _ | exact (Q7.dr.al _).al _ | exact (Q7.al _).dr | exact (Q7.al _).dr.al _ | exact ((Q7.al _).al _).dr) (by first | exact NU | exact NU.al _ | exact (NU.al _).al _ | exact NQ | exact NQ.al _ | exact (NQ.al _).al _ | exact N7 | exact N7.al _ | exact (N7.al _).al _ | exact N7.dr | exact N7.dr.al _ | exact (N7.dr.al _).al _ | exact (N7.al _).dr | exact (N7.al _).dr.al _ | exact ((N7.al _).al _).dr) hown8 hg8; have NQ := LowN.gr (by first | exact NU | exact NU.al _ | exact (NU.al _).al _ | exact NQ | exact NQ.al _ | exact (NQ.al _).al _ | exact N7 | exact N7.al _ | exact (N7.al _).al _ | exact N7.dr | exact N7.dr.al _ | exact (N7.dr.al _).al _ | exact (N7.al _).dr | exact (N7.al _).dr.al _ | exact ((N7.al _).al _).dr) (LowQ.own (by first | exact QU | exact QU.al _ | exact (QU.al _).al _ | exact Q7 | exact Q7.al _ | exact (Q7.al _).al _ | exact Q7.dr | exact Q7.dr.al _ | exact (Q7.dr.al _).al _ | exact (Q7.al _).dr | exact (Q7.al _).dr.al _ | exact ((Q7.al _).al _).dr)) (by decide) hg8 hqb; (first | have UQ := LowU.gr (by first | exact UQ | exact UQ.al _ | exact (UQ.al _).al _ | exact U7 | exact U7.al _ | exact (U7.al _).al _ | exact U7.dr | exact U7.dr.al _ | exact (U7.dr.al _).al _ | exact (U7.al _).dr | exact (U7.al _).dr.al _ | exact ((U7.al _).al _).dr) (by first | exact QU | exact QU.al _ | exact (QU.al _).al _ | exact Q7 | exact Q7.al _ | exact (Q7.al _).al _ | exact Q7.dr | exact Q7.dr.al _ | exact (Q7.dr.al _).al _ | exact (Q7.al _).dr | exact (Q7.al _).dr.al _ | exact ((Q7.al _).al _).dr) hg8 | skip); (first | have RSQ := RowS.grown (by first | exact US | exact US.below (below_al (Below.refl _ _) _)) (LowQ.own (by first | exact QU | exact QU.al _ | exact (QU.al _).al _ | exact Q7 | exact Q7.al _ | exact (Q7.al _).al _ | exact Q7.dr | exact Q7.dr.al _ | exact (Q7.dr.al _).al _ | exact (Q7.al _).dr | exact (Q7.al _).dr.al _ | exact ((Q7.al _).al _).dr)) (by decide) (by decide) hg8 | skip); (first | have LSQ : LitAt w7.heap.size #[.bool P.1, .slice Ap P.2.length cp] 29 w8 := LitAt.gr (by first | exact (LitAt.new _ _ _ rfl).al _ | exact ((LitAt.new _ _ _ rfl).al _).dr | exact (LitAt.new _ _ _ rfl).dr.al _) hg8 (fun e => by have := hqb _ e; omega) | have LSQ : LitAt (w7.heap.size + 1) #[.bool P.1, .slice Ap P.2.length cp] 29 w8 := LitAt.gr (by first | exact LitAt.new _ _ _ (by simp) | exact (LitAt.new _ _ _ (by simp)).dr) hg8 (fun e => by have := hqb _ e; omega) | skip); clear hown8 hat8))
          all_goals
            clear KL HSN HQN
            go_wp2
            first
              | exact ⟨⟨k + 1, by omega, by go_num, US, RQU, HAN.out, NU.lo⟩, by simp [intOf]; omega⟩
              | exact ⟨⟨k + 1, by omega, by go_num, RSQ, QS, HAN.out, NQ.lo⟩, by simp [intOf]; omega⟩
      · obtain rfl : k = ws.length := by omega
        have HOK : Hid (okSh x ws = true) := Lib.hid (by rw [okSh_rests HOW.out, List.all_eq_true]; exact fun i hi => hall i (List.mem_range.1 hi))
        obtain ⟨Au, cu, rfl⟩ := rowS_len hS
        obtain ⟨Aq, cq, rfl⟩ := rowQ_len hQ
        rw [lowI_len] at hS ⊢
        rw [restK_len] at hQ ⊢
        have HE := Lib.hid (show LowPost x ws w (.returned (.tuple #[.slice Au ws.length cu, .slice Aq ws.length cq, .bool true])) wr from ⟨_, _, by rw [HOK.out], fun _ => ⟨rowS_low (by rw [← lowI_parts (good_of HOK.out)]; exact hS) (by omega), rowQ_low hQ (by omega)⟩, Below.next BB1.out hb⟩)
        clear hS hQ hall hb
        go_wp2
        refine bodyPost_ret (v := .tuple #[.slice Au ws.length cu, .slice Aq ws.length cq, .bool true]) (by simp [results, Tryz.results53, go_sem]) rfl ?_
        exact HE.out
end Go.Proofs.YtofehcpapdlcnabGreatDoor

namespace Go.Proofs.YtofehcpapdlcnabGreatDoor
open Go.RowKit

/-- the numbers from 0 on, as values -/
def idV (k : Nat) : List Value := (List.range k).map fun i : Nat => Value.int .i64 (i : Int)
theorem idV_succ (k : Nat) : idV (k + 1) = idV k ++ [Value.int .i64 (k : Int)] := by unfold idV; rw [List.range_succ, List.map_append]; rfl
theorem idV_get {k i : Nat} (h : i < k) : (idV k)[i]? = some (Value.int .i64 (i : Int)) := by unfold idV; simp [h]
/-- what ranking leaves -/
def RankPost (r : Nat → Nat) (n0 : Nat) (w : World) (e : Ending) (w' : World) : Prop :=
  ∃ (bl cap : Nat) (f : Nat → Nat), e = .returned (.slice (some ⟨bl, 0, none⟩) n0 cap) ∧ w.heap.size ≤ bl ∧ bl < w'.heap.size ∧ n0 ≤ cap ∧ PL bl n0 f w' ∧ (∀ k, k < n0 → f k < n0) ∧ Same 0 n0 idN f ∧ Srt r f 0 n0 ∧ Below w.heap.size w w'
theorem pl_of_own {w : World} {base n bl cap : Nat} (h : w.ownsRow base 3 1 (.slice (some ⟨bl, 0, none⟩) n cap) n (idV n)) : PL bl n idN w := by
  intro k hk
  refine ⟨?_, h.frozenAt k⟩
  have := h.cellAt k (by omega)
  rw [idV_get hk] at this
  exact this
theorem intInfoR : (Tryz.prog.info? 3).map (fun i => (i.zero, i.size, i.bytes)) = some (some (.int .i64 0), 1, 8) := by kernel_rfl
set_option maxHeartbeats 4000000 in
set_option maxRecDepth 100000 in
theorem ranking_any (sg : Int) (B : Nat) (v : Value) (ys : List QI) (r : Nat → Nat) (w : World) (hsg : -1 ≤ sg ∧ sg ≤ 1) (hB : B < w.heap.size) (hc : w.cell? ⟨B, 0, none⟩ = some (.int .i64 sg)) (hn1 : 1 ≤ ys.length) (hn2 : ys.length ≤ 30) (hz : ∀ x ∈ ys, szQ x ≤ 1048576)
    (hval : ∀ (i j : Nat) (x y : QI), ys[i]? = some x → ys[j]? = some y → sg * cmpQ y x = cmpI (r j) (r i)) (hv : OwnQR w v ys) (hsen : Sen w) :
    Calls Tryz.prog 61 #[v, .func (.func 55) #[] #[.pointer (some ⟨B, 0, none⟩)]] w (RankPost r ys.length w) := by
  obtain ⟨i0, hi0, hz0, hz1, hz2⟩ := info_parts intInfoR
  have HS := Lib.hid hsen
  have HV := Lib.hid hv
  have HVAL := Lib.hid hval
  have HCB := Lib.hid hc
  have HZ := Lib.hid hz
  obtain ⟨A, c, rfl, _⟩ := hv
  clear hsen hval hc hz
  have bb0 : Below w.heap.size w ((w.alloc (.cells #[.slice A ys.length c] 61)).alloc (.cells #[.func (.func 55) #[] #[.pointer (some ⟨B, 0, none⟩)]] 78)) := below_al (below_al (Below.refl _ _) _) _
  have kl := (box_new w #[.slice A ys.length c] 61).below (below_al (Below.refl _ _) (.cells #[.func (.func 55) #[] #[.pointer (some ⟨B, 0, none⟩)]] 78))
  have kc := box_new (w.alloc (.cells #[.slice A ys.length c] 61)) #[.func (.func 55) #[] #[.pointer (some ⟨B, 0, none⟩)]] 78
  rw [show (w.alloc (.cells #[.slice A ys.length c] 61)).heap.size = w.heap.size + 1 by simp] at kc
  go_enter Tryz.func61, Tryz.ntmps61
  have kl_c0 := kl.here.cell 0 _ rfl
  go_wp2
  obtain ⟨w1, hw1⟩ : ∃ W, W = ((w.alloc (.cells #[.slice A ys.length c] 61)).alloc (.cells #[.func (.func 55) #[] #[.pointer (some ⟨B, 0, none⟩)]] 78)) := ⟨_, rfl⟩
  clear kl_c0
  rw [← hw1] at kl kc bb0 ⊢
  clear hw1
  have hk1 := kc.lt (w.heap.size + 1) (by simp)
  have HKL := Lib.hid kl
  have HKC := Lib.hid kc
  have HBB := Lib.hid bb0
  clear kl kc bb0
  go_loopw [5, 9] (fun u i wr => ∃ k : Nat, k ≤ ys.length ∧ i = .int .i64 k ∧ wr.ownsRow w1.heap.size 3 1 u k (idV k) ∧ Below w1.heap.size w1 wr) (fun _ i _ => ys.length - (intOf i).toNat)
  case atStart => exact ⟨0, Nat.zero_le _, rfl, ⟨rfl, .inl ⟨rfl, rfl⟩⟩, Below.refl _ _⟩
  case round =>
    obtain ⟨k, hk, rfl, hown, hb⟩ := hrel
    have hbs := hb.size
    by_cases hlt : k < ys.length
    · have HA := Lib.hid (own_alloc hown (.cells #[.int .i64 (k : Int)] 3))
      have HO := Lib.hid (one_new wr (.int .i64 (k : Int)) 3)
      have HOWN := Lib.hid hown
      have HBW := Lib.hid hb
      clear hown hb
      go_wp2_with (at_builtin; refine wpList_append_own _ rfl (.tmp 12) (.tmp 14) 22 rfl w1.heap.size 3 i0 (.int .i64 0) 1 8 Tryz.underlying22 hi0 hz0 hz1 hz2 rfl (by decide) _ _ _ rfl HA.out ⟨wr.heap.size, 0, none⟩ 1 1 [.int .i64 (k : Int)] rfl rfl HO.out ?c2 ?c3 ?c4 ?c5 ?_)
      case c2 => first | rfl | (intro u hu; simp at hu; subst hu; rfl)
      case c3 => unfold maxLen; omega
      case c4 => omega
      case c5 => simp; omega
      intro v1 w2 hown2 hg2 _
      have hb2 := below_push (o := .cells #[.int .i64 (k : Int)] 3) HBW.out (Nat.le_refl _) HOWN.out hg2
      rw [← idV_succ] at hown2
      go_wp2
      exact ⟨⟨k + 1, by omega, by go_num, hown2, hb2⟩, by simp [intOf]; omega⟩
    · obtain rfl : k = ys.length := by omega
      obtain ⟨bl, cap, rfl, hbl1, hbl2, hcap⟩ := own_form hown (by omega)
      have hblw : w.heap.size + 1 < bl := by omega
      have HBW := Lib.hid (Below.next HBB.out hb)
      have HPLW := Lib.hid (show PLW bl ys.length idN wr wr from ⟨pl_of_own hown, Chg.refl _ _, hbl2, fun k hk => hk⟩)
      have hwr := HBW.out.size
      have HCMP := Lib.hid (show CmpAt 98 #[.pointer (some ⟨w.heap.size + 1, 0, none⟩), .pointer (some ⟨w.heap.size, 0, none⟩)] r bl ys.length wr from by
        refine ⟨enters_of Tryz.func98 (by kernel_rfl) rfl, fun W hW x y hx hy => ?_⟩
        have hbW : Below w.heap.size w W := below_chg HBW.out hW hwr (fun i hi => by simp at hi; omega)
        have hsz := hW.size
        have k1 : W.cell? ⟨w.heap.size + 1, 0, none⟩ = some (.func (.func 55) #[] #[.pointer (some ⟨B, 0, none⟩)]) := ((HKC.out.below hb).chg hW (fun i hi hm => by simp at hi hm; omega)).here.cell 0 _ rfl
        have k2 : W.cell? ⟨w.heap.size, 0, none⟩ = some (.slice A ys.length c) := ((HKL.out.below hb).chg hW (fun i hi hm => by simp at hi hm; omega)).here.cell 0 _ rfl
        have hxx := List.getElem?_eq_getElem hx
        have hyy := List.getElem?_eq_getElem hy
        have h := rankCmp_any sg B (w.heap.size + 1) w.heap.size (.slice A ys.length c) ys x y _ _ W hsg (Nat.lt_of_lt_of_le hB hbW.size) ((hbW.cell (p := ⟨B, 0, none⟩) hB).trans HCB.out) k1 k2 (by omega) (by omega) hn2 hxx hyy (HZ.out _ (List.getElem_mem hx)) (HZ.out _ (List.getElem_mem hy)) (HV.out.below hbW) (HS.out.below hbW)
        rw [HVAL.out x y _ _ hxx hyy] at h
        exact h)
      clear hown hb
      go_wp2_with fail
      refine (sortStable_any _ _ r bl ys.length _ _ HCMP.out HPLW.out hn2).mono ?_
      rintro e w2 ⟨rfl, f, hp, hs, ht⟩
      have HF := Lib.hid (show RankPost r ys.length w (.returned (.slice (some ⟨bl, 0, none⟩) ys.length cap)) w2 from ⟨bl, cap, f, rfl, by omega, hp.lt, hcap, hp.pl, hp.bd, hs, ht, below_chg HBW.out hp.ch hwr (fun i hi => by simp at hi; omega)⟩)
      clear hp hs ht
      go_wp2
      go_ret
      exact HF.out
end Go.Proofs.YtofehcpapdlcnabGreatDoor

namespace Go.Proofs.YtofehcpapdlcnabGreatDoor
open Go.RowKit

theorem restK_at {x : SI} {ws : List Int} {i : Nat} {y : QI} (h : (restK x ws ws.length)[i]? = some y) : i < ws.length ∧ y = restQ (fairF x ws i) 0 := by
  unfold restK at h
  rw [List.getElem?_map] at h
  by_cases hi : i < ws.length
  · rw [List.getElem?_range hi] at h
    simp at h
    exact ⟨hi, h.symm⟩
  · rw [List.getElem?_eq_none (by simp; omega)] at h
    simp at h
theorem restK_cmp {x : SI} {ws : List Int} (h : Good x ws) : ∀ (i j : Nat) (y z : QI), (restK x ws ws.length)[i]? = some y → (restK x ws ws.length)[j]? = some z → sgX x * cmpQ z y = cmpI (rN x ws j) (rN x ws i) := by
  intro i j y z hy hz
  obtain ⟨hi, rfl⟩ := restK_at hy
  obtain ⟨hj, rfl⟩ := restK_at hz
  exact h.cmp hi hj
theorem restK_sz (x : SI) (ws : List Int) : ∀ y ∈ restK x ws ws.length, szQ y ≤ 1048576 := by
  intro y hy
  unfold restK at hy
  obtain ⟨i, _, rfl⟩ := List.mem_map.1 hy
  exact restQ_szP _
/-- the loop of impl's Shares -/
def GiveI (x : SI) (ws : List Int) (f : Nat → Nat) (g : Nat) (cu : Nat) (w1 w9 : World) (i : Value) (wr : World) : Prop :=
  ∃ k : Nat, k ≤ missN x ws ∧ i = .int .i64 k ∧ RowS w1.heap.size (.slice (some ⟨g, 0, none⟩) ws.length cu) (partsK x ws ((List.range k).map f)) wr ∧ Chg [g] w9 wr
theorem map_next {x : SI} {ws : List Int} {f : Nat → Nat} {k : Nat} (ht : Top (rN x ws) ws.length ((List.range (k + 1)).map f)) : f k ∉ (List.range k).map f ∧ partsK x ws (f k :: (List.range k).map f) = partsK x ws ((List.range (k + 1)).map f) := by
  have h := ht.1
  rw [List.range_succ, List.map_append] at h ⊢
  refine ⟨fun hm => ?_, partsK_mem fun i => by simp [or_comm]⟩
  exact (List.nodup_append.1 h).2.2 _ hm _ (by simp) rfl
theorem sg_unit {x : SI} {ws : List Int} (h : Good x ws) (hm : 0 < missN x ws) : sgX x = sgZ x.1 1 := by
  rw [sgX_is h.okx, if_neg]
  unfold missN at hm
  omega
theorem PL.chgS {bl n g : Nat} {f : Nat → Nat} {w w' : World} (h : PL bl n f w) (hl : bl < w.heap.size) (hne : ¬ bl = g) (hc : Chg [g] w w') : PL bl n f w' := by
  intro k hk
  have e := hc.block bl hl (by simp; exact hne)
  have h1 := h k hk
  unfold World.cell? World.frozen? at *
  simp only [e]
  exact h1
set_option maxHeartbeats 8000000 in
set_option maxRecDepth 100000 in
theorem implShares_of (v vw : Value) (x : SI) (ws : List Int) (w : World) (hlx : x.2.length ≤ 1048576) (hlw : ws.length ≤ 1048576) (h : OwnS v x w) (hsen : Sen w)
    (hlow : ∀ (u : Value) (W : World), Below w.heap.size w W → OwnS u x W → Calls Tryz.prog 53 #[u, vw] W (LowPost x ws W)) :
    Calls Tryz.prog 18 #[v, vw] w (SharesPost x ws w) := by
  have HSEN := Lib.hid hsen
  have HLOW := Lib.hid hlow
  clear hsen hlow
  have Hx := Lib.hid h
  obtain ⟨Ax, cx, rfl⟩ := ownS_form h
  have OSx := Lib.hid (show ∀ W, Below w.heap.size w W → OwnS (.agg #[.bool x.1, .slice Ax x.2.length cx]) x W from fun W hb => OwnS.below Hx.out hb)
  clear h Hx
  have kx := box_new w #[.bool x.1, .slice Ax x.2.length cx] 29
  obtain ⟨w1, hw1⟩ : ∃ W, W = w.alloc (.cells #[.bool x.1, .slice Ax x.2.length cx] 29) := ⟨_, rfl⟩
  have hs1 : w1.heap.size = w.heap.size + 1 := by rw [hw1]; simp
  have BB1 := Lib.hid (show Below w.heap.size w w1 by rw [hw1]; exact below_al (Below.refl _ _) _)
  have kx_c0 := kx.here.cell 0 _ rfl
  have kx_c1 := kx.here.cell 1 _ rfl
  go_enter Tryz.func18, Tryz.ntmps18
  go_wp2_with fail
  rw [← hw1] at kx ⊢
  have hq1 : w.heap.size + 1 ≤ w1.heap.size := by omega
  clear hw1 hs1 kx_c0 kx_c1
  refine (HLOW.out _ _ BB1.out (OSx.out _ BB1.out)).mono ?_
  rintro e w2 ⟨vu, vq, rfl, hrows, b2⟩
  have bb2 := Below.next BB1.out b2
  obtain ⟨ok, hok⟩ : ∃ b, okSh x ws = b := ⟨_, rfl⟩
  rw [hok] at hrows ⊢
  have HOK := Lib.hid hok
  clear hok
  have kx2 := kx.below b2
  cases ok with
  | false =>
    clear hrows kx kx2
    go_wp2
    go_ret2
    exact sharesPost_no HOK.out bb2
  | true =>
    obtain ⟨hS, hQ⟩ := hrows rfl
    have HG := Lib.hid (good_of HOK.out)
    have HSW := Lib.hid hS
    have HQW := Lib.hid hQ
    obtain ⟨Au, cu, rfl⟩ := rowS_len hS
    obtain ⟨Aq, cq, rfl⟩ := rowQ_len hQ
    rw [partsK_len] at HSW ⊢
    rw [restK_len] at HQW ⊢
    have hl30 := HG.out.wts.l2
    have hpos := HG.out.wts.l1
    have hz2 := b2.size
    clear hrows hS hQ kx
    have kx_c0 := kx2.here.cell 0 _ rfl
    have kx_c1 := kx2.here.cell 1 _ rfl
    go_wp2_with fail
    clear kx_c0 kx_c1
    refine (implIntSign_any _ x _ hlx (OSx.out _ bb2)).mono ?_
    rintro e w3 ⟨rfl, b3⟩
    have hz3 := b3.size
    obtain ⟨sg, hsg⟩ : ∃ s, cmpS x zeroS = s := ⟨_, rfl⟩
    rw [hsg]
    have HSG := Lib.hid (show sgX x = sg from hsg)
    clear hsg
    go_upto_region 6 with fail
    have k9 := box_new w3 #[.int .i64 sg] 3
    have al4 : Below w3.heap.size w3 (w3.alloc (.cells #[.int .i64 sg] 3)) := below_al (Below.refl _ _) _
    have hs4 : w3.heap.size + 1 ≤ (w3.alloc (.cells #[.int .i64 sg] 3)).heap.size := by simp
    obtain ⟨w4, hw4⟩ : ∃ W, W = (w3.alloc (.cells #[.int .i64 sg] 3)) := ⟨_, rfl⟩
    rw [← hw4] at k9 al4 hs4 ⊢
    clear hw4
    have b24 : Below w2.heap.size w2 w4 := b3.trans (al4.mono b3.size)
    have bb4 := Below.next bb2 b24
    have kx4 := kx2.below b24
    have HCr := Lib.hid (Chg.refl [] w4)
    have HC0 := Lib.hid (show Chg [] w4 w4.drew from (Chg.refl _ _).drew1)
    have RSW := Lib.hid (show ∀ W, Chg [] w4 W → RowS w1.heap.size (.slice Au ws.length cu) (partsK x ws []) W from fun W hc => (HSW.out.below b24).stays fun i _ hi => hc.block i hi (by simp))
    have KL := Lib.hid (show ∀ W, Chg [] w4 W → W.cell? ⟨w.heap.size, 0, none⟩ = some (.bool x.1) ∧ W.cell? ⟨w.heap.size, 1, none⟩ = some (.slice Ax x.2.length cx) ∧ Hid (Chg [] w4 W) from fun W hc => ⟨(kx4.chg hc (fun i hi hm => by simp at hm)).here.cell 0 _ rfl, (kx4.chg hc (fun i hi hm => by simp at hm)).here.cell 1 _ rfl, Lib.hid hc⟩)
    have BBF := Lib.hid (show ∀ W, Chg [] w4 W → Below w.heap.size w W from fun W hc => below_chg bb4 hc bb4.size (fun i hi => by simp at hi))
    obtain ⟨s1, hs1⟩ : ∃ s, sumS (partsK x ws []) = s := ⟨_, rfl⟩
    have hl1 : s1.2.length ≤ 1048576 := by rw [← hs1]; exact sumS_lenS (partsK_ok _ _ _)
    obtain ⟨s2, hs2⟩ : ∃ s, subS x s1 = s := ⟨_, rfl⟩
    have hl2 : s2.2.length ≤ 1048576 := by rw [← hs2]; exact subS_lenS _ _
    obtain ⟨s3, hs3⟩ : ∃ s, absS s2 = s := ⟨_, rfl⟩
    have hl3 : s3.2.length ≤ 1048576 := by rw [← hs3]; exact absS_lenS _
    have hmiss := HG.out.miss
    rw [hs1, hs2, hs3] at hmiss
    have HM := Lib.hid hmiss.1
    have hml := hmiss.2
    have HS1 := Lib.hid hs1
    have HS2 := Lib.hid hs2
    have HS3 := Lib.hid hs3
    clear hs1 hs2 hs3 hmiss kx4 kx2
    have kl := KL.out _ HCr.out
    have kx_c0 := kl.1
    have kx_c1 := kl.2.1
    have HLEN := Lib.hid (partsK_len x ws [])
    clear kl
    go_region_held3 (fun W => W.cell? ⟨w.heap.size, 0, none⟩ = some (.bool x.1) ∧ W.cell? ⟨w.heap.size, 1, none⟩ = some (.slice Ax x.2.length cx) ∧ Hid (Chg [] w4 W))
      ((refine KL.out _ ?_; (first | exact HC8.out | exact HC7.out | exact HC6.out | exact HC5.out | exact HCr.out | exact HC0.out | exact HC8.out.drew1 | exact HC7.out.drew1 | exact HC6.out.drew1 | exact HC5.out.drew1 | exact HCr.out.drew1 | fail)))
      (first
        | (go_at_call 60; (have hBB := (‹_ ∧ _ ∧ Hid (Chg [] w4 _)›).2.2); (with_reducible refine ((implIntSum_any _ (partsK x ws []) _ (by rw [HLEN.out]; omega) (partsK_sz _ _ _) (RSW.out _ hBB.out).ownR).mono fun _ _ h => newS_isS HS1.out h).mono ?_); rintro e w5 ⟨u3, S3, rfl, o3, l3, b5⟩; have HC5 := Lib.hid (hBB.out.trans (Chg.of_below b5)); obtain ⟨A3, c3, rfl⟩ := ownS_form o3.here; clear hBB)
        | (go_at_call 59; (have hBB := (‹_ ∧ _ ∧ Hid (Chg [] w4 _)›).2.2); (with_reducible refine ((implIntSub_any _ _ x s1 _ hlx hl1 (OSx.out _ (BBF.out _ hBB.out)) (At.here (by first | exact o3 | exact At.move o3 (fun _ _ => rfl) (Nat.le_refl _)))).mono fun _ _ h => newS_isS HS2.out h).mono ?_); rintro e w6 ⟨u4, S4, rfl, o4, l4, b6⟩; have HC6 := Lib.hid (hBB.out.trans (Chg.of_below b6)); obtain ⟨A4, c4, rfl⟩ := ownS_form o4.here; clear hBB)
        | (go_at_call 58; (have hBB := (‹_ ∧ _ ∧ Hid (Chg [] w4 _)›).2.2); (with_reducible refine ((implIntAbs_any _ s2 _ hl2 (At.here (by first | exact o4 | exact At.move o4 (fun _ _ => rfl) (Nat.le_refl _)))).mono fun _ _ h => newS_isS HS3.out h).mono ?_); rintro e w7 ⟨u5, S5, rfl, o5, l5, b7⟩; have HC7 := Lib.hid (hBB.out.trans (Chg.of_below b7)); obtain ⟨A5, c5, rfl⟩ := ownS_form o5.here; clear hBB)
        | (go_at_call 57; (have hBB := (‹_ ∧ _ ∧ Hid (Chg [] w4 _)›).2.2); (with_reducible refine (implIntNum_any _ s3 _ hl3 (At.here (by first | exact o5 | exact At.move o5 (fun _ _ => rfl) (Nat.le_refl _)))).mono ?_); rintro e w8 ⟨rfl, b8⟩; rw [HM.out]; have HC8 := Lib.hid (hBB.out.trans (Chg.of_below b8)); clear hBB))
    have bb8 := BBF.out _ HC8.out
    have RS8 := RSW.out _ HC8.out
    have hz8 := HC8.out.size
    have B28 : Below w2.heap.size w2 w8 := below_chg b24 HC8.out b24.size (fun i hi => by simp at hi)
    have k98 := k9.chg HC8.out (fun i hi hm => by simp at hm)
    have hb8 : w3.heap.size < w8.heap.size := by omega
    have HVAL := Lib.hid (restK_cmp HG.out)
    rw [HSG.out] at HVAL
    have hsg : -1 ≤ sg ∧ sg ≤ 1 := by rw [← HSG.out]; exact sgX_small
    have kl := KL.out _ HC8.out
    clear o3 o4 o5 l3 l4 l5 b5 b6 b7 b8 HC5 HC6 HC7 HC0 HM HS1 HS2 HS3 hl1 hl2 hl3 kx_c0 kx_c1 RSW kl
    go_wp2_with fail
    refine (ranking_any sg w3.heap.size _ (restK x ws ws.length) (rN x ws) _ hsg hb8 (k98.here.cell 0 _ rfl) (by rw [restK_len]; exact hpos) (by rw [restK_len]; exact hl30) (restK_sz x ws) HVAL.out (HQW.out.below B28).ownQR (HSEN.out.below bb8)).mono ?_
    rintro e w9 ⟨bl, cap, f, rfl, hbl1, hbl2, hcap, hpl, hfb, hsame, hsrt, b9⟩
    rw [restK_len] at hcap hpl hfb hsame hsrt ⊢
    have bb9 := Below.next bb8 b9
    have hz9 := b9.size
    have RS9 := RS8.below b9
    have k99 := k98.below b9
    obtain ⟨g, cg, Ap0, cp0, eu, hgB, hgl8, _, _⟩ := rowS_place RS8 (p := 0) (y := (partsK x ws [])[0]'(by rw [partsK_len]; exact hpos)) (List.getElem?_eq_getElem _)
    rw [partsK_len] at eu
    obtain ⟨rfl, rfl⟩ : Au = some ⟨g, 0, none⟩ ∧ cu = cg := by injection eu with h1 h2 h3; exact ⟨h1, h3⟩
    have B19 : Below w1.heap.size w1 w9 := (b2.trans ((B28.trans (b9.mono B28.size)).mono b2.size))
    have HTOP := Lib.hid (show ∀ m, m ≤ ws.length → Top (rN x ws) ws.length ((List.range m).map f) from fun m hm => top_srt hsrt hsame hm)
    have HFB := Lib.hid hfb
    have hneb : ¬ bl = g := by omega
    have hgw3 : ¬ g = w3.heap.size := fun e => by
      obtain ⟨_, h1, _⟩ := HSW.out
      have := (own_lt (g := g) h1 rfl).2
      omega
    have HPL := Lib.hid (show ∀ W, Chg [g] w9 W → PL bl ws.length f W from fun W hc => PL.chgS hpl hbl2 hneb hc)
    have HK9 := Lib.hid (show ∀ W, Chg [g] w9 W → W.cell? ⟨w3.heap.size, 0, none⟩ = some (.int .i64 sg) from fun W hc => (k99.chg hc (fun i hi hm => by simp at hi hm; omega)).here.cell 0 _ rfl)
    have HST := Lib.hid (show GiveI x ws f g cu w1 w9 (.int .i64 0) w9 from ⟨0, Nat.zero_le _, rfl, RS9, Chg.refl _ _⟩)
    have q1 : (missN x ws : Int) ≤ (cap : Int) := by omega
    have q2 : (0 : Int) ≤ (missN x ws : Int) := by omega
    have q3 : ((missN x ws : Int)).toNat = missN x ws := by omega
    clear eu RS8 RS9 k9 k98 k99 hpl hsrt hsame hfb HVAL hsg B28
    obtain ⟨mm, hmm⟩ : ∃ m, missN x ws = m := ⟨_, rfl⟩
    rw [hmm] at q1 q2 q3 hml ⊢
    have HMM := Lib.hid hmm
    clear hmm
    go_wp2
    go_loopw [42] (fun i wr => GiveI x ws f g cu w1 w9 i wr) (fun i _ => mm - (intOf i).toNat)
    case atStart => exact HST.out
    case round =>
      clear HST
      obtain ⟨k, hk, rfl, hS, hc⟩ := hrel
      rw [HMM.out] at hk
      have hzr := hc.size
      have B1r : Below w1.heap.size w1 wr := below_chg B19 hc B19.size (fun i hi => by simp at hi; omega)
      by_cases hlt : k < mm
      · have hkn : k < ws.length := by omega
        have hm0 : 0 < missN x ws := by rw [HMM.out]; omega
        obtain ⟨p, hfk⟩ : ∃ p, f k = p := ⟨_, rfl⟩
        have hp : p < ws.length := by rw [← hfk]; exact HFB.out k hkn
        have r_c0 := (HPL.out wr hc k hkn).1
        have hmk := map_next (HTOP.out (k + 1) (by omega))
        rw [hfk] at r_c0 hmk
        obtain ⟨e1, e2, e3⟩ := HG.out.bump hp hmk.1 hm0
        rw [hmk.2] at e3
        obtain ⟨g', cg', Ap, cp, eu, _, hgl, hplace, op⟩ := rowS_place hS e2
        obtain rfl : g = g' := by injection eu with h1; injection h1 with h1; injection h1
        obtain ⟨y0, hy0⟩ : ∃ y, ofZ (sgZ x.1 (qN x ws p)) = y := ⟨_, rfl⟩
        obtain ⟨yo, hyo⟩ : ∃ y, ofZ sg = y := ⟨_, rfl⟩
        obtain ⟨yn, hyn⟩ : ∃ y, ofZ (sgZ x.1 (qN x ws p + 1)) = y := ⟨_, rfl⟩
        have hl0 : y0.2.length ≤ 1048576 := by rw [← hy0]; exact Nat.le_trans (ofZ_len _) (by decide)
        have hlo : yo.2.length ≤ 1048576 := by rw [← hyo]; exact Nat.le_trans (ofZ_len _) (by decide)
        rw [hy0] at e1 e2 op hplace
        rw [← sg_unit HG.out hm0, HSG.out, hyo] at e1
        rw [hyn] at e1 e3
        have hsg : -1 ≤ sg ∧ sg ≤ 1 := by rw [← HSG.out]; exact sgX_small
        have HE1 := Lib.hid e1
        have HE3 := Lib.hid e3
        have HYO := Lib.hid hyo
        have HOP := Lib.hid (show ∀ W, Below wr.heap.size wr W → OwnS (.agg #[.bool y0.1, .slice Ap y0.2.length cp]) y0 W from fun W hb => op.below hb)
        have HPC := Lib.hid (show ∀ W, Below wr.heap.size wr W → W.cell? ⟨g, p * 2, none⟩ = some (.bool y0.1) ∧ W.cell? ⟨g, p * 2 + 1, none⟩ = some (.slice Ap y0.2.length cp) ∧ W.frozen? ⟨g, p * 2, none⟩ = false ∧ W.frozen? ⟨g, p * 2 + 1, none⟩ = false from fun W hb => hplace W (hb.block g hgl))
        have HRS := Lib.hid hS
        have HCC := Lib.hid hc
        have p_c0 := (hplace wr rfl).1
        have p_c1 := (hplace wr rfl).2.1
        have s_c0 := HK9.out wr hc
        have HKS := Lib.hid (show ∀ W, Below wr.heap.size wr W → W.cell? ⟨w3.heap.size, 0, none⟩ = some (.int .i64 sg) from fun W hb => (hb.cell (p := ⟨w3.heap.size, 0, none⟩) (by show w3.heap.size < _; omega)).trans s_c0)
        have q4 : (k : Int) < (mm : Int) := by omega
        have q5 : (0 : Int) ≤ (k : Int) := by omega
        have q6 : (p : Int) < (ws.length : Int) := by omega
        have q7 : (0 : Int) ≤ (p : Int) := by omega
        have q8 : ((p : Int)).toNat = p := by omega
        clear hfk hmk e1 e2 e3 eu hy0 hyo hyn op hplace hS hc B1r
        go_upto_region 10 with fail
        clear r_c0
        go_region_law (first
          | (go_simp; go_at_call 63; refine ((implIntOf_any sg _ (by omega) (by omega)).mono fun _ _ h => newS_isS HYO.out h).mono ?_; rintro e w10 ⟨u10, S10, rfl, o10, l10, b10⟩; replace b10 : Below wr.heap.size wr w10 := (by first | exact b10 | exact (Below.refl _ _).drew.trans b10); obtain ⟨A10, c10, rfl⟩ := ownS_form o10.here; have HB10 := Lib.hid b10; have HO10 := Lib.hid o10; have m_c0 := (HPC.out _ b10).1; have m_c1 := (HPC.out _ b10).2.1; clear o10 l10 b10)
          | (go_simp; go_at_call 62; refine ((implIntAdd_any _ _ y0 yo _ hl0 hlo (HOP.out _ (by first | exact HB10.out | exact HB10.out.drew)) (by first | exact HO10.out.here | exact (At.move HO10.out (fun _ _ => rfl) (Nat.le_refl _)).here)).mono fun _ _ h => newS_isS HE1.out h).mono ?_; rintro e w11 ⟨u11, S11, rfl, o11, l11, b11⟩; replace b11 : Below wr.heap.size wr w11 := (by first | exact Below.next HB10.out b11 | exact Below.next HB10.out.drew b11); obtain ⟨A11, c11, rfl⟩ := ownS_form o11.here; have hz11 := HB10.out.size; replace l11 : ∀ i ∈ S11, wr.heap.size ≤ i := (fun i hi => Nat.le_trans hz11 (l11 i hi).1); have f0 := (HPC.out _ b11).2.2.1; have f1 := (HPC.out _ b11).2.2.2; have d0 := (HPC.out _ b11).1; have d1 := (HPC.out _ b11).2.1; have HB11 := Lib.hid b11; have HO11 := Lib.hid o11; have HL11 := Lib.hid l11; clear o11 l11 b11))
        all_goals
          obtain ⟨w12, hw12⟩ : ∃ W, W = (w11.setCell ⟨g, p * 2, none⟩ (.bool yn.1)).setCell ⟨g, p * 2 + 1, none⟩ (.slice A11 yn.2.length c11) := ⟨_, rfl⟩
          rw [← hw12]
          have RS12 : RowS w1.heap.size (.slice (some ⟨g, 0, none⟩) ws.length cu) (partsK x ws ((List.range (k + 1)).map f)) w12 := by
            have h := rowS_set (k := p) (x := yn) (un := .slice A11 yn.2.length c11) (W0 := wr) (W := w11) (N := wr.heap.size) (B := w1.heap.size) (g := g) (c := cu) (l := partsK x ws ((List.range k).map f)) (by rw [partsK_len]; exact HRS.out) (by rw [partsK_len]; exact hp) (fun i hi => HB11.out.block i hi) (Nat.le_refl _) (ownS_row HO11.out HL11.out) (by omega)
            rw [partsK_len, HE3.out, ← hw12] at h
            exact h
          have hc12 : Chg [g] w9 w12 := by
            rw [hw12]
            exact ((HCC.out.trans (Chg.of_below HB11.out)).setCell (by simp) _).setCell (by simp) _
          clear hw12 HRS HCC HB11 HO11 HL11 HB10 HO10 d0 d1 f0 f1
          go_wp2
          exact ⟨⟨k + 1, by rw [HMM.out]; omega, by go_num, RS12, hc12⟩, by simp [intOf]; omega⟩
      · obtain rfl : k = mm := by omega
        have HE := Lib.hid (sharesPost_yes HOK.out (by rw [← shares_top (HTOP.out k hml) (by simp; exact HMM.out.symm)]; exact hS) (show w.heap.size ≤ w1.heap.size by omega) (Below.next BB1.out B1r))
        clear hS hc
        go_wp2
        go_ret2
        exact HE.out
end Go.Proofs.YtofehcpapdlcnabGreatDoor

namespace Go.Proofs.YtofehcpapdlcnabGreatDoor
open Go.RowKit

theorem implShares_any (v vw : Value) (x : SI) (ws : List Int) (lo hi : Nat) (w : World) (hlx : x.2.length ≤ 1048576) (hlw : ws.length ≤ 1048576) (hhi : hi ≤ w.heap.size) (h : OwnS v x w) (hr : Row w lo hi vw (intsV ws)) (hsen : Sen w) :
    Calls Tryz.prog 18 #[v, vw] w (SharesPost x ws w) :=
  implShares_of v vw x ws w hlx hlw h hsen fun u W hb ho => lowShares_any u vw x ws lo hi W hlx hlw (Nat.le_trans hhi hb.size) ho (Row.below hr hb hhi) (hsen.below hb)
end Go.Proofs.YtofehcpapdlcnabGreatDoor

namespace Go.Proofs.YtofehcpapdlcnabGreatDoor
open Go.RowKit

theorem sharesR_len (x : SI) (ws : List Int) : (sharesR x ws).1.length ≤ ws.length ∧ ∀ y ∈ (sharesR x ws).1, y.2.length ≤ 50 := by
  unfold sharesR
  split
  · unfold sharesL
    refine ⟨by simp, fun y hy => ?_⟩
    obtain ⟨i, _, rfl⟩ := List.mem_map.1 hy
    exact ofZ_len _
  · exact ⟨Nat.zero_le _, fun y hy => absurd hy List.not_mem_nil⟩
theorem okSh_len {x : SI} {ws : List Int} (h : (sharesR x ws).2 = true) : (sharesR x ws).1.length ≤ 30 := by
  refine Nat.le_trans (sharesR_len x ws).1 ?_
  have hk : okSh x ws = true := by
    unfold sharesR at h
    split at h
    · assumption
    · cases h
  unfold okSh at hk
  rw [Bool.and_eq_true] at hk
  have hw := hk.1
  by_cases hl : 1 ≤ ws.length ∧ ws.length ≤ 30
  · exact hl.2
  · rw [okW_badlen hl] at hw
    cases hw
end Go.Proofs.YtofehcpapdlcnabGreatDoor

namespace Go.Proofs.YtofehcpapdlcnabGreatDoor
open Go.RowKit

/-- how many marks there are room for -/
def mkL : List SI → Int
  | [] => 0
  | x :: l => 1 + szS x + mkL l
/-- an element's cells stand for it, its limbs of the call's own -/
def CellL (p : Bool × Value) (x : SI) (w : World) : Prop := p.1 = x.1 ∧ OwnI p.2 x.2 w
def ApartL (v : Value) (e : List (Bool × Value)) : Prop :=
  (∀ (i j : Nat) p q b, e[i]? = some p → e[j]? = some q → p.2.ownBlock = some b → q.2.ownBlock = some b → i = j) ∧ ∀ (i : Nat) p b, e[i]? = some p → p.2.ownBlock = some b → v.ownBlock ≠ some b
/-- such a slice, of the call's own -/
def OwnLP (v : Value) (l : List SI) (w : World) : Prop :=
  ∃ e : List (Bool × Value), w.ownsRow 0 29 2 v l.length (flatC e) ∧ e.length = l.length ∧ (∀ (j : Nat) x p, l[j]? = some x → e[j]? = some p → CellL p x w) ∧ ApartL v e
theorem OwnLP.below {v : Value} {l : List SI} {w w' : World} (h : OwnLP v l w) (hb : Below w.heap.size w w') : OwnLP v l w' := by
  obtain ⟨e, h4, h5, h6, h7⟩ := h
  refine ⟨e, own_below h4 hb, h5, fun j x p hx hp => ?_, h7⟩
  obtain ⟨e0, ho⟩ := h6 j x p hx hp
  exact ⟨e0, own_below ho hb⟩
/-! ### marks -/
def MarkedL (M : Int) (x : SI) (p : Bool × Value) (w : World) : Prop := p.1 = (M % 3 == 0) ∧ MarkI p.2 x.2 (M + 1) w
/-- a slice of marks from m on -/
def MkLP (v : Value) (l : List SI) (m : Int) (w : World) : Prop :=
  ∃ e : List (Bool × Value), w.ownsRow 0 29 2 v l.length (flatC e) ∧ e.length = l.length ∧ ∀ (j : Nat) x p, l[j]? = some x → e[j]? = some p → MarkedL (m + mkL (l.take j)) x p w
theorem MkLP.below {v : Value} {l : List SI} {m : Int} {w w' : World} (h : MkLP v l m w) (hb : Below w.heap.size w w') : MkLP v l m w' := by
  obtain ⟨e, h1, h2, h3⟩ := h
  refine ⟨e, own_below h1 hb, h2, fun j x p hx hp => ?_⟩
  obtain ⟨a0, a5⟩ := h3 j x p hx hp
  exact ⟨a0, own_below a5 hb⟩
theorem OwnLP.ownR {v : Value} {l : List SI} {w : World} (h : OwnLP v l w) : OwnR w v l := by
  obtain ⟨e, h4, hlen, h5, _⟩ := h
  obtain ⟨A, c, rfl⟩ := own_lenS h4
  refine ⟨A, c, rfl, fun j x hj => ?_⟩
  have hjl := (List.getElem?_eq_some_iff.1 hj).1
  obtain ⟨g, cap, ev, _, hg, _⟩ := own_form h4 (by omega)
  cases ev
  obtain ⟨p, hp⟩ : ∃ p, e[j]? = some p := ⟨_, List.getElem?_eq_getElem (by omega)⟩
  obtain ⟨e0, ho⟩ := h5 j x p hj hp
  have hf := flatC_get hp
  rw [e0] at hf
  refine ⟨⟨g, 0, none⟩, p.2, rfl, hg, ?_, ?_, ho⟩
  · have := h4.cellAt (j * 2) (by omega)
    rw [hf.1] at this
    rw [add_own]
    exact this
  · have := h4.cellAt (j * 2 + 1) (by omega)
    rw [hf.2] at this
    rw [add_own]
    exact this
end Go.Proofs.YtofehcpapdlcnabGreatDoor

namespace Go.Proofs.YtofehcpapdlcnabGreatDoor
open Go.RowKit

/-- what reads as these numbers -/
def RdX (v : Value) (l : List SI) (w : World) : Prop := RdL w v l
theorem RdX.below {v : Value} {l : List SI} {w w' : World} (h : RdX v l w) (hb : Below w.heap.size w w') : RdX v l w' := RdL.below h hb
theorem RdX.here {v : Value} {l : List SI} {w : World} (h : RdX v l w) : RdL w v l := h
end Go.Proofs.YtofehcpapdlcnabGreatDoor

namespace Go.Proofs.YtofehcpapdlcnabGreatDoor
open Go.RowKit

/-- the decimal digits of k ahead of acc, at most f of them -/
def digGo : Nat → Nat → List UInt8 → List UInt8
  | 0, _, acc => acc
  | f + 1, k, acc => if k = 0 then acc else digGo f (k / 10) ((48 + UInt8.ofNat (k % 10)) :: acc)
def markB (k : Int) : ByteArray := if k ≤ 0 then ⟨#[109, 48]⟩ else ⟨(109 :: digGo 19 k.toNat []).toArray⟩

theorem digGo_step {f m : Nat} {acc : List UInt8} {D : List UInt8} (h : digGo f m acc = D ∧ m < 10 ^ f) (hm : 0 < m) : ∃ g, f = g + 1 ∧ digGo g (m / 10) ((48 + UInt8.ofNat (m % 10)) :: acc) = D ∧ m / 10 < 10 ^ g := by
  cases f with
  | zero => have := h.2; simp at this; omega
  | succ g =>
    refine ⟨g, rfl, ?_, ?_⟩
    · rw [← h.1, digGo, if_neg (by omega)]
    · have := h.2; rw [Nat.pow_succ] at this; omega
theorem digGo_zero (f : Nat) (acc : List UInt8) : digGo f 0 acc = acc := by cases f <;> simp [digGo]
theorem push_one (c : UInt8) (acc : List UInt8) : (⟨#[c]⟩ : ByteArray) ++ ⟨acc.toArray⟩ = ⟨(c :: acc).toArray⟩ := by
  apply ByteArray.ext
  simp
theorem mark_done {n m f : Nat} {acc : List UInt8} (h0 : 0 < (n : Int)) (hz : ¬ 0 < m) (h : digGo f m acc = digGo 19 n [] ∧ m < 10 ^ f) : (⟨#[109]⟩ : ByteArray) ++ ⟨acc.toArray⟩ = markB n := by
  obtain rfl : m = 0 := by omega
  rw [markB, if_neg (by omega), push_one, Int.toNat_natCast, ← h.1, digGo_zero]

/-- string([]byte{c}) -/
theorem conv_byte (W : World) (c : Int) : (convert 120 9 (.slice (some ⟨W.heap.size, 0, none⟩) 1 1)).run Tryz.prog (W.alloc (.cells #[.int .u8 c] 5)) = .ok (.string ⟨#[UInt8.ofNat c.toNat]⟩) (W.alloc (.cells #[.int .u8 c] 5)) := by
  rw [run_convert_bytes_string _ 120 9 5 _ _ _ Tryz.underlying120 Tryz.underlying5 Tryz.underlying9]
  rw [run_bytesToString _ _ 1 1 [c] ?_]
  · rfl
  · simp [loadCells, go_sem]

set_option maxHeartbeats 400000 in
set_option maxRecDepth 100000 in
theorem markText_any (k : Int) (w : World) (hk : k ≤ 9223372036854775807) :
    Calls Tryz.prog 69 #[.int .i64 k] w fun e w' => e = .returned (.string (markB k)) ∧ Below w.heap.size w w' := by
  by_cases h0 : k ≤ 0
  · go_enter Tryz.func69, Tryz.ntmps69
    go_wp2
    go_ret
    exact ⟨ret_str (by rw [markB, if_pos h0]), Below.refl _ _⟩
  · obtain ⟨n, rfl⟩ := Int.eq_ofNat_of_zero_le (show 0 ≤ k by omega)
    have hcv := conv_byte
    go_enter Tryz.func69, Tryz.ntmps69
    go_wp2
    go_loopw [0, 3] (fun a o wr => ∃ (m f : Nat) (acc : List UInt8), m ≤ 9223372036854775807 ∧ acc.length + f ≤ 19 ∧ a = .int .i64 m ∧ o = .string ⟨acc.toArray⟩ ∧ Hid (digGo f m acc = digGo 19 n [] ∧ m < 10 ^ f) ∧ Below w.heap.size w wr) (fun a _ _ => (intOf a).toNat)
    case atStart => exact ⟨n, 19, [], by omega, by simp, rfl, rfl, Lib.hid ⟨rfl, by omega⟩, Below.refl _ _⟩
    case round =>
      obtain ⟨m, f, acc, hm, hf, rfl, rfl, HD, hb⟩ := hrel
      by_cases hz : 0 < m
      · obtain ⟨g, rfl, h1, h2⟩ := digGo_step HD.out hz
        have H1 := Lib.hid (And.intro h1 h2)
        clear h1 h2 HD
        go_wp2
        go_roundw
        case rel => exact ⟨m / 10, g, _, by omega, by simp; omega, by go_num, by rw [push_one], H1, hb.alloc hb.size _⟩
        case measure => simp [intOf]; omega
      · go_wp2
        go_ret
        exact ⟨ret_str (mark_done (by omega) hz HD.out), hb⟩
end Go.Proofs.YtofehcpapdlcnabGreatDoor

namespace Go.Proofs.YtofehcpapdlcnabGreatDoor
open Go.ChangeShapes Go.WideShapes Go.ChangeAt Go.RowKit

section
variable {H : Type} {enc : TypeId × Value → H} {P : Program} {W : World} {base : Nat} {t e : TypeId} {v : Value} {d : DataW H} {p : List MemPlace}

theorem arg_ints (ht : P.underlying t = some (.slice e)) (he : P.underlying e = some (.int .i64)) (hc : P.cellsOf e = 1) (hv : Value.okWide P W .any base t v) (h : DataW.Trod enc P W 0 (fun _ => true) true t v d p) :
    ∃ xs : List Int, Row W 0 W.heap.size v (xs.map (Value.int .i64)) ∧ xs.length ≤ maxLen ∧ ∀ x ∈ xs, -9223372036854775808 ≤ x ∧ x ≤ 9223372036854775807 := by
  obtain ⟨a0, len0, cap0, rfl⟩ := okWide_slice ht hv
  obtain ⟨fuel, hf⟩ := h
  rcases open_ints ht he hc hf with ⟨hcs, _⟩ | ⟨a, len, cap, ss, hcs, _, hl, hm, hz, _, hcell, hsz⟩
  · have hcs' : Value.slice a0 len0 cap0 = .slice none 0 0 := by simpa [Value.cells] using hcs
    cases hcs'
    exact ⟨[], Row.nil_ _ _, by simp, by simp⟩
  · have hcs' : Value.slice a0 len0 cap0 = .slice (some a) len cap := by simpa [Value.cells] using hcs
    obtain ⟨rfl, rfl, rfl⟩ : a0 = some a ∧ len = len0 ∧ cap = cap0 := by cases hcs'; exact ⟨rfl, rfl, rfl⟩
    have hzl : ss.length = cap := by simpa using hz
    have hlen : (ss.take len).length = len := by rw [List.length_take]; omega
    refine ⟨ss.take len, ⟨some a, cap, by rw [List.length_map, hlen], fun j u hu => ?_⟩, by omega, fun s hs => ?_⟩
    · rw [List.getElem?_map] at hu
      obtain ⟨s, hs, rfl⟩ := Option.map_eq_some_iff.1 hu
      have hj : j < len := by rw [← hlen]; exact (List.getElem?_eq_some_iff.1 hs).1
      have hs' : ss[j]? = some s := by rw [← hs, List.getElem?_take_of_lt hj]
      have hc1 := hcell j (by omega)
      rw [List.getD_eq_getElem?_getD, hs'] at hc1
      exact ⟨a, rfl, Nat.zero_le _, by have := cell_lt hc1; rwa [block_add] at this, hc1⟩
    · have := hsz s (List.mem_of_mem_take hs)
      simpa [Lit.wf, IntKind.min, IntKind.max, IntKind.signed, IntKind.bits] using this

end
end Go.Proofs.YtofehcpapdlcnabGreatDoor

namespace Go.Proofs.YtofehcpapdlcnabGreatDoor
open Go.ChangeShapes Go.WideShapes Go.ChangeAt Go.RowKit Go.Joins

section
variable {H : Type} {enc : TypeId × Value → H} {P : Program} {W : World} {base : Nat} {t e : TypeId}

/-- the cell of a slice of ints, wherever it stands -/
theorem cell_ints {fuel : Nat} {a0 : Option Addr} {len0 cap0 : Nat} {x : DataW H × List MemPlace} (ht : P.underlying t = some (.slice e)) (he : P.underlying e = some (.int .i64)) (hc : P.cellsOf e = 1)
    (hf : DataW.trod enc P W 0 (fun _ => true) true fuel t [.slice a0 len0 cap0] = some x) :
    ∃ xs : List Int, Row W 0 W.heap.size (.slice a0 len0 cap0) (xs.map (Value.int .i64)) ∧ xs.length ≤ maxLen := by
  rcases open_ints ht he hc hf with ⟨hcs, _⟩ | ⟨a, len, cap, ss, hcs, _, hl, hm, hz, _, hcell, hsz⟩
  · have hcs' : Value.slice a0 len0 cap0 = .slice none 0 0 := by simpa using hcs
    cases hcs'
    exact ⟨[], Row.nil_ _ _, by simp⟩
  · have hcs' : Value.slice a0 len0 cap0 = .slice (some a) len cap := by simpa using hcs
    obtain ⟨rfl, rfl, rfl⟩ : a0 = some a ∧ len = len0 ∧ cap = cap0 := by cases hcs'; exact ⟨rfl, rfl, rfl⟩
    have hzl : ss.length = cap := by simpa using hz
    have hlen : (ss.take len).length = len := by rw [List.length_take]; omega
    refine ⟨ss.take len, ⟨some a, cap, by rw [List.length_map, hlen], fun j u hu => ?_⟩, by omega⟩
    rw [List.getElem?_map] at hu
    obtain ⟨s, hs, rfl⟩ := Option.map_eq_some_iff.1 hu
    have hj : j < len := by rw [← hlen]; exact (List.getElem?_eq_some_iff.1 hs).1
    have hs' : ss[j]? = some s := by rw [← hs, List.getElem?_take_of_lt hj]
    have hc1 := hcell j (by omega)
    rw [List.getD_eq_getElem?_getD, hs'] at hc1
    exact ⟨a, rfl, Nat.zero_le _, by have := cell_lt hc1; rwa [block_add] at this, hc1⟩
end

theorem Tryz.cellsSigned : Tryz.prog.cellsOf 24 = 2 := by kernel_rfl
theorem Tryz.cellsInt1 : Tryz.prog.cellsOf 3 = 1 := by kernel_rfl
end Go.Proofs.YtofehcpapdlcnabGreatDoor

namespace Go.Proofs.YtofehcpapdlcnabGreatDoor
open Go.ChangeShapes Go.WideShapes Go.ChangeAt Go.RowKit Go.Joins

end Go.Proofs.YtofehcpapdlcnabGreatDoor

namespace Go.Proofs.YtofehcpapdlcnabGreatDoor
open Go.RowKit

/-- code, number, places, cash -/
abbrev CR : Type := ByteArray × ByteArray × Int × Int
def specT : List CR := [
  (⟨#[65, 85, 68]⟩, ⟨#[48, 51, 54]⟩, 2, 5),
  (⟨#[66, 72, 68]⟩, ⟨#[48, 52, 56]⟩, 3, 5),
  (⟨#[67, 65, 68]⟩, ⟨#[49, 50, 52]⟩, 2, 5),
  (⟨#[67, 72, 70]⟩, ⟨#[55, 53, 54]⟩, 2, 5),
  (⟨#[67, 76, 70]⟩, ⟨#[57, 57, 48]⟩, 4, 1),
  (⟨#[67, 90, 75]⟩, ⟨#[50, 48, 51]⟩, 2, 100),
  (⟨#[68, 75, 75]⟩, ⟨#[50, 48, 56]⟩, 2, 50),
  (⟨#[69, 85, 82]⟩, ⟨#[57, 55, 56]⟩, 2, 1),
  (⟨#[71, 66, 80]⟩, ⟨#[56, 50, 54]⟩, 2, 1),
  (⟨#[72, 85, 70]⟩, ⟨#[51, 52, 56]⟩, 2, 500),
  (⟨#[73, 83, 75]⟩, ⟨#[51, 53, 50]⟩, 0, 1),
  (⟨#[74, 80, 89]⟩, ⟨#[51, 57, 50]⟩, 0, 1),
  (⟨#[75, 82, 87]⟩, ⟨#[52, 49, 48]⟩, 0, 10),
  (⟨#[75, 87, 68]⟩, ⟨#[52, 49, 52]⟩, 3, 5),
  (⟨#[78, 79, 75]⟩, ⟨#[53, 55, 56]⟩, 2, 100),
  (⟨#[78, 90, 68]⟩, ⟨#[53, 53, 52]⟩, 2, 10),
  (⟨#[80, 76, 78]⟩, ⟨#[57, 56, 53]⟩, 2, 1),
  (⟨#[83, 69, 75]⟩, ⟨#[55, 53, 50]⟩, 2, 100),
  (⟨#[84, 78, 68]⟩, ⟨#[55, 56, 56]⟩, 3, 10),
  (⟨#[85, 83, 68]⟩, ⟨#[56, 52, 48]⟩, 2, 1)]
def implT : List CR := [
  (⟨#[67, 72, 70]⟩, ⟨#[55, 53, 54]⟩, 2, 5),
  (⟨#[69, 85, 82]⟩, ⟨#[57, 55, 56]⟩, 2, 1),
  (⟨#[85, 83, 68]⟩, ⟨#[56, 52, 48]⟩, 2, 1),
  (⟨#[71, 66, 80]⟩, ⟨#[56, 50, 54]⟩, 2, 1),
  (⟨#[74, 80, 89]⟩, ⟨#[51, 57, 50]⟩, 0, 1),
  (⟨#[83, 69, 75]⟩, ⟨#[55, 53, 50]⟩, 2, 100),
  (⟨#[78, 79, 75]⟩, ⟨#[53, 55, 56]⟩, 2, 100),
  (⟨#[68, 75, 75]⟩, ⟨#[50, 48, 56]⟩, 2, 50),
  (⟨#[67, 90, 75]⟩, ⟨#[50, 48, 51]⟩, 2, 100),
  (⟨#[72, 85, 70]⟩, ⟨#[51, 52, 56]⟩, 2, 500),
  (⟨#[80, 76, 78]⟩, ⟨#[57, 56, 53]⟩, 2, 1),
  (⟨#[67, 65, 68]⟩, ⟨#[49, 50, 52]⟩, 2, 5),
  (⟨#[65, 85, 68]⟩, ⟨#[48, 51, 54]⟩, 2, 5),
  (⟨#[78, 90, 68]⟩, ⟨#[53, 53, 52]⟩, 2, 10),
  (⟨#[75, 87, 68]⟩, ⟨#[52, 49, 52]⟩, 3, 5),
  (⟨#[66, 72, 68]⟩, ⟨#[48, 52, 56]⟩, 3, 5),
  (⟨#[84, 78, 68]⟩, ⟨#[55, 56, 56]⟩, 3, 10),
  (⟨#[73, 83, 75]⟩, ⟨#[51, 53, 50]⟩, 0, 1),
  (⟨#[75, 82, 87]⟩, ⟨#[52, 49, 48]⟩, 0, 10),
  (⟨#[67, 76, 70]⟩, ⟨#[57, 57, 48]⟩, 4, 1)]
def cellsC (r : CR) : List Value := [.string r.1, .string r.2.1, .int .i64 r.2.2.1, .int .i64 r.2.2.2]
def cellsT (l : List CR) : List Value := l.flatMap cellsC
def codesT (l : List CR) : List ByteArray := l.map (·.1)
theorem find_of_mem {α β : Type} [DecidableEq β] {f : α → β} : ∀ {l : List α}, (l.map f).Nodup → ∀ {r : α}, r ∈ l → l.find? (fun x => decide (f x = f r)) = some r
  | [], _, _, h => absurd h List.not_mem_nil
  | x :: l, hn, r, h => by
    rw [List.map_cons, List.nodup_cons] at hn
    rw [List.find?_cons]
    rcases List.mem_cons.1 h with rfl | h
    · simp
    · have : ¬ f x = f r := fun e => hn.1 (by rw [e]; exact List.mem_map_of_mem h)
      rw [decide_eq_false this]
      exact find_of_mem hn.2 h
theorem find_perm {α β : Type} [DecidableEq β] {f : α → β} {l m : List α} (hl : (l.map f).Nodup) (hm : (m.map f).Nodup) (h1 : ∀ x ∈ l, x ∈ m) (h2 : ∀ x ∈ m, x ∈ l) (b : β) :
    l.find? (fun x => decide (f x = b)) = m.find? (fun x => decide (f x = b)) := by
  cases h : l.find? (fun x => decide (f x = b)) with
  | some r =>
    have hr := List.mem_of_find?_eq_some h
    have hb : f r = b := by simpa using List.find?_some h
    subst hb
    exact (find_of_mem hm (h1 r hr)).symm
  | none =>
    cases k : m.find? (fun x => decide (f x = b)) with
    | none => rfl
    | some r =>
      have hr := List.mem_of_find?_eq_some k
      have hb : f r = b := by simpa using List.find?_some k
      subst hb
      rw [find_of_mem hl (h2 r hr)] at h
      cases h
theorem sub_of {l m : List CR} (h : (l.all fun x => m.any fun y => decide (x = y)) = true) : ∀ x ∈ l, x ∈ m := fun x hx => by
  have := List.all_eq_true.1 h x hx
  obtain ⟨y, hy, e⟩ := List.any_eq_true.1 this
  rw [of_decide_eq_true e]
  exact hy
set_option maxRecDepth 100000 in
theorem implT_sub : ∀ x ∈ implT, x ∈ specT := sub_of (by decide +kernel)
set_option maxRecDepth 100000 in
theorem specT_sub : ∀ x ∈ specT, x ∈ implT := sub_of (by decide +kernel)
set_option maxRecDepth 100000 in
theorem implT_codes : (implT.map fun r => r.1).Nodup := by decide +kernel
set_option maxRecDepth 100000 in
theorem specT_codes : (specT.map fun r => r.1).Nodup := by decide +kernel
theorem implT_len : implT.length = 20 := rfl
theorem take_next {l : List CR} {φ : CR → Prop} {k : Nat} (h : ∀ r ∈ l.take k, φ r) (hk : k < l.length) (hx : φ l[k]) : ∀ r ∈ l.take (k + 1), φ r := by
  intro r hr
  rw [List.take_succ_eq_append_getElem hk] at hr
  rcases List.mem_append.1 hr with hr | hr
  · exact h r hr
  · rw [List.mem_singleton.1 hr]
    exact hx
theorem bytes_neC {a b : ByteArray} (h : ¬ a = b) : (a.toList == b.toList) = false := by
  rw [beq_eq_false_iff_ne, ByteArray.toList_eq, ByteArray.toList_eq]
  exact fun e => h (WideShapes.bytes_inj e)
theorem cellsT_cons (r : CR) (l : List CR) : cellsT (r :: l) = cellsC r ++ cellsT l := by simp [cellsT]
theorem cellsT_get : ∀ (l : List CR) (k j : Nat) (hk : k < l.length), j < 4 → (cellsT l)[k * 4 + j]? = (cellsC l[k])[j]?
  | [], k, j, hk, _ => absurd hk (by simp)
  | r :: l, 0, j, _, hj => by
    rw [cellsT_cons, Nat.zero_mul, Nat.zero_add, List.getElem?_append_left (by simpa [cellsC] using hj)]
    rfl
  | r :: l, k + 1, j, hk, hj => by
    have e : (k + 1) * 4 + j = (cellsC r).length + (k * 4 + j) := by simp [cellsC]; omega
    rw [cellsT_cons, e, List.getElem?_append_right (by omega), Nat.add_sub_cancel_left, cellsT_get l k j (by simpa using hk) hj]
    rfl
end Go.Proofs.YtofehcpapdlcnabGreatDoor

namespace Go.Proofs.YtofehcpapdlcnabGreatDoor
open Go.RowKit

/-! ### look-ups by code -/
def zeroC : CR := (⟨#[]⟩, ⟨#[]⟩, 0, 0)
def rowOf (l : List CR) (s : ByteArray) : CR := match l.find? (fun r => decide (r.1 = s)) with
  | some r => r
  | none => zeroC
theorem rowOf_mem {l : List CR} (hn : (l.map fun r => r.1).Nodup) {r : CR} (h : r ∈ l) : rowOf l r.1 = r := by
  unfold rowOf
  rw [find_of_mem (f := fun r : CR => r.1) hn h]
theorem rowOf_none {l : List CR} {n : ByteArray} (h : ∀ r ∈ l, ¬ r.1 = n) : rowOf l n = zeroC := by
  unfold rowOf
  rw [List.find?_eq_none.2 fun r hr => by simpa using h r hr]
theorem rowOf_eq (n : ByteArray) : rowOf implT n = rowOf specT n := by
  unfold rowOf
  rw [find_perm (f := fun r : CR => r.1) implT_codes specT_codes implT_sub specT_sub n]
def knownC (s : ByteArray) : Bool := (codesT specT).any fun c => decide (c = s)
theorem specT_ne : ∀ r ∈ specT, ¬ r.1 = ⟨#[]⟩ := by
  have h : (specT.all fun r => decide (¬ r.1 = ⟨#[]⟩)) = true := by decide +kernel
  exact fun r hr => of_decide_eq_true (List.all_eq_true.1 h r hr)
theorem known_row {s : ByteArray} (h : knownC s = true) : ∃ r ∈ specT, r.1 = s ∧ rowOf specT s = r := by
  have h1 : s ∈ codesT specT := by
    obtain ⟨c, hc, e⟩ := List.any_eq_true.1 h
    rw [← of_decide_eq_true e]
    exact hc
  obtain ⟨r, hr, rfl⟩ := List.mem_map.1 h1
  exact ⟨r, hr, rfl, rowOf_mem specT_codes hr⟩
theorem not_known {s : ByteArray} (h : knownC s = false) : rowOf specT s = zeroC := by
  refine rowOf_none fun r hr e => ?_
  have h1 : knownC s = true := List.any_eq_true.2 ⟨r.1, List.mem_map_of_mem hr, decide_eq_true e⟩
  rw [h] at h1
  cases h1
/-- a row is found where its code is not empty -/
theorem known_ne (s : ByteArray) : decide (¬ (rowOf specT s).1 = ⟨#[]⟩) = knownC s := by
  cases h : knownC s with
  | true =>
    obtain ⟨r, hr, _, e⟩ := known_row h
    rw [e]
    exact decide_eq_true (specT_ne r hr)
  | false => rw [not_known h]; rfl
/-! ### amounts -/
abbrev MI : Type := ByteArray × SI
def szM (m : MI) : Int := m.1.size + szS m.2
/-- how many cells a mark of it takes -/
def mkM (m : MI) : Int := szS m.2
def okM (m : MI) : Bool := knownC m.1 && okS m.2 && decide (m.2.2.length ≤ 4)
end Go.Proofs.YtofehcpapdlcnabGreatDoor

namespace Go.Proofs.YtofehcpapdlcnabGreatDoor
open Go.RowKit

/-- a value that stands for it, its limbs of the call's own -/
def OwnM (v : Value) (q : MI) (w : World) : Prop := ∃ u, v = .agg #[.string q.1, .bool q.2.1, u] ∧ OwnI u q.2.2 w
def MarkM (v : Value) (q : MI) (m : Int) (w : World) : Prop := ∃ u, v = .agg #[.string q.1, .bool q.2.1, u] ∧ MarkI u q.2.2 m w
/-- a value that reads as it -/
def RdM (w : World) (v : Value) (q : MI) : Prop := ∃ u, v = .agg #[.string q.1, .bool q.2.1, u] ∧ Row w 0 w.heap.size u (intsV q.2.2)
theorem OwnM.rd {v : Value} {q : MI} {w : World} (h : OwnM v q w) : RdM w v q := by
  obtain ⟨u, rfl, o⟩ := h
  exact ⟨u, rfl, o.row⟩
theorem OwnM.mk {u : Value} {q : MI} {w : World} (h : OwnI u q.2.2 w) : OwnM (.agg #[.string q.1, .bool q.2.1, u]) q w := ⟨u, rfl, h⟩
theorem OwnM.below {w W : World} {v : Value} {q : MI} (h : OwnM v q w) (hb : Below w.heap.size w W) : OwnM v q W := by
  obtain ⟨u, rfl, o⟩ := h
  exact ⟨u, rfl, own_below o hb⟩
theorem RdM.below {w W : World} {v : Value} {q : MI} (h : RdM w v q) (hb : Below w.heap.size w W) : RdM W v q := by
  obtain ⟨u, rfl, o⟩ := h
  exact ⟨u, rfl, (o.below hb (Nat.le_refl _)).wide (Nat.le_refl _) hb.size⟩
def capM (q : MI) : Prop := q.1.size ≤ 9223372036854775807 ∧ q.2.2.length ≤ 9223372036854775807
theorem szM_nonneg (q : MI) : 0 ≤ szM q := by unfold szM szS szI; omega
theorem szM_len {q : MI} (h : szM q ≤ 1048576) : q.1.size ≤ 1048576 ∧ q.2.2.length ≤ 1048576 := by unfold szM szS szI at h; omega
theorem capM_of {q : MI} (h : szM q ≤ 1048576) : capM q := by have := szM_len h; unfold capM; omega
theorem mkM_range (q : MI) : 0 ≤ mkM q ∧ mkM q ≤ szM q := by unfold mkM szM szS szI; omega
theorem ownM_form {v : Value} {q : MI} {w : World} (h : OwnM v q w) : ∃ A c, v = .agg #[.string q.1, .bool q.2.1, .slice A q.2.2.length c] := by
  obtain ⟨u, rfl, o⟩ := h
  obtain ⟨A, c, rfl⟩ := own_len o
  exact ⟨A, c, rfl⟩
theorem rdM_form {v : Value} {q : MI} {w : World} (h : RdM w v q) : ∃ A c, v = .agg #[.string q.1, .bool q.2.1, .slice A q.2.2.length c] := by
  obtain ⟨u, rfl, o⟩ := h
  obtain ⟨A, c, rfl⟩ := row_form o
  rw [intsV_length]
  exact ⟨A, c, rfl⟩
theorem ownM_open {u c s : Value} {q : MI} {w : World} (h : OwnM (.agg #[c, s, u]) q w) : OwnI u q.2.2 w := by
  obtain ⟨u', e, hu⟩ := h
  injection e with e
  simp at e
  obtain ⟨_, _, e2⟩ := e
  subst e2
  exact hu
/-- a value whose blocks stay while others are written -/
theorem newV_chgM {φ : Value → World → Prop} {S T : List Nat} {v : Value} {w W : World} (o : At S (φ v) W) (hd : ∀ i ∈ S, i ∉ T) (hT : ∀ i ∈ T, w.heap.size ≤ i) (l : ∀ i ∈ S, w.heap.size ≤ i) (hW : Below w.heap.size w W) :
    ∀ W', Chg T W W' → NewV φ w (.returned v) W' :=
  fun _ hc => ⟨v, S, rfl, o.chg hc hd, fun i hi => ⟨l i hi, Nat.lt_of_lt_of_le (o.lt i hi) hc.size⟩, below_chg hW hc hW.size hT⟩
set_option maxHeartbeats 400000 in
set_option maxRecDepth 100000 in
theorem eqM_cal (u v : Value) (x y : MI) (w : World) (hz : capM x) (hu : RdM w u x) (hv : RdM w v y) : Calls Tryz.prog 30 #[u, v] w (Postb (decide (x = y)) w) := by
  obtain ⟨p, rfl, hp⟩ := hu
  obtain ⟨q, rfl, hq⟩ := hv
  obtain ⟨Ap, cp, rfl⟩ := row_form hp
  obtain ⟨Aq, cq, rfl⟩ := row_form hq
  simp only [intsV_length] at hp hq ⊢
  have hb : Below w.heap.size w ((w.alloc (.cells #[.string x.1, .bool x.2.1, .slice Ap x.2.2.length cp] 53)).alloc (.cells #[.string y.1, .bool y.2.1, .slice Aq y.2.2.length cq] 53)) := below_al (below_al (Below.refl _ _) _) _
  have kx := (box_new w #[.string x.1, .bool x.2.1, .slice Ap x.2.2.length cp] 53).below (below_al (Below.refl _ _) (.cells #[.string y.1, .bool y.2.1, .slice Aq y.2.2.length cq] 53))
  have ky := box_new (w.alloc (.cells #[.string x.1, .bool x.2.1, .slice Ap x.2.2.length cp] 53)) #[.string y.1, .bool y.2.1, .slice Aq y.2.2.length cq] 53
  rw [show (w.alloc (.cells #[.string x.1, .bool x.2.1, .slice Ap x.2.2.length cp] 53)).heap.size = w.heap.size + 1 by simp] at ky
  have cx0 := kx.here.cell 0 _ rfl
  have cx1 := kx.here.cell 1 _ rfl
  have cx2 := kx.here.cell 2 _ rfl
  have cy0 := ky.here.cell 0 _ rfl
  have cy1 := ky.here.cell 1 _ rfl
  have cy2 := ky.here.cell 2 _ rfl
  clear kx ky
  by_cases h1 : x.1 = y.1
  · have H1 := Lib.hid h1
    have HE := Lib.hid (eqSigned_at (.agg #[.bool x.2.1, .slice Ap x.2.2.length cp]) (.agg #[.bool y.2.1, .slice Aq y.2.2.length cq]) x.2 y.2 _ hz.2 (rdS_below hp hb) (rdS_below hq hb))
    have HB := Lib.hid hb
    rw [← h1] at cy0 HE HB
    clear h1 hp hq hb hz
    go_enter Tryz.func30, Tryz.ntmps30
    rw [← H1.out]
    go_wp2_with fail
    refine HE.out.mono ?_
    rintro e w1 ⟨rfl, b1⟩
    have bb1 := Lib.hid (Below.next HB.out b1)
    clear cx0 cx1 cx2 cy0 cy1 cy2 b1
    have HV := Lib.hid (show decide (x = y) = decide (x.2 = y.2) from decide_eq_decide.2 ⟨fun e => by rw [e], fun e => Prod.ext H1.out e⟩)
    by_cases h2 : x.2 = y.2
    · rw [decide_eq_true h2] at HV ⊢
      clear h2
      go_wp2
      go_ret
      exact ⟨ret_bool HV.out.symm, bb1.out⟩
    · rw [decide_eq_false h2] at HV ⊢
      clear h2
      go_wp2
      go_ret
      exact ⟨ret_bool HV.out.symm, bb1.out⟩
  · have hne := bytes_neC h1
    have hne2 : (x.1.toList != y.1.toList) = true := by rw [bne, hne]; rfl
    have HV := Lib.hid (show decide (x = y) = false from decide_eq_false (fun e => h1 (by rw [e])))
    clear h1
    go_enter Tryz.func30, Tryz.ntmps30
    go_wp2
    go_ret
    exact ⟨ret_bool HV.out.symm, hb⟩
set_option maxHeartbeats 400000 in
set_option maxRecDepth 100000 in
theorem szM_cal (v : Value) (x : MI) (left : Int) (w : World) (hl : capM x) (h0 : 0 ≤ left) (h1 : left ≤ 1048576) (h : RdM w v x) : Calls Tryz.prog 25 #[v, .int .i64 left] w (Postn (leftI left (szM x)) w) := by
  obtain ⟨p, rfl, hp⟩ := h
  obtain ⟨Ap, cp, rfl⟩ := row_form hp
  simp only [intsV_length] at hp ⊢
  have hb := below_al (Below.refl w.heap.size w) (.cells #[.string x.1, .bool x.2.1, .slice Ap x.2.2.length cp] 47)
  have kx := box_new w #[.string x.1, .bool x.2.1, .slice Ap x.2.2.length cp] 47
  have kx_c0 := kx.here.cell 0 _ rfl
  have kx_c1 := kx.here.cell 1 _ rfl
  have kx_c2 := kx.here.cell 2 _ rfl
  obtain ⟨hl1, hl2⟩ := hl
  by_cases hs : left - x.1.size < 0
  · have HV := Lib.hid (show leftI left (szM x) = -1 by unfold leftI szM szS szI; rw [if_pos (by omega)])
    have hw : IntKind.i64.wrap (left - (x.1.size : Int)) = left - x.1.size := IntWalk.i64_in _ (by omega)
    have hneg : decide (left - (x.1.size : Int) < 0) = true := decide_eq_true hs
    clear hs kx
    go_enter Tryz.func25, Tryz.ntmps25
    go_wp2
    go_ret
    exact ⟨ret_int HV.out.symm, hb⟩
  · obtain ⟨z0, hz0⟩ : ∃ z0 : Int, left - x.1.size = z0 := ⟨_, rfl⟩
    have hw : IntKind.i64.wrap (left - (x.1.size : Int)) = z0 := by rw [IntWalk.i64_in _ (by omega)]; exact hz0
    have hneg0 : decide (z0 < 0) = false := decide_eq_false (by omega)
    have HZ := Lib.hid (show 0 ≤ z0 ∧ z0 ≤ 1048576 by omega)
    have HLL := Lib.hid (show leftI left (szM x) = leftI z0 (szS x.2) by unfold leftI szM; rw [show left - ((x.1.size : Int) + szS x.2) = z0 - szS x.2 by omega])
    clear hs hz0
    go_enter Tryz.func25, Tryz.ntmps25
    go_wp2_with fail
    clear kx_c0 kx_c1 kx_c2 kx
    refine (szSigned_at _ x.2 z0 _ hl2 HZ.out.1 HZ.out.2 (rdS_below hp hb)).mono ?_
    rintro e w1 ⟨rfl, b1⟩
    have bb1 := Lib.hid (Below.next hb b1)
    have hq : leftI z0 (szS x.2) < 0 ∧ leftI z0 (szS x.2) = -1 ∨ ¬ leftI z0 (szS x.2) < 0 := by unfold leftI; split <;> omega
    generalize leftI z0 (szS x.2) = z at *
    clear hp hb b1 HZ
    rcases hq with ⟨h2, h3⟩ | h2
    · have hneg : decide (z < 0) = true := decide_eq_true h2
      have H3 := Lib.hid h3
      clear h2 h3
      go_wp2
      go_ret
      exact ⟨ret_int (H3.out.symm.trans HLL.out.symm), bb1.out⟩
    · have hneg : decide (z < 0) = false := decide_eq_false h2
      clear h2
      go_wp2
      go_ret
      exact ⟨ret_int HLL.out.symm, bb1.out⟩
set_option maxHeartbeats 1000000 in
set_option maxRecDepth 100000 in
theorem toM_new (v : Value) (x : MI) (w : World) (hz : szM x ≤ 1048576) (h : RdM w v x) : Calls Tryz.prog 27 #[v] w (NewV (fun u => OwnM u x) w) := by
  have hl := (szM_len hz).2
  obtain ⟨p, rfl, hp⟩ := h
  obtain ⟨Ap, cp, rfl⟩ := row_form hp
  simp only [intsV_length] at hp ⊢
  have h3 := alloc3 w (.cells #[.string x.1, .bool x.2.1, .slice Ap x.2.2.length cp] 47) (.cells #[.string ⟨#[]⟩, .bool false, .slice none 0 0] 53) (.cells #[.string x.1, .bool false, .slice none 0 0] 53)
  have hb3 := below3 w (.cells #[.string x.1, .bool x.2.1, .slice Ap x.2.2.length cp] 47) (.cells #[.string ⟨#[]⟩, .bool false, .slice none 0 0] 53) (.cells #[.string x.1, .bool false, .slice none 0 0] 53)
  obtain ⟨W0, hW0⟩ : ∃ W0, W0 = (((w.alloc (.cells #[.string x.1, .bool x.2.1, .slice Ap x.2.2.length cp] 47)).alloc (.cells #[.string ⟨#[]⟩, .bool false, .slice none 0 0] 53)).alloc (.cells #[.string x.1, .bool false, .slice none 0 0] 53)) := ⟨_, rfl⟩
  rw [← hW0] at h3 hb3
  have kb : At [w.heap.size] (BoxAt w.heap.size #[.string x.1, .bool x.2.1, .slice Ap x.2.2.length cp] 47) W0 := box_at h3.1
  have kr : At [w.heap.size + 1] (BoxAt (w.heap.size + 1) #[.string ⟨#[]⟩, .bool false, .slice none 0 0] 53) W0 := box_at h3.2.1
  have ko : At [w.heap.size + 1 + 1] (BoxAt (w.heap.size + 1 + 1) #[.string x.1, .bool false, .slice none 0 0] 53) W0 := box_at h3.2.2.1
  have hz0 : W0.heap.size = w.heap.size + 3 := h3.2.2.2
  have HW := Lib.hid hW0
  clear h3 hW0
  have cb0 := kb.here.cell 0 _ rfl
  have cb1 := kb.here.cell 1 _ rfl
  have cb2 := kb.here.cell 2 _ rfl
  go_enter Tryz.func27, Tryz.ntmps27
  go_wp2_with fail
  rw [← HW.out]
  refine (toSigned_at _ x.2 _ hl (rdS_below hp hb3)).mono ?_
  rintro e w1 ⟨u, rfl, o1, b1⟩
  obtain ⟨Au, cu, rfl⟩ := own_len o1
  have bb1 := Below.next hb3 b1
  replace kb := kb.below b1
  replace kr := kr.below b1
  replace ko := ko.below b1
  have HR := Lib.hid (newV_chgM (φ := fun u => OwnM u x) (v := .agg #[.string x.1, .bool x.2.1, .slice Au x.2.2.length cu]) (T := [w.heap.size + 1, w.heap.size + 1 + 1]) ((own_at' o1).imp fun _ h => (OwnM.mk h : OwnM _ x _)) (fun i hi hm => by have := own_within o1 i hi; simp at hm; omega) (fun i hi => by simp at hi; omega) (fun i hi => by have := own_within o1 i hi; omega) bb1)
  have co0 := ko.here.cell 0 _ rfl
  have co1 := ko.here.cell 1 _ rfl
  have co2 := ko.here.cell 2 _ rfl
  have fo0 := Lib.frozen_of_heap ko.here 0
  have fo1 := Lib.frozen_of_heap ko.here 1
  have fo2 := Lib.frozen_of_heap ko.here 2
  have cr0 := kr.here.cell 0 _ rfl
  have cr1 := kr.here.cell 1 _ rfl
  have cr2 := kr.here.cell 2 _ rfl
  have fr0 := Lib.frozen_of_heap kr.here 0
  have fr1 := Lib.frozen_of_heap kr.here 1
  have fr2 := Lib.frozen_of_heap kr.here 2
  clear kb kr ko o1 b1 bb1 hp cb0 cb1 cb2
  go_wp2
  refine bodyPost_ret (v := .agg #[.string x.1, .bool x.2.1, .slice Au x.2.2.length cu]) (by simp [results, Tryz.results27, go_sem, cr0, cr1, cr2]) rfl ?_
  refine HR.out _ ?_
  repeat (first | exact Chg.refl _ _ | refine Chg.setCell ?_ (by simp) _)
set_option maxHeartbeats 400000 in
set_option maxRecDepth 100000 in
theorem markM_cal (v : Value) (x : MI) (S : List Nat) (m : Int) (w : World) (hm : m + mkM x ≤ 9223372036854775807) (hm0 : 0 ≤ m) (h : At S (OwnM v x) w) :
    Calls Tryz.prog 31 #[v, .int .i64 m] w fun e w' => e = .returned (.int .i64 (m + mkM x)) ∧ At S (MarkM v x m) w' ∧ Chg S w w' := by
  obtain ⟨A, c, rfl⟩ := ownM_form h.here
  have hbx := below_al (Below.refl w.heap.size w) (.cells #[.string x.1, .bool x.2.1, .slice A x.2.2.length c] 53)
  have kx := box_new w #[.string x.1, .bool x.2.1, .slice A x.2.2.length c] 53
  have ax := (h.below hbx).imp (fun _ h => (OwnS.mk (ownM_open h) : OwnS (.agg #[.bool x.2.1, .slice A x.2.2.length c]) x.2 _))
  have kx_c0 := kx.here.cell 0 _ rfl
  have kx_c1 := kx.here.cell 1 _ rfl
  have kx_c2 := kx.here.cell 2 _ rfl
  have HZ := Lib.hid (show mkM x = szS x.2 from rfl)
  have HBX := Lib.hid hbx
  clear h kx
  go_enter Tryz.func31, Tryz.ntmps31
  go_wp2_with fail
  clear kx_c0 kx_c1 kx_c2
  refine (markSigned_at _ x.2 S m _ hm hm0 ax).mono ?_
  rintro e w1 ⟨rfl, mu, c1⟩
  have hall := Lib.hid (mu.imp (fun _ h => (show MarkM (.agg #[.string x.1, .bool x.2.1, .slice A x.2.2.length c]) x m _ from by
    obtain ⟨u', e1, hu'⟩ := h
    injection e1 with e1
    have e2 : u' = .slice A x.2.2.length c := by simpa using e1.symm
    rw [e2] at hu'
    exact ⟨_, rfl, hu'⟩)))
  have hchg := Lib.hid ((Chg.of_below HBX.out).trans c1 : Chg S w w1)
  clear mu c1
  go_wp2
  go_ret
  exact ⟨ret_int (by rw [HZ.out]), hall.out, hchg.out⟩
end Go.Proofs.YtofehcpapdlcnabGreatDoor

namespace Go.Proofs.YtofehcpapdlcnabGreatDoor
open Go.RowKit

/-- the four cells of a row, where the table lies -/
def RowCells (W : World) (g k : Nat) (r : CR) : Prop := W.cell? ⟨g, k * 4, none⟩ = some (.string r.1) ∧ W.cell? ⟨g, k * 4 + 1, none⟩ = some (.string r.2.1) ∧ W.cell? ⟨g, k * 4 + 2, none⟩ = some (.int .i64 r.2.2.1) ∧ W.cell? ⟨g, k * 4 + 3, none⟩ = some (.int .i64 r.2.2.2)
theorem rowCells_of {W : World} {g : Nat} {l : List CR} (h : W.rangeAt g 0 (cellsT l)) {k : Nat} (hk : k < l.length) : RowCells W g k l[k] := by
  have f : ∀ j (hj : j < 4) v, (cellsC l[k])[j]? = some v → W.cell? ⟨g, k * 4 + j, none⟩ = some v := fun j hj v hv => by
    have := h (k * 4 + j) v (by rw [cellsT_get l k j hk hj]; exact hv)
    rwa [Nat.zero_add] at this
  exact ⟨f 0 (by decide) _ rfl, f 1 (by decide) _ rfl, f 2 (by decide) _ rfl, f 3 (by decide) _ rfl⟩
theorem range_new (w : World) (l : List Value) (T : TypeId) : (w.alloc (.cells l.toArray T)).rangeAt w.heap.size 0 l := by
  intro j v hv
  have hb : (w.alloc (.cells l.toArray T)).heap[w.heap.size]? = some (.cells l.toArray T (0, 0)) := Array.getElem?_push_size
  rw [Nat.zero_add]
  unfold World.cell?
  simp only [hb]
  simpa using hv
theorem range_below {w W : World} {g : Nat} {l : List Value} (h : w.rangeAt g 0 l) (hg : g < w.heap.size) (hb : Below w.heap.size w W) : W.rangeAt g 0 l := fun j v hv => (hb.cell hg).trans (h j v hv)
def TabPost (w : World) (e : Ending) (w' : World) : Prop := e = .returned (.slice (some ⟨w.heap.size, 0, none⟩) 20 20) ∧ w' = w.alloc (.cells (cellsT specT).toArray 138)
set_option maxHeartbeats 1000000 in
set_option maxRecDepth 100000 in
theorem l08Table_any (w : World) : Calls Tryz.prog 159 #[] w (TabPost w) := by
  go_enter Tryz.func159, Tryz.ntmps159
  go_wp2
  go_ret
  exact ⟨rfl, rfl⟩
end Go.Proofs.YtofehcpapdlcnabGreatDoor

namespace Go.Proofs.YtofehcpapdlcnabGreatDoor
open Go.RowKit

def RowPost (r : CR) (w : World) (e : Ending) (w' : World) : Prop := e = .returned (.agg #[.string r.1, .string r.2.1, .int .i64 r.2.2.1, .int .i64 r.2.2.2]) ∧ Below w.heap.size w w'
theorem below_set4 {W0 W : World} {g : Nat} {a b c d : Value} (h : Below W0.heap.size W0 W) (hg : W0.heap.size ≤ g) : Below W0.heap.size W0 ((((W.setCell ⟨g, 0, none⟩ a).setCell ⟨g, 1, none⟩ b).setCell ⟨g, 2, none⟩ c).setCell ⟨g, 3, none⟩ d) :=
  (((h.setCell (p := ⟨g, 0, none⟩) hg _).setCell (p := ⟨g, 1, none⟩) hg _).setCell (p := ⟨g, 2, none⟩) hg _).setCell (p := ⟨g, 3, none⟩) hg _
set_option maxHeartbeats 1000000 in
set_option maxRecDepth 100000 in
theorem l08Find_any (n : ByteArray) (w : World) : Calls Tryz.prog 138 #[.string n] w (RowPost (rowOf specT n) w) := by
  have kr := box_new w #[.string ⟨#[]⟩, .string ⟨#[]⟩, .int .i64 0, .int .i64 0] 138
  have b0 := below_al (Below.refl w.heap.size w) (.cells #[.string ⟨#[]⟩, .string ⟨#[]⟩, .int .i64 0, .int .i64 0] 138)
  obtain ⟨W0, hW0⟩ : ∃ W0, W0 = w.alloc (.cells #[.string ⟨#[]⟩, .string ⟨#[]⟩, .int .i64 0, .int .i64 0] 138) := ⟨_, rfl⟩
  rw [← hW0] at kr b0
  have HW := Lib.hid hW0
  clear hW0
  go_enter Tryz.func138, Tryz.ntmps138
  go_wp2_with fail
  rw [← HW.out]
  refine (l08Table_any _).mono ?_
  rintro e w1 ⟨rfl, hw1⟩
  have b1 : Below W0.heap.size W0 w1 := by rw [hw1]; exact (Below.refl _ _).alloc (Nat.le_refl _) _
  have hr1 : w1.rangeAt W0.heap.size 0 (cellsT specT) := by rw [hw1]; exact range_new _ _ _
  have hg1 : W0.heap.size < w1.heap.size := by rw [hw1]; simp
  have HR := Lib.hid (show ∀ W, Below w1.heap.size w1 W → ∀ k (hk : k < 20), RowCells W W0.heap.size k (specT[k]'hk) from fun W hb k hk => rowCells_of (range_below hr1 hg1 hb) hk)
  have HK := Lib.hid (kr.below b1)
  have B1 := Lib.hid (Below.next b0 b1)
  generalize W0.heap.size = g at HR hg1
  clear hw1 hr1 b1 kr b0 HW
  go_wp2
  go_loopw [7] (fun i wr => ∃ k : Nat, k ≤ 20 ∧ i = .int .i64 k ∧ Hid (∀ r ∈ specT.take k, ¬ r.1 = n) ∧ Below w1.heap.size w1 wr) (fun i _ => 20 - (intOf i).toNat)
  case atStart => exact ⟨0, Nat.zero_le _, rfl, Lib.hid (fun r hr => absurd hr (by simp)), Below.refl _ _⟩
  case round =>
    obtain ⟨k, hk, rfl, hp, hb⟩ := hrel
    by_cases hlt : k < 20
    · have hix := HR.out wr hb k hlt
      have HM := Lib.hid (show specT[k] ∈ specT from List.getElem_mem _)
      have HN := Lib.hid (fun h => take_next hp.out (show k < specT.length from hlt) h)
      generalize specT[k] = r at hix HM HN
      obtain ⟨c, m, p, q⟩ := r
      obtain ⟨x0, x1, x2, x3⟩ := hix
      dsimp only at x0 x1 x2 x3
      have hal := below_al (Below.refl wr.heap.size wr) (.cells #[.string c, .string m, .int .i64 p, .int .i64 q] 138)
      by_cases he : c = n
      · subst he
        have hA := Lib.hid (rowOf_mem specT_codes HM.out)
        have ko := (HK.out.below hb).below hal
        have HB := Lib.hid (Below.next (Below.next B1.out hb) hal)
        have co0 := ko.here.cell 0 _ rfl
        have co1 := ko.here.cell 1 _ rfl
        have co2 := ko.here.cell 2 _ rfl
        have co3 := ko.here.cell 3 _ rfl
        have fo0 := Lib.frozen_of_heap ko.here 0
        have fo1 := Lib.frozen_of_heap ko.here 1
        have fo2 := Lib.frozen_of_heap ko.here 2
        have fo3 := Lib.frozen_of_heap ko.here 3
        clear HM HN hp ko hal
        go_wp2
        refine bodyPost_ret (v := .agg #[.string c, .string m, .int .i64 p, .int .i64 q]) (by simp [results, Tryz.results138, go_sem, co0, co1, co2, co3]) rfl ?_
        unfold RowPost
        rw [hA.out]
        exact ⟨rfl, below_set4 HB.out (Nat.le_refl _)⟩
      · have HN2 := Lib.hid (HN.out he)
        clear HM HN hp hal
        have hne := bytes_neC he
        go_wp2
        exact ⟨⟨k + 1, by omega, by go_num, HN2, hb.alloc (by have := hb.size; omega) _⟩, by simp [intOf]; omega⟩
    · obtain rfl : k = 20 := by omega
      have hA := Lib.hid (rowOf_none (l := specT) (n := n) (by rw [← List.take_of_length_le (l := specT) (i := 20) (by decide)]; exact hp.out))
      have ko := HK.out.below hb
      have HB := Lib.hid (Below.next B1.out hb)
      have co0 := ko.here.cell 0 _ rfl
      have co1 := ko.here.cell 1 _ rfl
      have co2 := ko.here.cell 2 _ rfl
      have co3 := ko.here.cell 3 _ rfl
      have fo0 := Lib.frozen_of_heap ko.here 0
      have fo1 := Lib.frozen_of_heap ko.here 1
      have fo2 := Lib.frozen_of_heap ko.here 2
      have fo3 := Lib.frozen_of_heap ko.here 3
      clear hp ko
      go_wp2
      refine bodyPost_ret (v := .agg #[.string ⟨#[]⟩, .string ⟨#[]⟩, .int .i64 0, .int .i64 0]) (by simp [results, Tryz.results138, go_sem, co0, co1, co2, co3]) rfl ?_
      unfold RowPost
      rw [hA.out]
      first | exact ⟨rfl, HB.out⟩ | exact ⟨rfl, below_set4 HB.out (Nat.le_refl _)⟩
theorem field_row0 (c m : ByteArray) (p q : Int) (W : World) : (Instr.field 138 (.agg #[.string c, .string m, .int .i64 p, .int .i64 q]) 0).run Tryz.prog W = .ok (.string c) W := by kernel_rfl
theorem empty_list : (⟨#[]⟩ : ByteArray).toList = [] := by rw [ByteArray.toList_eq]
theorem known_neq (n : ByteArray) : ((rowOf specT n).1.toList == ([] : List UInt8)) = !knownC n := by
  rw [← known_ne n]
  by_cases h : (rowOf specT n).1 = ⟨#[]⟩
  · rw [h, empty_list]; rfl
  · have h2 := bytes_neC h
    rw [empty_list] at h2
    rw [h2, decide_eq_true h]
    rfl
set_option maxHeartbeats 400000 in
set_option maxRecDepth 100000 in
theorem specCurKnown_any (n : ByteArray) (w : World) : Calls Tryz.prog 105 #[.string n] w (Postb (knownC n) w) := by
  go_enter Tryz.func105, Tryz.ntmps105
  go_wp2_with fail
  refine (l08Find_any n _).mono ?_
  rintro e w1 ⟨rfl, b1⟩
  have hk := known_neq n
  generalize rowOf specT n = r at *
  obtain ⟨c, m, p, q⟩ := r
  dsimp only at hk ⊢
  have hk2 : (c.toList != ([] : List UInt8)) = knownC n := by rw [bne, hk, Bool.not_not]
  generalize knownC n = b at *
  have hf := field_row0 c m p q
  go_wp2
  go_ret
  exact ⟨rfl, b1⟩
end Go.Proofs.YtofehcpapdlcnabGreatDoor

namespace Go.Proofs.YtofehcpapdlcnabGreatDoor
open Go.RowKit

set_option maxHeartbeats 1000000 in
set_option maxRecDepth 100000 in
theorem specMoneyOk_any (vm : Value) (m : MI) (w : World) (hl : m.2.2.length ≤ 1048576) (hm : OwnM vm m w) :
    Calls Tryz.prog 67 #[vm] w (Postb (okM m) w) := by
  have Hm := Lib.hid hm
  obtain ⟨Am, cm, rfl⟩ := ownM_form hm
  have OMm := Lib.hid (show ∀ W, Below w.heap.size w W → OwnM (.agg #[.string m.1, .bool m.2.1, .slice Am m.2.2.length cm]) m W from fun W hb => OwnM.below Hm.out hb)
  have OIm := Lib.hid (show ∀ W, Below w.heap.size w W → OwnI (.slice Am m.2.2.length cm) m.2.2 W from fun W hb => ownM_open (OMm.out W hb))
  have OSm := Lib.hid (show ∀ W, Below w.heap.size w W → OwnS (.agg #[.bool m.2.1, .slice Am m.2.2.length cm]) m.2 W from fun W hb => OwnS.mk (OIm.out W hb))
  clear hm
  have bb0 : Below w.heap.size w (w.alloc (.cells #[.string m.1, .bool m.2.1, .slice Am m.2.2.length cm] 53)) := below_al (Below.refl _ _) _
  have km := (box_new w #[.string m.1, .bool m.2.1, .slice Am m.2.2.length cm] 53)
  go_enter Tryz.func67, Tryz.ntmps67
  have km_c0 := km.here.cell 0 _ rfl
  have km_c1 := km.here.cell 1 _ rfl
  have km_c2 := km.here.cell 2 _ rfl
  go_wp2_with fail
  clear km_c0 km_c1 km_c2
  refine (specCurKnown_any m.1 _).mono ?_
  rintro e w1 ⟨rfl, b1⟩
  have bb1 := Below.next bb0 b1
  replace km := km.below b1
  by_cases ok0 : knownC m.1 = true
  · rw [ok0]
    have HO0 := Lib.hid ok0
    clear ok0
    have km_c0 := km.here.cell 0 _ rfl
    have km_c1 := km.here.cell 1 _ rfl
    have km_c2 := km.here.cell 2 _ rfl
    go_wp2_with fail
    clear km_c0 km_c1 km_c2
    refine (specIntOk_any _ m.2 _ hl (OwnS.rd (OSm.out _ bb1))).mono ?_
    rintro e w2 ⟨rfl, b2⟩
    have bb2 := Below.next bb1 b2
    replace km := km.below b2
    by_cases ok1 : okS m.2 = true
    · rw [ok1]
      have HO1 := Lib.hid ok1
      clear ok1
      have HV := Lib.hid (show okM m = decide ((m.2.2.length : Int) ≤ 4) by unfold okM; rw [HO0.out, HO1.out, Bool.true_and, Bool.true_and, decide_eq_decide]; omega)
      have km_c0 := km.here.cell 0 _ rfl
      have km_c1 := km.here.cell 1 _ rfl
      have km_c2 := km.here.cell 2 _ rfl
      clear hl
      go_wp2
      go_ret
      exact ⟨ret_bool HV.out.symm, bb2⟩
    · have ok1' : okS m.2 = false := by simpa using ok1
      have HV := Lib.hid (show okM m = false by unfold okM; rw [ok1', Bool.and_false, Bool.false_and])
      rw [ok1']
      clear ok1 ok1'
      go_wp2
      go_ret
      exact ⟨ret_bool HV.out.symm, bb2⟩
  · have ok0' : knownC m.1 = false := by simpa using ok0
    have HV := Lib.hid (show okM m = false by unfold okM; rw [ok0', Bool.false_and, Bool.false_and])
    rw [ok0']
    clear ok0 ok0'
    go_wp2
    go_ret
    exact ⟨ret_bool HV.out.symm, bb1⟩
end Go.Proofs.YtofehcpapdlcnabGreatDoor

namespace Go.Proofs.YtofehcpapdlcnabGreatDoor
open Go.RowKit

def CurTab (w : World) : Prop := w.var? Tryz.prog "loop.example/g00793/impl.currencies" = some (cellsT implT).toArray
theorem curNamed : Tryz.prog.globalNamed "loop.example/g00793/impl.currencies" = some 0 := by kernel_rfl
theorem CurTab.lt {w : World} (h : CurTab w) : 0 < w.heap.size := by
  unfold CurTab World.var? at h
  rw [curNamed] at h
  simp only [Option.bind_some] at h
  cases hh : w.heap[0]? with
  | none => rw [hh] at h; cases h
  | some o => exact (Array.getElem?_eq_some_iff.1 hh).1
theorem CurTab.below {w w' : World} (h : CurTab w) (hb : Below w.heap.size w w') : CurTab w' := by
  have hl := h.lt
  unfold CurTab World.var? at h ⊢
  rw [curNamed] at h ⊢
  simp only [Option.bind_some] at h ⊢
  rw [hb.block _ hl]
  exact h
theorem CurTab.range {w : World} (h : CurTab w) : w.rangeAt 0 0 (cellsT implT) := by
  intro j v hv
  rw [World.var?_cell curNamed h (0 + j), Nat.zero_add]
  simpa using hv
theorem curInfo : (Tryz.prog.info? 157).map (·.size) = some (cellsT implT).length := by kernel_rfl
set_option maxRecDepth 100000 in
theorem cur_index (k : Nat) (hk : k < 20) (w : World) : (Instr.index 157 (.agg (cellsT implT).toArray) (.int .i64 (k : Int))).run Tryz.prog w = .ok (.agg (cellsC (implT[k]'hk)).toArray) w := by
  have h : k = 0 ∨ k = 1 ∨ k = 2 ∨ k = 3 ∨ k = 4 ∨ k = 5 ∨ k = 6 ∨ k = 7 ∨ k = 8 ∨ k = 9 ∨ k = 10 ∨ k = 11 ∨ k = 12 ∨ k = 13 ∨ k = 14 ∨ k = 15 ∨ k = 16 ∨ k = 17 ∨ k = 18 ∨ k = 19 := by omega
  rcases h with h | h | h | h | h | h | h | h | h | h | h | h | h | h | h | h | h | h | h | h <;> (subst h; show _ = _; kernel_rfl)
end Go.Proofs.YtofehcpapdlcnabGreatDoor

namespace Go.Proofs.YtofehcpapdlcnabGreatDoor
open Go.RowKit

def RowPostb (r : CR) (b : Bool) (w : World) (e : Ending) (w' : World) : Prop := e = .returned (.tuple #[.agg #[.string r.1, .string r.2.1, .int .i64 r.2.2.1, .int .i64 r.2.2.2], .bool b]) ∧ Below w.heap.size w w'
theorem knownI {r : CR} (h : r ∈ implT) : knownC r.1 = true := List.any_eq_true.2 ⟨r.1, List.mem_map_of_mem (implT_sub r h), decide_eq_true rfl⟩
theorem knownI_none {n : ByteArray} (h : ∀ r ∈ implT, ¬ r.1 = n) : knownC n = false := by
  cases e : knownC n with
  | false => rfl
  | true =>
    obtain ⟨r, hr, he, _⟩ := known_row e
    exact absurd he (h r (specT_sub r hr))
set_option maxHeartbeats 1000000 in
set_option maxRecDepth 100000 in
theorem implFind_any (n : ByteArray) (w : World) (ht : CurTab w) : Calls Tryz.prog 139 #[.string n] w (RowPostb (rowOf specT n) (knownC n) w) := by
  have kr := box_new w #[.string ⟨#[]⟩, .string ⟨#[]⟩, .int .i64 0, .int .i64 0] 141
  have b0 := below_al (Below.refl w.heap.size w) (.cells #[.string ⟨#[]⟩, .string ⟨#[]⟩, .int .i64 0, .int .i64 0] 141)
  have HT := Lib.hid (ht.below b0)
  obtain ⟨W0, hW0⟩ : ∃ W0, W0 = w.alloc (.cells #[.string ⟨#[]⟩, .string ⟨#[]⟩, .int .i64 0, .int .i64 0] 141) := ⟨_, rfl⟩
  rw [← hW0] at kr b0 HT
  have HW := Lib.hid hW0
  have HI := Lib.hid cur_index
  have HK := Lib.hid kr
  have B1 := Lib.hid b0
  clear hW0 kr b0 ht
  go_enter Tryz.func139, Tryz.ntmps139
  go_wp2
  rw [← HW.out]
  refine wp_load_mid 157 _ (by rfl) 0 0 (by rfl) (cellsT implT) _ HT.out.range Tryz.underlying157 (by rfl) curInfo ?_
  generalize hTA : (cellsT implT).toArray = TA at *
  clear hTA HW
  go_wp2
  go_loopw [7] (fun i wr => ∃ k : Nat, k ≤ 20 ∧ i = .int .i64 k ∧ Hid (∀ r ∈ implT.take k, ¬ r.1 = n) ∧ Below W0.heap.size W0 wr) (fun i _ => 20 - (intOf i).toNat)
  case atStart => exact ⟨0, Nat.zero_le _, rfl, Lib.hid (fun r hr => absurd hr (by simp)), Below.refl _ _⟩
  case round =>
    obtain ⟨k, hk, rfl, hp, hb⟩ := hrel
    by_cases hlt : k < 20
    · have hix := HI.out k hlt
      have HM := Lib.hid (show implT[k] ∈ implT from List.getElem_mem _)
      have HN := Lib.hid (fun h => take_next hp.out (show k < implT.length from hlt) h)
      generalize implT[k] = r at hix HM HN
      obtain ⟨c, m, p, q⟩ := r
      simp only [cellsC] at hix
      have hal := below_al (Below.refl wr.heap.size wr) (.cells #[.string c, .string m, .int .i64 p, .int .i64 q] 141)
      by_cases he : c = n
      · subst he
        have hA := Lib.hid (show rowOf specT c = _ from (rowOf_eq c).symm.trans (rowOf_mem implT_codes HM.out))
        have hA2 := Lib.hid (knownI HM.out)
        have ko := (HK.out.below hb).below hal
        have HB := Lib.hid (Below.next (Below.next B1.out hb) hal)
        have co0 := ko.here.cell 0 _ rfl
        have co1 := ko.here.cell 1 _ rfl
        have co2 := ko.here.cell 2 _ rfl
        have co3 := ko.here.cell 3 _ rfl
        have fo0 := Lib.frozen_of_heap ko.here 0
        have fo1 := Lib.frozen_of_heap ko.here 1
        have fo2 := Lib.frozen_of_heap ko.here 2
        have fo3 := Lib.frozen_of_heap ko.here 3
        clear HM HN hp ko hal
        go_wp2
        refine bodyPost_ret (v := .tuple #[.agg #[.string c, .string m, .int .i64 p, .int .i64 q], .bool true]) (by simp [results, Tryz.results139, go_sem, co0, co1, co2, co3]) rfl ?_
        unfold RowPostb
        rw [hA.out, show knownC c = true from hA2.out]
        exact ⟨rfl, below_set4 HB.out (Nat.le_refl _)⟩
      · have HN2 := Lib.hid (HN.out he)
        clear HM HN hp hal
        have hne := bytes_neC he
        go_wp2
        exact ⟨⟨k + 1, by omega, by go_num, HN2, hb.alloc (by have := hb.size; omega) _⟩, by simp [intOf]; omega⟩
    · obtain rfl : k = 20 := by omega
      have hnone : ∀ r ∈ implT, ¬ r.1 = n := by rw [← List.take_of_length_le (l := implT) (i := 20) (by decide)]; exact hp.out
      have hA := Lib.hid (show rowOf specT n = zeroC from (rowOf_eq n).symm.trans (rowOf_none hnone))
      have hA2 := Lib.hid (knownI_none hnone)
      have ko := HK.out.below hb
      have HB := Lib.hid (Below.next B1.out hb)
      have co0 := ko.here.cell 0 _ rfl
      have co1 := ko.here.cell 1 _ rfl
      have co2 := ko.here.cell 2 _ rfl
      have co3 := ko.here.cell 3 _ rfl
      have fo0 := Lib.frozen_of_heap ko.here 0
      have fo1 := Lib.frozen_of_heap ko.here 1
      have fo2 := Lib.frozen_of_heap ko.here 2
      have fo3 := Lib.frozen_of_heap ko.here 3
      clear hp ko hnone
      go_wp2
      refine bodyPost_ret (v := .tuple #[.agg #[.string ⟨#[]⟩, .string ⟨#[]⟩, .int .i64 0, .int .i64 0], .bool false]) (by simp [results, Tryz.results139, go_sem, co0, co1, co2, co3]) rfl ?_
      unfold RowPostb
      rw [hA.out, hA2.out]
      first | exact ⟨rfl, HB.out⟩ | exact ⟨rfl, below_set4 HB.out (Nat.le_refl _)⟩
set_option maxHeartbeats 400000 in
set_option maxRecDepth 100000 in
theorem implCurKnown_any (n : ByteArray) (w : World) (ht : CurTab w) : Calls Tryz.prog 106 #[.string n] w fun e w' => e = .returned (.bool (knownC n)) ∧ Below w.heap.size w w' := by
  go_enter Tryz.func106, Tryz.ntmps106
  go_wp2_with fail
  refine (implFind_any n _ ht).mono ?_
  rintro e w1 ⟨rfl, b1⟩
  go_wp2
  go_ret
  exact ⟨rfl, below_al b1 _⟩
end Go.Proofs.YtofehcpapdlcnabGreatDoor

namespace Go.Proofs.YtofehcpapdlcnabGreatDoor
open Go.RowKit

set_option maxHeartbeats 1000000 in
set_option maxRecDepth 100000 in
theorem implMoneyOk_any (vm : Value) (m : MI) (w : World) (hl : m.2.2.length ≤ 1048576) (hm : OwnM vm m w) (ht : CurTab w) :
    Calls Tryz.prog 68 #[vm] w (Postb (okM m) w) := by
  have Hm := Lib.hid hm
  obtain ⟨Am, cm, rfl⟩ := ownM_form hm
  have OMm := Lib.hid (show ∀ W, Below w.heap.size w W → OwnM (.agg #[.string m.1, .bool m.2.1, .slice Am m.2.2.length cm]) m W from fun W hb => OwnM.below Hm.out hb)
  have OIm := Lib.hid (show ∀ W, Below w.heap.size w W → OwnI (.slice Am m.2.2.length cm) m.2.2 W from fun W hb => ownM_open (OMm.out W hb))
  have OSm := Lib.hid (show ∀ W, Below w.heap.size w W → OwnS (.agg #[.bool m.2.1, .slice Am m.2.2.length cm]) m.2 W from fun W hb => OwnS.mk (OIm.out W hb))
  clear hm
  have HT := Lib.hid ht
  clear ht
  have bb0 : Below w.heap.size w (w.alloc (.cells #[.string m.1, .bool m.2.1, .slice Am m.2.2.length cm] 53)) := below_al (Below.refl _ _) _
  have km := (box_new w #[.string m.1, .bool m.2.1, .slice Am m.2.2.length cm] 53)
  go_enter Tryz.func68, Tryz.ntmps68
  have km_c0 := km.here.cell 0 _ rfl
  have km_c1 := km.here.cell 1 _ rfl
  have km_c2 := km.here.cell 2 _ rfl
  go_wp2_with fail
  clear km_c0 km_c1 km_c2
  refine (implCurKnown_any m.1 _ (HT.out.below bb0)).mono ?_
  rintro e w1 ⟨rfl, b1⟩
  have bb1 := Below.next bb0 b1
  replace km := km.below b1
  by_cases ok0 : knownC m.1 = true
  · rw [ok0]
    have HO0 := Lib.hid ok0
    clear ok0
    have km_c0 := km.here.cell 0 _ rfl
    have km_c1 := km.here.cell 1 _ rfl
    have km_c2 := km.here.cell 2 _ rfl
    go_wp2_with fail
    clear km_c0 km_c1 km_c2
    refine (implIntOk_any _ m.2 _ hl (OwnS.rd (OSm.out _ bb1))).mono ?_
    rintro e w2 ⟨rfl, b2⟩
    have bb2 := Below.next bb1 b2
    replace km := km.below b2
    by_cases ok1 : okS m.2 = true
    · rw [ok1]
      have HO1 := Lib.hid ok1
      clear ok1
      have HV := Lib.hid (show okM m = decide ((m.2.2.length : Int) ≤ 4) by unfold okM; rw [HO0.out, HO1.out, Bool.true_and, Bool.true_and, decide_eq_decide]; omega)
      have km_c0 := km.here.cell 0 _ rfl
      have km_c1 := km.here.cell 1 _ rfl
      have km_c2 := km.here.cell 2 _ rfl
      clear hl
      go_wp2
      go_ret
      exact ⟨ret_bool HV.out.symm, bb2⟩
    · have ok1' : okS m.2 = false := by simpa using ok1
      have HV := Lib.hid (show okM m = false by unfold okM; rw [ok1', Bool.and_false, Bool.false_and])
      rw [ok1']
      clear ok1 ok1'
      go_wp2
      go_ret
      exact ⟨ret_bool HV.out.symm, bb2⟩
  · have ok0' : knownC m.1 = false := by simpa using ok0
    have HV := Lib.hid (show okM m = false by unfold okM; rw [ok0', Bool.false_and, Bool.false_and])
    rw [ok0']
    clear ok0 ok0'
    go_wp2
    go_ret
    exact ⟨ret_bool HV.out.symm, bb1⟩
end Go.Proofs.YtofehcpapdlcnabGreatDoor

namespace Go.Proofs.YtofehcpapdlcnabGreatDoor
open Go.ChangeShapes Go.WideShapes Go.ChangeAt Go.RowKit Go.Joins

theorem Tryz.cellsMoney : Tryz.prog.cellsOf 47 = 3 := by kernel_rfl
/-- three cells that read as an amount -/
theorem money_cells {H : Type} {enc : TypeId × Value → H} {W : World} {fuel : Nat} {c0 c1 c2 : Value} {y : DataW H × List MemPlace}
    (hf : DataW.trod enc Tryz.prog W 0 (fun _ => true) true fuel 47 [c0, c1, c2] = some y) :
    ∃ x : MI, ∃ u, c0 = .string x.1 ∧ c1 = .bool x.2.1 ∧ c2 = u ∧ Row W 0 W.heap.size u (intsV x.2.2) ∧ x.1.size ≤ maxLen ∧ x.2.2.length ≤ maxLen := by
  obtain ⟨y0, y1, n, hx, _, h0, h1⟩ := trod_struct2 Tryz.underlying47 hf
  have k0 : Tryz.prog.cellsOf 24 = 2 := Tryz.cellsSigned
  have k1 : Tryz.prog.cellsOf 22 = 1 := by kernel_rfl
  have k2 : Tryz.prog.cellsOf 9 = 1 := by kernel_rfl
  have kb : Tryz.prog.cellsOf 4 = 1 := by kernel_rfl
  simp only [k0, k2, List.drop_zero, List.take_succ_cons, List.take_zero, List.drop_succ_cons] at h0 h1
  obtain ⟨z0, z1, m, _, _, g0, g1⟩ := trod_struct2 Tryz.underlying24 h1
  simp only [kb, k1, List.drop_zero, List.take_succ_cons, List.take_zero, List.drop_succ_cons] at g0 g1
  obtain ⟨s, e2, _, hs⟩ := DataW.trod_string Tryz.underlying9 h0
  obtain ⟨b, e0, _⟩ := DataW.trod_bool Tryz.underlying4 g0
  obtain ⟨a1, l1, cc1, e1⟩ := slice_form Tryz.underlying22 g1
  simp at e0 e1 e2
  subst e0 e1 e2
  obtain ⟨xs, hr, hl⟩ := cell_ints Tryz.underlying22 Tryz.underlying3 Tryz.cellsInt1 g1
  exact ⟨(s, (b, xs)), _, rfl, rfl, rfl, hr, hs, hl⟩
set_option maxHeartbeats 400000 in
set_option maxRecDepth 100000 in
theorem arg_money {H : Type} {enc : TypeId × Value → H} {W : World} {base : Nat} {v : Value} {d : DataW H} {p : List MemPlace}
    (hv : Value.okWide Tryz.prog W .any base 47 v) (h : DataW.Trod enc Tryz.prog W 0 (fun _ => true) true 47 v d p) : ∃ x : MI, RdM W v x ∧ x.1.size ≤ maxLen ∧ x.2.2.length ≤ maxLen := by
  obtain ⟨cs, rfl, hsz⟩ := okWide_struct Tryz.underlying47 hv
  obtain ⟨c0, c1, c2, rfl⟩ := array3 (hsz.trans Tryz.cellsMoney)
  obtain ⟨fuel, hf⟩ := h
  obtain ⟨x, u, rfl, rfl, rfl, hr, h1, h2⟩ := money_cells (by simpa [Value.cells] using hf)
  exact ⟨x, ⟨_, rfl, hr⟩, h1, h2⟩
end Go.Proofs.YtofehcpapdlcnabGreatDoor

namespace Go.Proofs.YtofehcpapdlcnabGreatDoor
open Go.ChangeShapes Go.WideShapes Go.ChangeAt Go.RowKit

theorem trodVars_length {H : Type} {enc : TypeId × Value → H} {P : Program} {w : World} {sp : Nat → Bool} : ∀ {ns : List String} {gs : List (DataW H)} {ps : List MemPlace}, DataW.TrodVars enc P w sp ns gs ps → gs.length = ns.length
  | [], [], _, _ => rfl
  | [], _ :: _, _, h => h.elim
  | _ :: _, [], _, h => h.elim
  | _ :: _, _ :: _, _, h => by
    obtain ⟨_, _, _, _, _, q, _, _, _, _, h5, _⟩ := h
    simp [trodVars_length h5]

/-- the post of a law that names variables -/
theorem law_postV {H : Type} {enc : TypeId × Value → H} {f : Func} {s : ChangeSpec} {tb : TypeId} {W W' : World} {args : Array Value} {ds gs : List (DataW H)} {before : List MemPlace}
    (hr : legible Tryz.prog f.params.toList = true) (hty : f.resultTypes = #[tb]) (htb : Tryz.prog.underlying tb = some .bool) (hv : varsRowed Tryz.prog s.vars = true)
    (hfn : ∀ gs : List (DataW H), gs.length = s.vars.length → s.fn H (ds ++ gs) = { results := [.lit (.bool true)], args := ds, vars := gs })
    (hW : DataW.Whole enc Tryz.prog f.params.toList s.vars false W args.toList ds gs before) (hb : Below W.heap.size W W') :
    s.post enc Tryz.prog f false true false false W args (.bool true) W' := by
  have hW' := hW
  obtain ⟨p, q, hA, hV, rfl, _, _⟩ := hW
  have hlt : ∀ x ∈ p, x.block < W.heap.size := fun x hx => hW'.lt x (by simp [hx])
  have e := hfn gs (trodVars_length hV)
  refine ⟨ds, gs, _, [], p, q, hW', ?_, ?_, ?_, hb.frame _, fun h => by cases h⟩
  · rw [e, hty]
    exact trodAll_mk1 (shut_bool htb _)
  · rw [e]
    exact args_below Tryz.laidOut hb hr hA hlt
  · rw [e]
    exact Below.trodVars Tryz.laidOut hb hv hV

set_option maxRecDepth 100000 in
/-- from the walk at every argument, the listed variables at hand, to the lifted row -/
theorem law_lifted_vars {H : Type} {enc : TypeId × Value → H} {os : Os} (started : os.Started) {F : Stop.Interp} {f : FuncId} {fn : Func} {s : ChangeSpec} {conds : List PathCond} {tb : TypeId} {laidL : List (String × DataW Unit)}
    (noInit : Tryz.prog.inits.idxOf? f = none) (hfun : Tryz.prog.funcs[f]? = some fn)
    (hr : legible Tryz.prog fn.params.toList = true) (hty : fn.resultTypes = #[tb]) (htb : Tryz.prog.underlying tb = some .bool) (hv : varsRowed Tryz.prog s.vars = true)
    (witness : ∃ (w : World) (tape : Tape) (i : Input), w.os = os ∧ (w.forCall tape i).Shaped Tryz.checked.prog ∧ i.vars = [] ∧ Input.okWide Tryz.checked.prog (w.forCall tape i) .any w.heap.size f i ∧
      (OpenSpec.ofChange s).preRow enc Tryz.checked.prog fn conds false laidL (w.forCall tape i).memory i.args ∧ Assume.holds {} Tryz.checked.prog (lone (Frame.enter Tryz.checked.prog f i.args .normal) [] (w.forCall tape i)))
    (walk : ∀ (W : World) (base : Nat) (args : Array Value) (ds : List (DataW H)) (p : List MemPlace),
      (∀ (j : Nat) t v, fn.params[j]? = some t → args[j]? = some v → Value.okWide Tryz.prog W .any base t v) →
      DataW.TrodAll enc Tryz.prog W 0 (fun _ => true) true fn.params.toList args.toList ds p → (∀ x ∈ p, x.block < W.heap.size) → laidMetH Tryz.prog laidL W →
      (∀ gs : List (DataW H), gs.length = s.vars.length → s.fn H (ds ++ gs) = { results := [.lit (.bool true)], args := ds, vars := gs }) ∧ Calls Tryz.prog f args W fun e W' => e = .returned (.bool true) ∧ Below W.heap.size W W') :
    ReturnsInHanded {} Tryz.checked os f .any ((OpenSpec.ofChange s).preRow enc Tryz.prog fn conds false laidL) (((OpenSpec.ofChange s).at F).post enc Tryz.prog fn false true false false) := by
  refine returnsInHanded_of_row (C := Tryz.checked) (s := OpenSpec.ofChange s) Tryz.own started noInit hfun witness ?_
  intro W base args ds gs before hval hW0 _ _ _ hL _ _
  have hW : DataW.Whole enc Tryz.prog fn.params.toList s.vars false W args.toList ds gs before := hW0
  have hW' := hW
  obtain ⟨p, q, hA, hV, rfl, _, _⟩ := hW
  obtain ⟨hfn, hc⟩ := walk W base args ds p hval hA (fun x hx => hW'.lt x (by simp [hx])) hL
  refine hc.mono fun e W' ⟨he, hb⟩ => ?_
  subst he
  exact ⟨_, rfl, law_postV hr hty htb hv hfn hW' hb⟩
end Go.Proofs.YtofehcpapdlcnabGreatDoor

namespace Go.Proofs.YtofehcpapdlcnabGreatDoor
open Go.ChangeShapes Go.WideShapes Go.ChangeAt Go.RowKit

def dataC (r : CR) : DataW Unit := .agg [.lit (.string r.1.data.toList), .lit (.string r.2.1.data.toList), .lit (.int .i64 r.2.2.1), .lit (.int .i64 r.2.2.2)]
theorem curData : (Rows.laid_loop_example_g00793_impl_currencies : DataW Unit) = .agg (implT.map dataC) := by kernel_rfl
theorem curType : (Tryz.prog.globals[0]?).map (·.type) = some 157 := by kernel_rfl
theorem curCells : Tryz.prog.cellsOf 157 = 80 := by kernel_rfl
theorem rowCells : Tryz.prog.cellsOf 141 = 4 := by kernel_rfl
theorem strCellsC : Tryz.prog.cellsOf 9 = 1 := by kernel_rfl
theorem intCellsC : Tryz.prog.cellsOf 3 = 1 := by kernel_rfl
theorem data_inj {a b : ByteArray} (h : a.data.toList = b.data.toList) : a = b := by
  cases a with
  | mk x =>
    cases b with
    | mk y => exact congrArg ByteArray.mk (Array.toList_inj.1 h)
set_option maxHeartbeats 400000 in
set_option maxRecDepth 100000 in
theorem row_read {fuel : Nat} {W : World} {cs : List Value} {r : CR} {p : List MemPlace}
    (h : DataW.trod (fun _ => ()) Tryz.prog W 0 (fun _ => true) false fuel 141 cs = some (dataC r, p)) : cs = cellsC r := by
  obtain ⟨xs, n, rfl, hx, hl, hxl, hall⟩ := DataW.trod_struct Tryz.underlying141 h
  rw [rowCells] at hl
  have h0 : DataW.trod (fun _ => ()) Tryz.prog W 0 (fun _ => true) false n 9 ((cs.drop 0).take (Tryz.prog.cellsOf 9)) = xs[0]? := hall 0 _ rfl
  have h1 : DataW.trod (fun _ => ()) Tryz.prog W 0 (fun _ => true) false n 9 ((cs.drop 1).take (Tryz.prog.cellsOf 9)) = xs[1]? := hall 1 _ rfl
  have h2 : DataW.trod (fun _ => ()) Tryz.prog W 0 (fun _ => true) false n 3 ((cs.drop 2).take (Tryz.prog.cellsOf 3)) = xs[2]? := hall 2 _ rfl
  have h3 : DataW.trod (fun _ => ()) Tryz.prog W 0 (fun _ => true) false n 3 ((cs.drop 3).take (Tryz.prog.cellsOf 3)) = xs[3]? := hall 3 _ rfl
  rw [strCellsC] at h0 h1
  rw [intCellsC] at h2 h3
  match cs, hl with
  | [c0, c1, c2, c3], _ =>
    match xs, hxl with
    | [x0, x1, x2, x3], _ =>
      obtain ⟨s0, e0, k0, _⟩ := DataW.trod_string Tryz.underlying9 h0
      obtain ⟨s1, e1, k1, _⟩ := DataW.trod_string Tryz.underlying9 h1
      obtain ⟨n2, e2, k2, _⟩ := DataW.trod_int Tryz.underlying3 h2
      obtain ⟨n3, e3, k3, _⟩ := DataW.trod_int Tryz.underlying3 h3
      simp at e0 e1 e2 e3
      subst e0 e1 e2 e3 k0 k1 k2 k3
      have hx1 := congrArg Prod.fst hx
      simp only [dataC, List.map_cons, List.map_nil, DataW.agg.injEq, List.cons.injEq, DataW.lit.injEq, Lit.string.injEq, Lit.int.injEq, true_and, and_true] at hx1
      obtain ⟨y0, y1, y2, y3⟩ := hx1
      unfold cellsC
      rw [data_inj y0, data_inj y1, y2, y3]
theorem cellsT_length : ∀ l : List CR, (cellsT l).length = l.length * 4
  | [] => rfl
  | r :: l => by
    rw [show cellsT (r :: l) = cellsC r ++ cellsT l by simp [cellsT], List.length_append, cellsT_length l]
    simp [cellsC]
    omega
theorem curTab_of {l : List (String × DataW Unit)} {W : World} (h : laidMet Tryz.prog l W) (hm : ("loop.example/g00793/impl.currencies", (Rows.laid_loop_example_g00793_impl_currencies : DataW Unit)) ∈ l) : CurTab W := by
  obtain ⟨g, t, cs, fuel, p, hg, ht, hvar, hd⟩ := Lib.laidMet.reads h hm
  obtain rfl := Option.some.inj (curNamed.symm.trans hg)
  obtain rfl := Option.some.inj (curType.symm.trans ht)
  rw [curData] at hd
  unfold CurTab
  rw [hvar]
  have hlen : cs.toList.length = 80 := by
    cases fuel with
    | zero => simp [DataW.trod] at hd
    | succ fuel =>
      simp only [DataW.trod, Tryz.underlying157, curCells] at hd
      split at hd
      · assumption
      · cases hd
  have hrow : ∀ i (hi : i < implT.length), (cs.toList.drop (i * 4)).take 4 = cellsC implT[i] := fun i hi => by
    obtain ⟨fuel', d, q, hdi, he⟩ := Lib.array_elem Tryz.underlying157 hd i hi
    rw [List.getElem?_map, List.getElem?_eq_getElem hi] at hdi
    obtain rfl := Option.some.inj hdi
    rw [rowCells] at he
    exact row_read he
  congr 1
  apply Array.toList_inj.1
  apply List.ext_getElem?
  intro m
  by_cases hlt : m < 80
  · have hi : m / 4 < implT.length := by rw [implT_len]; omega
    have e := congrArg (·[m % 4]?) (hrow (m / 4) hi)
    have hj : m % 4 < 4 := Nat.mod_lt _ (by decide)
    simp only [List.getElem?_take, List.getElem?_drop, hj, if_true] at e
    rw [← cellsT_get implT (m / 4) (m % 4) hi hj, show m / 4 * 4 + m % 4 = m by omega] at e
    simpa using e
  · rw [List.getElem?_eq_none (by omega), List.getElem?_eq_none (by simp [cellsT_length, implT_len]; omega)]
end Go.Proofs.YtofehcpapdlcnabGreatDoor

namespace Go.Proofs.YtofehcpapdlcnabGreatDoor
open Go.ChangeShapes Go.WideShapes Go.ChangeAt Go.RowKit

def putC (cs : Array Value) : Obj → Obj
  | .cells _ t frozen => .cells cs t frozen
  | o => o
end Go.Proofs.YtofehcpapdlcnabGreatDoor

namespace Go.Proofs.YtofehcpapdlcnabGreatDoor
open Go.ChangeShapes Go.WideShapes Go.ChangeAt Go.RowKit

theorem senNamed : Tryz.prog.globalNamed "loop.example/g00793/impl.errZeroDivisor" = some 1 := by kernel_rfl
theorem senType : (Tryz.prog.globals[1]?).map (·.type) = some 159 := by kernel_rfl
theorem senCells : Tryz.prog.cellsOf 210 = 1 := by kernel_rfl
theorem strCells : Tryz.prog.cellsOf 9 = 1 := by kernel_rfl
theorem senStar : "*" ++ "errors.errorString" = "*errors.errorString" := by decide
theorem senRow (u : TypeId) (h : Tryz.prog.typeName? 3 u = some "*errors.errorString") : u = 186 :=
  typeName_ptr_named (nm := "errors.errorString") (by rw [senStar]; kernel_rfl) (by kernel_rfl) (by decide) u (by rw [senStar]; exact h)
/-- what the sentinel reads as -/
def senText : List UInt8 := [100, 105, 118, 105, 115, 105, 111, 110, 32, 98, 121, 32, 122, 101, 114, 111]
theorem senData : (Rows.laid_loop_example_g00793_impl_errZeroDivisor : DataW Unit) = .iface "*errors.errorString" (.ptr (.agg [.lit (.string senText)])) := by kernel_rfl
/-- the variable's value -/
def SenAt (a : Addr) (w : World) : Prop := w.var? Tryz.prog "loop.example/g00793/impl.errZeroDivisor" = some #[.iface 186 (.pointer (some a))]
theorem SenAt.sen {a : Addr} {w : World} (h : SenAt a w) : Sen w := ⟨a, by simpa using World.var?_cell senNamed h 0⟩
theorem sen_of {r : List (String × DataW Unit)} {W : World} (h : laidMet Tryz.prog (("loop.example/g00793/impl.errZeroDivisor", Rows.laid_loop_example_g00793_impl_errZeroDivisor) :: r) W) : ∃ a, SenAt a W := by
  rw [senData] at h
  obtain ⟨a, s, hv, _⟩ := laid_sentinel h senNamed senType Tryz.underlying159 senRow Tryz.underlying186 Tryz.underlying210 rfl rfl Tryz.underlying9 senCells strCells
  exact ⟨a, hv⟩
theorem SenAt.below {a : Addr} {w w' : World} (h : SenAt a w) (hb : Below w.heap.size w w') : SenAt a w' := by
  obtain ⟨_, hc⟩ := h.sen
  have hl := cell_lt hc
  unfold SenAt World.var? at h ⊢
  rw [senNamed] at h ⊢
  simp only [Option.bind_some] at h ⊢
  rw [hb.block _ hl]
  exact h

/-- a world for the witness: the settled one, the listed variable holding what its initialiser lays -/
def putSen (cs : Array Value) : Obj → Obj
  | .cells _ t frozen => .cells cs t frozen
  | o => o
noncomputable def low : Nat := (World.holding Tryz.prog default ⟨#[], #[], []⟩).heap.size
noncomputable def senWorld (os : Os) : World :=
  let w0 := World.holding Tryz.prog os ⟨#[.cells #[.string ⟨senText.toArray⟩] 210], #[], []⟩
  { w0 with heap := w0.heap.modify 1 (putSen #[.iface 186 (.pointer (some ⟨low, 0, none⟩))]) }

end Go.Proofs.YtofehcpapdlcnabGreatDoor

namespace Go.Proofs.YtofehcpapdlcnabGreatDoor
open Go.ChangeShapes Go.WideShapes Go.ChangeAt Go.RowKit

noncomputable def curSenWorld (os : Os) : World :=
  { senWorld os with heap := (senWorld os).heap.modify 0 (putC (cellsT implT).toArray) }
end Go.Proofs.YtofehcpapdlcnabGreatDoor

namespace Go.Proofs.YtofehcpapdlcnabGreatDoor
open Go.RowKit

/-- a slice that reads as these amounts: an element three cells: its currency, its sign, the slice of its limbs -/
def RdML (w : World) (v : Value) (l : List MI) : Prop :=
  ∃ A c, v = .slice A l.length c ∧ ∀ (j : Nat) x, l[j]? = some x → ∃ a u, A = some a ∧ a.block < w.heap.size ∧ w.cell? (a.add (j * 3)) = some (.string x.1) ∧ w.cell? ⟨(a.add (j * 3)).block, (a.add (j * 3)).off + 1, none⟩ = some (.bool x.2.1) ∧ w.cell? ⟨(a.add (j * 3)).block, (a.add (j * 3)).off + 2, none⟩ = some u ∧ Row w 0 w.heap.size u (intsV x.2.2)
theorem cell_keep3 {w w' : World} {a : Addr} (hb : Below w.heap.size w w') (h : a.block < w.heap.size) (j i : Nat) : w'.cell? ⟨(a.add (j * 3)).block, (a.add (j * 3)).off + i, none⟩ = w.cell? ⟨(a.add (j * 3)).block, (a.add (j * 3)).off + i, none⟩ :=
  hb.cell (by show (a.add (j * 3)).block < _; rw [block_add]; exact h)
theorem cell_keep3' {w w' : World} {a : Addr} (hb : Below w.heap.size w w') (h : a.block < w.heap.size) (j : Nat) : w'.cell? (a.add (j * 3)) = w.cell? (a.add (j * 3)) := hb.cell (by rw [block_add]; exact h)
theorem RdML.below {w w' : World} {v : Value} {l : List MI} (h : RdML w v l) (hb : Below w.heap.size w w') : RdML w' v l := by
  obtain ⟨A, c, rfl, h⟩ := h
  refine ⟨A, c, rfl, fun j x hj => ?_⟩
  obtain ⟨a, u, rfl, h1, h2, h3, h4, h5⟩ := h j x hj
  exact ⟨a, u, rfl, Nat.lt_of_lt_of_le h1 hb.size, (cell_keep3' hb h1 j).trans h2, (cell_keep3 hb h1 j 1).trans h3, (cell_keep3 hb h1 j 2).trans h4, (h5.below hb (Nat.le_refl _)).wide (Nat.le_refl _) hb.size⟩
theorem add_ownM (g m : Nat) : (⟨g, 0, none⟩ : Addr).add m = ⟨g, m, none⟩ := by
  unfold Addr.add
  split
  · rename_i h; rw [h]
  · simp
/-- the cells of such a slice -/
def flatM : List (ByteArray × Bool × Value) → List Value
  | [] => []
  | p :: r => .string p.1 :: .bool p.2.1 :: p.2.2 :: flatM r
theorem flatM_append (e f : List (ByteArray × Bool × Value)) : flatM (e ++ f) = flatM e ++ flatM f := by
  induction e with
  | nil => rfl
  | cons p r ih => show _ :: _ :: _ :: flatM (r ++ f) = _; rw [ih]; rfl
theorem flatM_get {e : List (ByteArray × Bool × Value)} {j : Nat} {p : ByteArray × Bool × Value} (h : e[j]? = some p) : (flatM e)[j * 3]? = some (.string p.1) ∧ (flatM e)[j * 3 + 1]? = some (.bool p.2.1) ∧ (flatM e)[j * 3 + 2]? = some p.2.2 := by
  induction e generalizing j with
  | nil => simp at h
  | cons q r ih =>
    cases j with
    | zero =>
      have : q = p := by simpa using h
      subst this
      exact ⟨rfl, rfl, rfl⟩
    | succ j =>
      have := ih (j := j) (by simpa using h)
      rw [show (j + 1) * 3 = j * 3 + 1 + 1 + 1 by omega]
      exact this
/-- the limbs of these amounts, each on blocks of its own, between lo and hi -/
def OwnMs (w : World) : Nat → List MI → List (ByteArray × Bool × Value) → Nat → Prop
  | lo, [], [], hi => lo ≤ hi
  | lo, x :: l, p :: e, hi => ∃ mid, lo ≤ mid ∧ p.1 = x.1 ∧ p.2.1 = x.2.1 ∧ w.ownsRow lo 3 1 p.2.2 x.2.2.length (intsV x.2.2) ∧ (∀ b, p.2.2.ownBlock = some b → b < mid) ∧ OwnMs w mid l e hi
  | _, _, _, _ => False
theorem OwnMs.le {w : World} {lo hi : Nat} {l : List MI} {e : List (ByteArray × Bool × Value)} (h : OwnMs w lo l e hi) : lo ≤ hi := by
  induction l generalizing lo e with
  | nil => cases e with | nil => exact h | cons _ _ => exact h.elim
  | cons x l ih => cases e with | nil => exact h.elim | cons p e => obtain ⟨mid, h1, _, _, _, _, h2⟩ := h; exact Nat.le_trans h1 (ih h2)
theorem OwnMs.length {w : World} {lo hi : Nat} {l : List MI} {e : List (ByteArray × Bool × Value)} (h : OwnMs w lo l e hi) : e.length = l.length := by
  induction l generalizing lo e with
  | nil => cases e with | nil => rfl | cons _ _ => exact h.elim
  | cons x l ih => cases e with | nil => exact h.elim | cons p e => obtain ⟨mid, _, _, _, _, _, h2⟩ := h; simp [ih h2]
theorem OwnMs.stays {w w' : World} {lo hi : Nat} {l : List MI} {e : List (ByteArray × Bool × Value)} (h : OwnMs w lo l e hi) (hk : ∀ i, lo ≤ i → i < hi → w'.heap[i]? = w.heap[i]?) : OwnMs w' lo l e hi := by
  induction l generalizing lo e with
  | nil => cases e with | nil => exact h | cons _ _ => exact h.elim
  | cons x l ih =>
    cases e with
    | nil => exact h.elim
    | cons p e =>
      obtain ⟨mid, h1, h2, h2', h3, h4, h5⟩ := h
      have hle := h5.le
      exact ⟨mid, h1, h2, h2', own_stays h3 fun i hi => hk i (own_lt h3 hi).1 (Nat.lt_of_lt_of_le (h4 i hi) hle), h4, ih h5 fun i hi hi2 => hk i (by omega) hi2⟩
theorem OwnMs.wide {w : World} {lo hi hi' : Nat} {l : List MI} {e : List (ByteArray × Bool × Value)} (h : OwnMs w lo l e hi) (hh : hi ≤ hi') : OwnMs w lo l e hi' := by
  induction l generalizing lo e with
  | nil => cases e with | nil => exact Nat.le_trans h hh | cons _ _ => exact h.elim
  | cons x l ih => cases e with | nil => exact h.elim | cons p e => obtain ⟨mid, h1, h2, h2', h3, h4, h5⟩ := h; exact ⟨mid, h1, h2, h2', h3, h4, ih h5⟩
theorem OwnMs.at_ {w : World} {lo hi : Nat} {l : List MI} {e : List (ByteArray × Bool × Value)} (h : OwnMs w lo l e hi) {j : Nat} {x : MI} (hx : l[j]? = some x) : ∃ u, e[j]? = some (x.1, x.2.1, u) ∧ OwnI u x.2.2 w := by
  induction l generalizing lo e j with
  | nil => simp at hx
  | cons y l ih =>
    cases e with
    | nil => exact h.elim
    | cons p e =>
      obtain ⟨m, h1, h2, h2', h3, h4, h5⟩ := h
      cases j with
      | zero =>
        have : y = x := by simpa using hx
        subst this
        exact ⟨p.2.2, by rw [← h2, ← h2']; rfl, own_zero h3⟩
      | succ j => exact ih h5 (by simpa using hx)
/-- such a slice, of the call's own: its cells and limbs lie between lo and hi -/
def OwnML (v : Value) (l : List MI) (lo hi : Nat) (w : World) : Prop :=
  ∃ g e, v = .slice (some ⟨g, 0, none⟩) l.length l.length ∧ lo ≤ g ∧ g < hi ∧ hi ≤ w.heap.size ∧ w.ownsRow lo 53 3 v l.length (flatM e) ∧ OwnMs w (g + 1) l e hi
theorem OwnML.stays {v : Value} {l : List MI} {lo hi : Nat} {w w' : World} (h : OwnML v l lo hi w) (hk : ∀ i, lo ≤ i → i < hi → w'.heap[i]? = w.heap[i]?) (hz : w.heap.size ≤ w'.heap.size) : OwnML v l lo hi w' := by
  obtain ⟨g, e, rfl, h1, h2, h3, h4, h5⟩ := h
  exact ⟨g, e, rfl, h1, h2, Nat.le_trans h3 hz, own_stays h4 fun i hi => by cases hi; exact hk g h1 h2, h5.stays fun i hi hi2 => hk i (by omega) hi2⟩
theorem OwnML.below {v : Value} {l : List MI} {lo hi : Nat} {w w' : World} (h : OwnML v l lo hi w) (hb : Below w.heap.size w w') : OwnML v l lo hi w' := by
  have hh := h
  obtain ⟨_, _, _, _, _, h3, _, _⟩ := hh
  exact h.stays (fun i _ hi => hb.block i (by omega)) hb.size
theorem OwnML.rd {v : Value} {l : List MI} {lo hi : Nat} {w : World} (h : OwnML v l lo hi w) : RdML w v l := by
  obtain ⟨g, e, rfl, h1, h2, h3, h4, h5⟩ := h
  refine ⟨_, _, rfl, fun j x hj => ?_⟩
  have hjl := (List.getElem?_eq_some_iff.1 hj).1
  obtain ⟨u, he, ho⟩ := h5.at_ hj
  have hf := flatM_get he
  refine ⟨⟨g, 0, none⟩, u, rfl, by show g < _; omega, ?_, ?_, ?_, ho.row⟩
  · have := h4.cellAt (j * 3) (by omega)
    rw [hf.1] at this
    rw [add_ownM]
    exact this
  · have := h4.cellAt (j * 3 + 1) (by omega)
    rw [hf.2.1] at this
    rw [add_ownM]
    exact this
  · have := h4.cellAt (j * 3 + 2) (by omega)
    rw [hf.2.2] at this
    rw [add_ownM]
    exact this
set_option maxHeartbeats 1000000 in
set_option maxRecDepth 100000 in
theorem eqMoneyS_any (va vb : Value) (ss ts : List MI) (w : World) (hl : ss.length ≤ 140737488355328) (hx : ∀ x ∈ ss, capM x) (hra : RdML w va ss) (hrb : RdML w vb ts) :
    Calls Tryz.prog 29 #[va, vb] w fun e w' => e = .returned (.bool (decide (ss = ts))) ∧ Below w.heap.size w w' := by
  obtain ⟨A, c, rfl, hA⟩ := hra
  obtain ⟨B, d, rfl, hB⟩ := hrb
  have HA := Lib.hid hA
  have HB := Lib.hid hB
  clear hA hB
  by_cases hlen : ss.length = ts.length
  · have HL := Lib.hid hlen
    have hbe : ((ss.length : Int) != (ts.length : Int)) = false := by simp [hlen]
    clear hlen
    go_enter Tryz.func29, Tryz.ntmps29
    go_wp2
    go_loopw [5] (fun i wr => ∃ k : Nat, k ≤ ss.length ∧ i = .int .i64 k ∧ Below w.heap.size w wr ∧ Hid (ss.take k = ts.take k)) (fun i _ => ss.length - (intOf i).toNat)
    case atStart => exact ⟨0, Nat.zero_le _, rfl, Below.refl _ _, Lib.hid rfl⟩
    case round =>
      obtain ⟨k, hk, rfl, hb, HT⟩ := hrel
      by_cases hlt : k < ss.length
      · have hlt2 : k < ts.length := by have := HL.out; omega
        obtain ⟨a, u, rfl, ha, hc0, hc1, hc2, hr⟩ := HA.out k ss[k] (List.getElem?_eq_getElem hlt)
        obtain ⟨b, v, rfl, ha', hd0, hd1, hd2, hr'⟩ := HB.out k ts[k] (List.getElem?_eq_getElem hlt2)
        have hxl := hx ss[k] (List.getElem_mem hlt)
        obtain ⟨A1, c1, rfl⟩ := row_form hr
        obtain ⟨B1, d1, rfl⟩ := row_form hr'
        rw [intsV_length] at hc2 hr hd2 hr'
        have HR := Lib.hid (show ∀ W, Below w.heap.size w W → RdM W (.agg #[.string ss[k].1, .bool ss[k].2.1, .slice A1 ss[k].2.2.length c1]) ss[k] from fun W hb => RdM.below ⟨_, rfl, hr⟩ hb)
        have HR' := Lib.hid (show ∀ W, Below w.heap.size w W → RdM W (.agg #[.string ts[k].1, .bool ts[k].2.1, .slice B1 ts[k].2.2.length d1]) ts[k] from fun W hb => RdM.below ⟨_, rfl, hr'⟩ hb)
        have HCC := Lib.hid (show a.block < w.heap.size ∧ b.block < w.heap.size ∧ w.cell? (a.add (k * 3)) = some (.string ss[k].1) ∧ w.cell? ⟨(a.add (k * 3)).block, (a.add (k * 3)).off + 1, none⟩ = some (.bool ss[k].2.1) ∧ w.cell? ⟨(a.add (k * 3)).block, (a.add (k * 3)).off + 2, none⟩ = some (.slice A1 ss[k].2.2.length c1) ∧ w.cell? (b.add (k * 3)) = some (.string ts[k].1) ∧ w.cell? ⟨(b.add (k * 3)).block, (b.add (k * 3)).off + 1, none⟩ = some (.bool ts[k].2.1) ∧ w.cell? ⟨(b.add (k * 3)).block, (b.add (k * 3)).off + 2, none⟩ = some (.slice B1 ts[k].2.2.length d1) from ⟨ha, ha', hc0, hc1, hc2, hd0, hd1, hd2⟩)
        have HTS := Lib.hid (show (ss[k] = ts[k] → ss.take (k + 1) = ts.take (k + 1)) ∧ (¬ ss[k] = ts[k] → ¬ ss = ts) from ⟨take_same_succ HT.out hlt hlt2, ne_of_at hlt hlt2⟩)
        generalize ss[k] = x at *
        generalize ts[k] = y at *
        have KL := Lib.hid (show ∀ W, Below w.heap.size w W → W.cell? (a.add (k * 3)) = some (.string x.1) ∧ W.cell? ⟨(a.add (k * 3)).block, (a.add (k * 3)).off + 1, none⟩ = some (.bool x.2.1) ∧ W.cell? ⟨(a.add (k * 3)).block, (a.add (k * 3)).off + 2, none⟩ = some (.slice A1 x.2.2.length c1) ∧ W.cell? (b.add (k * 3)) = some (.string y.1) ∧ W.cell? ⟨(b.add (k * 3)).block, (b.add (k * 3)).off + 1, none⟩ = some (.bool y.2.1) ∧ W.cell? ⟨(b.add (k * 3)).block, (b.add (k * 3)).off + 2, none⟩ = some (.slice B1 y.2.2.length d1) ∧ Hid (Below w.heap.size w W) from
          fun W hb => by
            obtain ⟨h1, h2, h3, h4, h5, h6, h7, h8⟩ := HCC.out
            exact ⟨(cell_keep3' hb h1 k).trans h3, (cell_keep3 hb h1 k 1).trans h4, (cell_keep3 hb h1 k 2).trans h5, (cell_keep3' hb h2 k).trans h6, (cell_keep3 hb h2 k 1).trans h7, (cell_keep3 hb h2 k 2).trans h8, Lib.hid hb⟩)
        have HB0 := Lib.hid hb
        have HXL := Lib.hid hxl
        clear hb hc0 hc1 hc2 hd0 hd1 hd2 hr hr' ha ha' hxl HCC
        go_wp2
        go_region_held3 (fun W => W.cell? (a.add (k * 3)) = some (.string x.1) ∧ W.cell? ⟨(a.add (k * 3)).block, (a.add (k * 3)).off + 1, none⟩ = some (.bool x.2.1) ∧ W.cell? ⟨(a.add (k * 3)).block, (a.add (k * 3)).off + 2, none⟩ = some (.slice A1 x.2.2.length c1) ∧ W.cell? (b.add (k * 3)) = some (.string y.1) ∧ W.cell? ⟨(b.add (k * 3)).block, (b.add (k * 3)).off + 1, none⟩ = some (.bool y.2.1) ∧ W.cell? ⟨(b.add (k * 3)).block, (b.add (k * 3)).off + 2, none⟩ = some (.slice B1 y.2.2.length d1) ∧ Hid (Below w.heap.size w W))
          ((refine KL.out _ ?_; (first | exact HB1.out | exact HB0.out.drew | fail)))
          (first
            | (go_at_call 30; (have hBB := (‹_ ∧ _ ∧ _ ∧ _ ∧ _ ∧ _ ∧ Hid (Below w.heap.size w _)›).2.2.2.2.2.2); (with_reducible refine (eqM_cal _ _ x y _ HXL.out (HR.out _ hBB.out) (HR'.out _ hBB.out)).mono ?_); rintro e w1 ⟨rfl, b1⟩; have HB1 := Lib.hid (Below.next hBB.out b1); clear hBB b1))
        by_cases he : x = y
        · have hdt : decide (x = y) = true := decide_eq_true he
          rw [hdt]
          have HE := Lib.hid (HTS.out.1 he)
          clear hdt he
          go_wp2
          go_roundw
          case rel => exact ⟨k + 1, by omega, by go_num, HB1.out, HE⟩
          case measure => simp [intOf]; omega
        · have hdt : decide (x = y) = false := decide_eq_false he
          rw [hdt]
          have HE := Lib.hid (HTS.out.2 he)
          clear hdt he
          go_wp2
          go_ret
          exact ⟨ret_bool (decide_eq_false HE.out).symm, HB1.out⟩
      · go_wp2
        go_ret
        exact ⟨ret_bool (decide_eq_true (same_of_takes HT.out HL.out hlt)).symm, hb⟩
  · have hbe : ((ss.length : Int) != (ts.length : Int)) = true := by simp; omega
    go_enter Tryz.func29, Tryz.ntmps29
    go_wp2
    go_ret
    exact ⟨ret_bool (decide_eq_false (fun e => hlen (by rw [e]))).symm, Below.refl _ _⟩


/-- how much a mark of it takes -/
def mkML : List MI → Int
  | [] => 0
  | x :: l => 2 + szS x.2 + mkML l
theorem mkML_nonneg (l : List MI) : 0 ≤ mkML l := by
  induction l with
  | nil => exact Int.le_refl _
  | cons x l ih => show 0 ≤ 2 + szS x.2 + mkML l; unfold szS szI; omega
theorem mkML_len (l : List MI) : (l.length : Int) ≤ mkML l := by
  induction l with
  | nil => exact Int.le_refl _
  | cons x l ih => show ((l.length + 1 : Nat) : Int) ≤ 2 + szS x.2 + mkML l; unfold szS szI; omega
theorem mkML_append (l r : List MI) : mkML (l ++ r) = mkML l + mkML r := by
  induction l with
  | nil => show mkML r = 0 + mkML r; omega
  | cons x l ih => show 2 + szS x.2 + mkML (l ++ r) = 2 + szS x.2 + mkML l + mkML r; rw [ih]; omega
theorem mkML_take {l : List MI} {j : Nat} {x : MI} (h : l[j]? = some x) : mkML (l.take (j + 1)) = mkML (l.take j) + (2 + szS x.2) := by
  have hj := (List.getElem?_eq_some_iff.1 h).1
  have e : l[j] = x := (List.getElem?_eq_some_iff.1 h).2
  rw [List.take_succ_eq_append_getElem hj, mkML_append, e]
  show _ + (2 + szS x.2 + 0) = _
  omega
theorem mkML_take_le (l : List MI) (j : Nat) : mkML (l.take j) ≤ mkML l := by
  have := mkML_append (l.take j) (l.drop j)
  rw [List.take_append_drop] at this
  have := mkML_nonneg (l.drop j)
  omega
end Go.Proofs.YtofehcpapdlcnabGreatDoor

namespace Go.Proofs.YtofehcpapdlcnabGreatDoor
open Go.RowKit

/-- a slice that reads as these amounts, their limbs of the call's own -/
def OwnMR (w : World) (v : Value) (l : List MI) : Prop :=
  ∃ A c, v = .slice A l.length c ∧ ∀ (j : Nat) x, l[j]? = some x → ∃ a u, A = some a ∧ a.block < w.heap.size ∧ w.cell? (a.add (j * 3)) = some (.string x.1) ∧ w.cell? ⟨(a.add (j * 3)).block, (a.add (j * 3)).off + 1, none⟩ = some (.bool x.2.1) ∧ w.cell? ⟨(a.add (j * 3)).block, (a.add (j * 3)).off + 2, none⟩ = some u ∧ OwnI u x.2.2 w
theorem OwnML.ownR {v : Value} {l : List MI} {lo hi : Nat} {w : World} (h : OwnML v l lo hi w) : OwnMR w v l := by
  obtain ⟨g, e, rfl, h1, h2, h3, h4, h5⟩ := h
  refine ⟨_, _, rfl, fun j x hj => ?_⟩
  have hjl := (List.getElem?_eq_some_iff.1 hj).1
  obtain ⟨u, he, ho⟩ := h5.at_ hj
  have hf := flatM_get he
  refine ⟨⟨g, 0, none⟩, u, rfl, by show g < _; omega, ?_, ?_, ?_, ho⟩
  · have := h4.cellAt (j * 3) (by omega)
    rw [hf.1] at this
    rw [add_ownM]
    exact this
  · have := h4.cellAt (j * 3 + 1) (by omega)
    rw [hf.2.1] at this
    rw [add_ownM]
    exact this
  · have := h4.cellAt (j * 3 + 2) (by omega)
    rw [hf.2.2] at this
    rw [add_ownM]
    exact this
end Go.Proofs.YtofehcpapdlcnabGreatDoor
