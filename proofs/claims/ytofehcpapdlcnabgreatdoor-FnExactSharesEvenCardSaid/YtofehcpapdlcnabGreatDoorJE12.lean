/-
  ShareLowI, RankI, ShareImpl, ShareTie, ShareSame, ListMarkS, ShareLawW, ShelfMul, RepeatI, SharesEven, JA10, LawSharesEven
-/
import Derived.Laws.OwnMore
import Derived.Deep.RegionHeld3
import Derived.Deep.DeepCutAuto
import Derived.Shelf.Bits.Mul64
import Derived.Test.YtofehcpapdlcnabGreatDoorProg
import Derived.Deep.RegionLaw
import Derived.Laws.CopyOwn
import Derived.Lib.SmallJoins
import Derived.ChangeArms
import Derived.Deep.MidRow
import Derived.Test.YtofehcpapdlcnabGreatDoorCards
import Derived.Test.YtofehcpapdlcnabGreatDoorTie
import Derived.Deep.DeepHandedRow
import Derived.OpenVars
import Derived.Lib.LaidU8
import Derived.Stop.LaidErr
import Derived.Test.YtofehcpapdlcnabGreatDoorJE11
namespace Go.Proofs.YtofehcpapdlcnabGreatDoor
open Go.RowKit

/-- what stands beside the two slices while both are appended to -/
structure LowN (B N b : Nat) (P : SI) (Ap : Option Addr) (cp : Nat) (Q : QI) (A2 : Option Addr) (c2 : Nat) (B2 : Option Addr) (d2 : Nat) (w1 W : World) : Prop where
  k12 : At [b] (BoxAt b #[.bool P.1, .slice Ap P.2.length cp] 29) W
  k13 : At [b + 1] (BoxAt (b + 1) #[.bool Q.1.1, .slice A2 Q.1.2.length c2, .slice B2 Q.2.length d2] 63) W
  pl : W.ownsRow N 3 1 (.slice Ap P.2.length cp) P.2.length (intsV P.2)
  ql : OwnQ (.agg #[.bool Q.1.1, .slice A2 Q.1.2.length c2, .slice B2 Q.2.length d2]) Q W
  lo : Below B w1 W
  ba : B ≤ W.heap.size
section
variable {B N b : Nat} {P : SI} {Ap : Option Addr} {cp : Nat} {Q : QI} {A2 : Option Addr} {c2 : Nat} {B2 : Option Addr} {d2 : Nat} {w1 W W' : World}
theorem LowN.be (h : LowN B N b P Ap cp Q A2 c2 B2 d2 w1 W) (hb : Below W.heap.size W W') : LowN B N b P Ap cp Q A2 c2 B2 d2 w1 W' :=
  ⟨h.k12.below hb, h.k13.below hb, own_below h.pl hb, h.ql.below hb, h.lo.trans (hb.mono h.ba), Nat.le_trans h.ba hb.size⟩
theorem LowN.al (h : LowN B N b P Ap cp Q A2 c2 B2 d2 w1 W) (o : Obj) : LowN B N b P Ap cp Q A2 c2 B2 d2 w1 (W.alloc o) := h.be (below_al (Below.refl _ _) o)
theorem LowN.dr (h : LowN B N b P Ap cp Q A2 c2 B2 d2 w1 W) : LowN B N b P Ap cp Q A2 c2 B2 d2 w1 W.drew := h.be (Below.refl _ _).drew
theorem LowN.gr {n sz : Nat} {T : TypeId} {v : Value} {xs : List Value} (h : LowN B N b P Ap cp Q A2 c2 B2 d2 w1 W) (h1 : W.ownsRow B T sz v n xs) (hT : ¬ T = 3) (hg : W.grownBy W' v.ownBlock) (hb : ∀ g, v.ownBlock = some g → g < b) : LowN B N b P Ap cp Q A2 c2 B2 d2 w1 W' :=
  ⟨at_grownS h.k12 hg fun i hi hv => by have := hb i hv; simp at hi; omega, at_grownS h.k13 hg fun i hi hv => by have := hb i hv; simp at hi; omega,
   own_stays h.pl fun g hv => hg.block g (own_lt h.pl hv).2 fun e => own_typesS h1 h.pl hT e.symm hv, ownQ_grown h1 hT hg h.ql,
   h.lo.grown hg h.ba fun k hk => (own_lt h1 hk).1, Nat.le_trans h.ba hg.size⟩
end
/-- the numbers so far, with their cells in view -/
structure LowU (B k : Nat) (l : List SI) (es : List (Bool × Value)) (u : Value) (W : World) : Prop where
  own : W.ownsRow B 29 2 u k (flatC es)
  el : ∀ (j : Nat) y p, l[j]? = some y → es[j]? = some p → p.1 = y.1 ∧ W.ownsRow B 3 1 p.2 y.2.length (intsV y.2)
structure LowQ (B k : Nat) (l : List QI) (es : List (Bool × Value × Value)) (u : Value) (W : World) : Prop where
  own : W.ownsRow B 63 3 u k (flatQ es)
  el : ∀ (j : Nat) y p, l[j]? = some y → es[j]? = some p → p.1 = y.1.1 ∧ OwnQ (.agg #[.bool y.1.1, p.2.1, p.2.2]) y W
section
variable {B k : Nat} {l : List SI} {lq : List QI} {es : List (Bool × Value)} {eq : List (Bool × Value × Value)} {u v : Value} {W W' : World}
theorem LowU.be (h : LowU B k l es u W) (hb : Below W.heap.size W W') : LowU B k l es u W' := ⟨own_below h.own hb, fun j y p hy hp => ⟨(h.el j y p hy hp).1, own_below (h.el j y p hy hp).2 hb⟩⟩
theorem LowU.al (h : LowU B k l es u W) (o : Obj) : LowU B k l es u (W.alloc o) := h.be (below_al (Below.refl _ _) o)
theorem LowU.dr (h : LowU B k l es u W) : LowU B k l es u W.drew := h.be (Below.refl _ _).drew
theorem LowU.gr (h : LowU B k l es u W) (h1 : LowQ B k lq eq v W) (hg : W.grownBy W' v.ownBlock) : LowU B k l es u W' :=
  ⟨own_stays h.own fun g hv => hg.block g (own_lt h.own hv).2 fun e => own_typesS h1.own h.own (by decide) e.symm hv, fun j y p hy hp => ⟨(h.el j y p hy hp).1, own_stays (h.el j y p hy hp).2 fun g hv => hg.block g (own_lt (h.el j y p hy hp).2 hv).2 fun e => own_typesS h1.own (h.el j y p hy hp).2 (by decide) e.symm hv⟩⟩
theorem LowQ.be (h : LowQ B k lq eq v W) (hb : Below W.heap.size W W') : LowQ B k lq eq v W' := ⟨own_below h.own hb, fun j y p hy hp => ⟨(h.el j y p hy hp).1, (h.el j y p hy hp).2.below hb⟩⟩
theorem LowQ.al (h : LowQ B k lq eq v W) (o : Obj) : LowQ B k lq eq v (W.alloc o) := h.be (below_al (Below.refl _ _) o)
theorem LowQ.dr (h : LowQ B k lq eq v W) : LowQ B k lq eq v W.drew := h.be (Below.refl _ _).drew
theorem LowQ.gr (h : LowQ B k lq eq v W) (h1 : LowU B k l es u W) (hg : W.grownBy W' u.ownBlock) : LowQ B k lq eq v W' :=
  ⟨own_stays h.own fun g hv => hg.block g (own_lt h.own hv).2 fun e => own_typesS h1.own h.own (by decide) e.symm hv, fun j y p hy hp => ⟨(h.el j y p hy hp).1, ownQ_grown h1.own (by decide) hg (h.el j y p hy hp).2⟩⟩
end
/-- a literal, not yet appended -/
def LitAt (b : Nat) (cs : Array Value) (T : TypeId) (W : World) : Prop := At [b] (BoxAt b cs T) W
theorem LitAt.new (W : World) (cs : Array Value) (T : TypeId) {b : Nat} (h : b = W.heap.size) : LitAt b cs T (W.alloc (.cells cs T)) := by subst h; exact box_new W cs T
theorem LitAt.al {b : Nat} {cs : Array Value} {T : TypeId} {W : World} (h : LitAt b cs T W) (o : Obj) : LitAt b cs T (W.alloc o) := At.below h (below_al (Below.refl _ _) o)
theorem LitAt.dr {b : Nat} {cs : Array Value} {T : TypeId} {W : World} (h : LitAt b cs T W) : LitAt b cs T W.drew := At.move h (fun _ _ => rfl) (Nat.le_refl _)
theorem LitAt.gr {b : Nat} {cs : Array Value} {T : TypeId} {W W' : World} {v : Value} (h : LitAt b cs T W) (hg : W.grownBy W' v.ownBlock) (hb : ¬ v.ownBlock = some b) : LitAt b cs T W' := at_grownS h hg fun i hi hv => hb (by simp at hi; rw [← hi]; exact hv)
theorem LitAt.news {b : Nat} {cs : Array Value} {T : TypeId} {W : World} (h : LitAt b cs T W) : ∀ j u, cs.toList[j]? = some u → W.cell? ((⟨b, 0, none⟩ : Addr).add j) = some u := World.news_of_block (At.here h)
theorem rowQ_snocL {B : Nat} {l : List QI} {e : List (Bool × Value × Value)} {x : QI} {u un dn v2 : Value} {W1 W2 : World} (h2 : e.length = l.length) (h1' : W1.ownsRow B 63 3 u l.length (flatQ e)) (h3 : ∀ (j : Nat) y p, l[j]? = some y → e[j]? = some p → p.1 = y.1.1 ∧ OwnQ (.agg #[.bool y.1.1, p.2.1, p.2.2]) y W1)
    (on : OwnQ (.agg #[.bool x.1.1, un, dn]) x W1) (ho2 : W2.ownsRow B 63 3 v2 (l.length + 1) (flatQ e ++ [.bool x.1.1, un, dn])) (hg : W1.grownBy W2 u.ownBlock) : RowQ B v2 (l ++ [x]) W2 := by
  refine ⟨e ++ [(x.1.1, un, dn)], by rw [List.length_append, flatQ_append]; exact ho2, by rw [List.length_append, List.length_append, h2]; rfl, fun j y p hy hp => ?_⟩
  by_cases hj : j < l.length
  · rw [List.getElem?_append_left hj] at hy
    rw [List.getElem?_append_left (by omega)] at hp
    obtain ⟨a1, a2⟩ := h3 j y p hy hp
    exact ⟨a1, ownQ_grown h1' (by decide) hg a2⟩
  · rw [List.getElem?_append_right (by omega)] at hy hp
    have hj0 : j - l.length = 0 := by have := (List.getElem?_eq_some_iff.1 hy).1; simp at this; omega
    rw [hj0] at hy
    rw [h2, hj0] at hp
    cases hy
    cases hp
    exact ⟨rfl, ownQ_grown h1' (by decide) hg on⟩
set_option maxHeartbeats 8000000 in
set_option maxRecDepth 100000 in
theorem lowShares_any (v vw : Value) (x : SI) (ws : List Int) (lo hi : Nat) (w : World) (hlx : x.2.length ≤ 1048576) (hlw : ws.length ≤ 1048576) (hhi : hi ≤ w.heap.size) (h : OwnS v x w) (hr : Row w lo hi vw (intsV ws)) (hsen : Sen w) :
    Calls Tryz.prog 53 #[v, vw] w (LowPost x ws w) := by
  have HSEN := Lib.hid hsen
  clear hsen
  obtain ⟨iS, hiS, hS0, hS1, hS2⟩ := info_parts signedInfoS
  obtain ⟨iQ, hiQ, hQ0, hQ1, hQ2⟩ := info_parts ratInfoS
  have Hx := Lib.hid h
  obtain ⟨Ax, cx, rfl⟩ := ownS_form h
  have OSx := Lib.hid (show ∀ W, Below w.heap.size w W → OwnS (.agg #[.bool x.1, .slice Ax x.2.length cx]) x W from fun W hb => OwnS.below Hx.out hb)
  clear h Hx
  have HR0 := Lib.hid hr
  obtain ⟨Aw, cw, rfl, _⟩ := hr
  rw [intsV_length] at HR0 ⊢
  have HRW := Lib.hid (show ∀ W, Below w.heap.size w W → Row W lo hi (.slice Aw ws.length cw) (intsV ws) from fun W hb => Row.below HR0.out hb hhi)
  clear HR0
  have kx := box_new w #[.bool x.1, .slice Ax x.2.length cx] 29
  obtain ⟨w1, hw1⟩ : ∃ W, W = w.alloc (.cells #[.bool x.1, .slice Ax x.2.length cx] 29) := ⟨_, rfl⟩
  have hs1 : w1.heap.size = w.heap.size + 1 := by rw [hw1]; simp
  have BB1 := Lib.hid (show Below w.heap.size w w1 by rw [hw1]; exact below_al (Below.refl _ _) _)
  go_enter Tryz.func53, Tryz.ntmps53
  go_wp2_with fail
  rw [← hw1] at kx ⊢
  have KX := Lib.hid kx
  have hq1 : w.heap.size + 1 ≤ w1.heap.size := by omega
  clear kx hw1 hs1
  refine (implWeightsOk_any _ ws lo hi _ (by omega) (HRW.out _ BB1.out)).mono ?_
  rintro e w2 ⟨rfl, rfl⟩
  obtain ⟨ow, how⟩ : ∃ b, okW ws = b := ⟨_, rfl⟩
  rw [how]
  have HOW := Lib.hid how
  clear how
  cases ow with
  | false =>
    have HE := Lib.hid (lowPost_no (x := x) (ws := ws) (by unfold okSh; rw [HOW.out]; rfl) BB1.out)
    go_wp2
    refine bodyPost_ret (v := .tuple #[.slice none 0 0, .slice none 0 0, .bool false]) (by simp [results, Tryz.results53, go_sem]) rfl ?_
    exact HE.out
  | true =>
    have HSTART := Lib.hid (show LowRel x ws w1 (.slice none 0 0) (.slice none 0 0) (.int .i64 0) w1 from ⟨0, Nat.zero_le _, rfl, rowS_nil _ _, rowQ_nil _ _, fun j hj => absurd hj (Nat.not_lt_zero _), Below.refl _ _⟩)
    go_wp2
    go_loopw [7, 8, 20] (fun u q i wr => LowRel x ws w1 u q i wr) (fun _ _ i _ => ws.length - (intOf i).toNat)
    case atStart => exact HSTART.out
    case round =>
      clear HSTART
      obtain ⟨k, hk, rfl, hS, hQ, hall, hb⟩ := hrel
      have hbs := hb.size
      by_cases hlt : k < ws.length
      · have BBW := Lib.hid (Below.next BB1.out hb)
        have HALL := Lib.hid hall
        have HBW := Lib.hid hb
        have HSW := Lib.hid hS
        have HQW := Lib.hid hQ
        have hll := lowI_len x ws k
        have hlq := restK_len x ws k
        obtain ⟨Au, cu, rfl⟩ := rowS_len hS
        obtain ⟨Aq, cq, rfl⟩ := rowQ_len hQ
        rw [hll] at HSW ⊢
        rw [hlq] at HQW ⊢
        have kxw := KX.out.below hb
        clear hall hb hS hQ hll hlq
        have kx_c0 := kxw.here.cell 0 _ rfl
        have kx_c1 := kxw.here.cell 1 _ rfl
        go_wp2_with fail
        clear kx_c0 kx_c1
        refine (implFairShare_any _ _ x ws k lo hi _ hlx hlw (by omega) (OSx.out _ BBW.out) (HRW.out _ BBW.out) (HSEN.out.below BBW.out)).mono ?_
        rintro e w2 ⟨vf, Sf, rfl, of, lf, b2⟩
        obtain ⟨R, hHR⟩ : ∃ q, fairF x ws k = q := ⟨_, rfl⟩
        rw [show (fairR x ws (k : Int)).1 = R from hHR] at of
        obtain ⟨fb, hfb⟩ : ∃ b, (fairR x ws (k : Int)).2 = b := ⟨_, rfl⟩
        rw [hfb]
        have hzR : szQ R ≤ 1048576 := by have := fair_sz x ws k; rw [show (fairR x ws (k : Int)).1 = R from hHR] at this; exact this
        have HHR := Lib.hid hHR
        clear hHR hfb
        have bb2 := Below.next BBW.out b2
        obtain ⟨A1, c1, B1, d1, rfl⟩ := ownQ_form of.here
        go_upto_region 9 with fail
        have kr := box_new w2 #[.bool R.1.1, .slice A1 R.1.2.length c1, .slice B1 R.2.length d1] 63
        have al3 : Below w2.heap.size w2 (w2.alloc (.cells #[.bool R.1.1, .slice A1 R.1.2.length c1, .slice B1 R.2.length d1] 63)) := below_al (Below.refl _ _) _
        have hs3 : w2.heap.size + 1 ≤ (w2.alloc (.cells #[.bool R.1.1, .slice A1 R.1.2.length c1, .slice B1 R.2.length d1] 63)).heap.size := by simp
        obtain ⟨w3, hw3⟩ : ∃ W, W = (w2.alloc (.cells #[.bool R.1.1, .slice A1 R.1.2.length c1, .slice B1 R.2.length d1] 63)) := ⟨_, rfl⟩
        rw [← hw3] at kr al3 hs3 ⊢
        clear hw3
        have of3 := of.below al3
        have bb3 := Below.next bb2 al3
        have BW3 := b2.trans (al3.mono b2.size)
        clear of al3
        have kr_c0 := kr.here.cell 0 _ rfl
        have kr_c1 := kr.here.cell 1 _ rfl
        have kr_c2 := kr.here.cell 2 _ rfl
        go_wp2_with fail
        clear kr_c0 kr_c1 kr_c2
        refine (implRatRest_any _ R 0 _ hzR of3.here (HSEN.out.below bb3)).mono ?_
        rintro e w4 ⟨vp, vq, Sp, Sq, rfl, op, oq, hSq, lp, lq, b4⟩
        obtain ⟨Ap, cp, rfl⟩ := ownS_form op.here
        obtain ⟨A2, c2, B2, d2, rfl⟩ := ownQ_form oq.here
        have bb4 := Below.next bb3 b4
        have BW4 := BW3.trans (b4.mono (Nat.le_trans b2.size (by omega)))
        have hz4 := b4.size
        have hz2 := b2.size
        obtain ⟨P, hP⟩ : ∃ s, restS R 0 = s := ⟨_, rfl⟩
        obtain ⟨Q, hQ⟩ : ∃ s, restQ R 0 = s := ⟨_, rfl⟩
        obtain ⟨rb, hrb⟩ : ∃ s, restB R 0 = s := ⟨_, rfl⟩
        have hPl : P.2.length ≤ 1048576 := by rw [← hP, ← HHR.out]; exact rests_szS k
        rw [hP] at op ⊢
        rw [hQ] at oq ⊢
        rw [hrb]
        have HP := Lib.hid hP
        have HQ := Lib.hid hQ
        clear hP hQ of3 kr
        cases rb with
        | false =>
          have HE := Lib.hid (lowPost_no (okSh_rest_no (x := x) hlt (by rw [HHR.out]; exact hrb)) (below_al (below_al bb4 (.cells #[.bool P.1, .slice Ap P.2.length cp] 29)) (.cells #[.bool Q.1.1, .slice A2 Q.1.2.length c2, .slice B2 Q.2.length d2] 63)))
          clear hrb
          go_wp2
          refine bodyPost_ret (v := .tuple #[.slice none 0 0, .slice none 0 0, .bool false]) (by simp [results, Tryz.results53, go_sem]) rfl ?_
          exact HE.out
        | true =>
          have HRB := Lib.hid hrb
          clear hrb
          go_upto_region 12 with fail
          obtain ⟨w7, hw7⟩ : ∃ W, W = ((w4.alloc (.cells #[.bool P.1, .slice Ap P.2.length cp] 29)).alloc (.cells #[.bool Q.1.1, .slice A2 Q.1.2.length c2, .slice B2 Q.2.length d2] 63)) := ⟨_, rfl⟩
          have b47 : Below w4.heap.size w4 w7 := by rw [hw7]; exact below_al (below_al (Below.refl _ _) _) _
          have k12 : At [w4.heap.size] (BoxAt w4.heap.size #[.bool P.1, .slice Ap P.2.length cp] 29) w7 := by rw [hw7]; exact (box_new _ _ _).below (below_al (Below.refl _ _) _)
          have k13 : At [w4.heap.size + 1] (BoxAt (w4.heap.size + 1) #[.bool Q.1.1, .slice A2 Q.1.2.length c2, .slice B2 Q.2.length d2] 63) w7 := by
            rw [hw7]
            have h := box_new (w4.alloc (.cells #[.bool P.1, .slice Ap P.2.length cp] 29)) #[.bool Q.1.1, .slice A2 Q.1.2.length c2, .slice B2 Q.2.length d2] 63
            rw [show (w4.alloc (.cells #[.bool P.1, .slice Ap P.2.length cp] 29)).heap.size = w4.heap.size + 1 by simp] at h
            exact h
          rw [← hw7]
          clear hw7
          have hz47 := b47.size
          have hzB := BW4.size
          obtain ⟨es, hse, hsl, hel, h4⟩ := HSW.out
          obtain ⟨eq, hqe, hql, heq⟩ := HQW.out
          rw [lowI_len] at hse hsl
          rw [restK_len] at hqe hql
          have BW7 := BW4.trans (b47.mono hzB)
          have hnx : ∀ p ∈ es, ∀ b, p.2.ownBlock = some b → b < w3.heap.size := fun p hp b hb => by
            obtain ⟨j, hj⟩ := List.mem_iff_getElem?.1 hp
            obtain ⟨y, hy⟩ : ∃ y, (lowI x ws k)[j]? = some y := ⟨_, List.getElem?_eq_getElem (by have := (List.getElem?_eq_some_iff.1 hj).1; rw [lowI_len]; omega)⟩
            have := (own_lt (hel j y p hy hj).2 hb).2
            omega
          have hub : ∀ g, (Value.slice Au k cu).ownBlock = some g → g < w4.heap.size := fun g hg => Nat.lt_of_lt_of_le (own_lt hse hg).2 hzB
          have hqb : ∀ g, (Value.slice Aq k cq).ownBlock = some g → g < w4.heap.size := fun g hg => Nat.lt_of_lt_of_le (own_lt hqe hg).2 hzB
          have U7 : LowU w1.heap.size k (lowI x ws k) es (.slice Au k cu) w7 := (LowU.mk hse hel).be BW7
          have Q7 : LowQ w1.heap.size k (restK x ws k) eq (.slice Aq k cq) w7 := (LowQ.mk hqe heq).be BW7
          have N7 : LowN w1.heap.size w3.heap.size w4.heap.size P Ap cp Q A2 c2 B2 d2 w1 w7 := ⟨k12, k13, own_below (ownS_row op (fun i hi => (lp i hi).1)) b47, (oq.below b47).here, HBW.out.trans (BW7.mono hbs), by omega⟩
          have HSN := Lib.hid (show ∀ (W W9 : World) (v2 : Value), LowU w1.heap.size k (lowI x ws k) es (.slice Au k cu) W → LowN w1.heap.size w3.heap.size w4.heap.size P Ap cp Q A2 c2 B2 d2 w1 W → W9.ownsRow w1.heap.size 29 2 v2 (k + 1) (flatC es ++ [.bool P.1, .slice Ap P.2.length cp]) → W.grownBy W9 (Value.slice Au k cu).ownBlock → RowS w1.heap.size v2 (lowI x ws (k + 1)) W9 from
            fun W W9 v2 hu hn ho hg => by
              rw [lowI_succ, show restS (fairF x ws k) 0 = P by rw [HHR.out, HP.out]]
              exact rowS_snoc (N := w3.heap.size) (by rw [lowI_len]; exact hsl) (by rw [lowI_len]; exact hu.own) hu.el h4 hnx hn.pl (by omega) (by rw [lowI_len]; exact ho) hg)
          have HQN := Lib.hid (show ∀ (W W9 : World) (v2 : Value), LowQ w1.heap.size k (restK x ws k) eq (.slice Aq k cq) W → LowN w1.heap.size w3.heap.size w4.heap.size P Ap cp Q A2 c2 B2 d2 w1 W → W9.ownsRow w1.heap.size 63 3 v2 (k + 1) (flatQ eq ++ [.bool Q.1.1, .slice A2 Q.1.2.length c2, .slice B2 Q.2.length d2]) → W.grownBy W9 (Value.slice Aq k cq).ownBlock → RowQ w1.heap.size v2 (restK x ws (k + 1)) W9 from
            fun W W9 v2 hu hn ho hg => by
              rw [restK_succ, show restQ (fairF x ws k) 0 = Q by rw [HHR.out, HQ.out]]
              exact rowQ_snocL (by rw [restK_len]; exact hql) (by rw [restK_len]; exact hu.own) hu.el hn.ql (by rw [restK_len]; exact ho) hg)
          have KL := Lib.hid (show ∀ W, LowN w1.heap.size w3.heap.size w4.heap.size P Ap cp Q A2 c2 B2 d2 w1 W → W.cell? ⟨w4.heap.size, 0, none⟩ = some (.bool P.1) ∧ W.cell? ⟨w4.heap.size, 1, none⟩ = some (.slice Ap P.2.length cp) ∧ W.cell? ⟨w4.heap.size + 1, 0, none⟩ = some (.bool Q.1.1) ∧ W.cell? ⟨w4.heap.size + 1, 1, none⟩ = some (.slice A2 Q.1.2.length c2) ∧ W.cell? ⟨w4.heap.size + 1, 2, none⟩ = some (.slice B2 Q.2.length d2) from fun W h => ⟨h.k12.here.cell 0 _ rfl, h.k12.here.cell 1 _ rfl, h.k13.here.cell 0 _ rfl, h.k13.here.cell 1 _ rfl, h.k13.here.cell 2 _ rfl⟩)
          have hallN : ∀ j : Nat, j < k + 1 → restB (fairF x ws j) 0 = true := fun j hj => by
            rcases Nat.lt_or_ge j k with h | h
            · exact HALL.out j h
            · obtain rfl : j = k := by omega
              rw [HHR.out]
              exact HRB.out
          have HAN := Lib.hid hallN
          clear hallN k12 k13 b47 BW7 BW4 hse hel hqe heq h4 hnx op oq lp lq b4 b2 lf bb2 bb3 bb4 BW3 kxw
          have lc := KL.out _ N7
          have l_c0 := lc.1
          have l_c1 := lc.2.1
          have l_c2 := lc.2.2.1
          have l_c3 := lc.2.2.2.1
          have l_c4 := lc.2.2.2.2
          clear lc
          go_region_held3 (fun W => W.cell? ⟨w4.heap.size, 0, none⟩ = some (.bool P.1) ∧ W.cell? ⟨w4.heap.size, 1, none⟩ = some (.slice Ap P.2.length cp) ∧ W.cell? ⟨w4.heap.size + 1, 0, none⟩ = some (.bool Q.1.1) ∧ W.cell? ⟨w4.heap.size + 1, 1, none⟩ = some (.slice A2 Q.1.2.length c2) ∧ W.cell? ⟨w4.heap.size + 1, 2, none⟩ = some (.slice B2 Q.2.length d2))
            ((exact KL.out _ (by first | exact NU | exact NU.al _ | exact (NU.al _).al _ | exact NQ | exact NQ.al _ | exact (NQ.al _).al _ | exact N7 | exact N7.al _ | exact (N7.al _).al _ | exact N7.dr | exact N7.dr.al _ | exact (N7.dr.al _).al _ | exact (N7.al _).dr | exact (N7.al _).dr.al _ | exact ((N7.al _).al _).dr)))
            (first
              | (refine step_append_lies _ (by rfl) _ _ _ (by rfl) w1.heap.size 29 iS _ 2 32 Tryz.underlying32 hiS hS0 hS1 hS2 rfl (by omega) (.slice Au k cu) k (flatC es) (by rfl) (LowU.own (by first | exact UQ | exact UQ.al _ | exact (UQ.al _).al _ | exact U7 | exact U7.al _ | exact (U7.al _).al _ | exact U7.dr | exact U7.dr.al _ | exact (U7.dr.al _).al _ | exact (U7.al _).dr | exact (U7.al _).dr.al _ | exact ((U7.al _).al _).dr)) _ 1 1 [.bool P.1, .slice Ap P.2.length cp] (by rfl) (by rfl) (LitAt.news (cs := #[.bool P.1, .slice Ap P.2.length cp]) (T := 29) (by first | exact LitAt.new _ _ _ rfl | exact (LitAt.new _ _ _ rfl).dr | exact (LitAt.new _ _ _ rfl).al _ | exact ((LitAt.new _ _ _ rfl).al _).dr | exact (LitAt.new _ _ _ rfl).dr.al _ | exact LitAt.new _ _ _ (by simp) | exact (LitAt.new _ _ _ (by simp)).dr | exact (LitAt.new _ _ _ (by simp)).al _ | exact ((LitAt.new _ _ _ (by simp)).al _).dr | exact (LitAt.new _ _ _ (by simp)).dr.al _ | exact LSQ | exact LSQ.al _)) (by simp [Value.oneCell']) (by omega) (by unfold maxLen; omega) (by omega) (LowN.ba (by first | exact NU | exact NU.al _ | exact (NU.al _).al _ | exact NQ | exact NQ.al _ | exact (NQ.al _).al _ | exact N7 | exact N7.al _ | exact (N7.al _).al _ | exact N7.dr | exact N7.dr.al _ | exact (N7.dr.al _).al _ | exact (N7.al _).dr | exact (N7.al _).dr.al _ | exact ((N7.al _).al _).dr)) _ (by rfl) ?_; intro gg cap w9 hown9 hg9 hat9 hlt9; have US := HSN.out _ w9 _ (by first | exact UQ | exact UQ.al _ | exact (UQ.al _).al _ | exact U7 | exact U7.al _ | exact (U7.al _).al _ | exact U7.dr | exact U7.dr.al _ | exact (U7.dr.al _).al _ | exact (U7.al _).dr | exact (U7.al _).dr.al _ | exact ((U7.al _).al _).dr) (by first | exact NU | exact NU.al _ | exact (NU.al _).al _ | exact NQ | exact NQ.al _ | exact (NQ.al _).al _ | exact N7 | exact N7.al _ | exact (N7.al _).al _ | exact N7.dr | exact N7.dr.al _ | exact (N7.dr.al _).al _ | exact (N7.al _).dr | exact (N7.al _).dr.al _ | exact ((N7.al _).al _).dr) hown9 hg9; have NU := LowN.gr (by first | exact NU | exact NU.al _ | exact (NU.al _).al _ | exact NQ | exact NQ.al _ | exact (NQ.al _).al _ | exact N7 | exact N7.al _ | exact (N7.al _).al _ | exact N7.dr | exact N7.dr.al _ | exact (N7.dr.al _).al _ | exact (N7.al _).dr | exact (N7.al _).dr.al _ | exact ((N7.al _).al _).dr) (LowU.own (by first | exact UQ | exact UQ.al _ | exact (UQ.al _).al _ | exact U7 | exact U7.al _ | exact (U7.al _).al _ | exact U7.dr | exact U7.dr.al _ | exact (U7.dr.al _).al _ | exact (U7.al _).dr | exact (U7.al _).dr.al _ | exact ((U7.al _).al _).dr)) (by decide) hg9 hub; (first | have QU := LowQ.gr (by first | exact QU | exact QU.al _ | exact (QU.al _).al _ | exact Q7 | exact Q7.al _ | exact (Q7.al _).al _ | exact Q7.dr | exact Q7.dr.al _ | exact (Q7.dr.al _).al _ | exact (Q7.al _).dr | exact (Q7.al _).dr.al _ | exact ((Q7.al _).al _).dr) (by first | exact UQ | exact UQ.al _ | exact (UQ.al _).al _ | exact U7 | exact U7.al _ | exact (U7.al _).al _ | exact U7.dr | exact U7.dr.al _ | exact (U7.dr.al _).al _ | exact (U7.al _).dr | exact (U7.al _).dr.al _ | exact ((U7.al _).al _).dr) hg9 | skip); (first | have RQU := RowQ.grown (by first | exact QS | exact QS.below (below_al (Below.refl _ _) _)) (LowU.own (by first | exact UQ | exact UQ.al _ | exact (UQ.al _).al _ | exact U7 | exact U7.al _ | exact (U7.al _).al _ | exact U7.dr | exact U7.dr.al _ | exact (U7.dr.al _).al _ | exact (U7.al _).dr | exact (U7.al _).dr.al _ | exact ((U7.al _).al _).dr)) (by decide) (by decide) hg9 | skip); (first | have LQU : LitAt w7.heap.size #[.bool Q.1.1, .slice A2 Q.1.2.length c2, .slice B2 Q.2.length d2] 63 w9 := LitAt.gr (by first | exact (LitAt.new _ _ _ rfl).al _ | exact ((LitAt.new _ _ _ rfl).al _).dr | exact (LitAt.new _ _ _ rfl).dr.al _) hg9 (fun e => by have := hub _ e; omega) | have LQU : LitAt (w7.heap.size + 1) #[.bool Q.1.1, .slice A2 Q.1.2.length c2, .slice B2 Q.2.length d2] 63 w9 := LitAt.gr (by first | exact LitAt.new _ _ _ (by simp) | exact (LitAt.new _ _ _ (by simp)).dr) hg9 (fun e => by have := hub _ e; omega) | skip); clear hown9 hat9)
              | (refine step_append_lies _ (by rfl) _ _ _ (by rfl) w1.heap.size 63 iQ _ 3 56 Tryz.underlying61 hiQ hQ0 hQ1 hQ2 rfl (by omega) (.slice Aq k cq) k (flatQ eq) (by rfl) (LowQ.own (by first | exact QU | exact QU.al _ | exact (QU.al _).al _ | exact Q7 | exact Q7.al _ | exact (Q7.al _).al _ | exact Q7.dr | exact Q7.dr.al _ | exact (Q7.dr.al _).al _ | exact (Q7.al _).dr | exact (Q7.al _).dr.al _ | exact ((Q7.al _).al _).dr)) _ 1 1 [.bool Q.1.1, .slice A2 Q.1.2.length c2, .slice B2 Q.2.length d2] (by rfl) (by rfl) (LitAt.news (cs := #[.bool Q.1.1, .slice A2 Q.1.2.length c2, .slice B2 Q.2.length d2]) (T := 63) (by first | exact LitAt.new _ _ _ rfl | exact (LitAt.new _ _ _ rfl).dr | exact (LitAt.new _ _ _ rfl).al _ | exact ((LitAt.new _ _ _ rfl).al _).dr | exact (LitAt.new _ _ _ rfl).dr.al _ | exact LitAt.new _ _ _ (by simp) | exact (LitAt.new _ _ _ (by simp)).dr | exact (LitAt.new _ _ _ (by simp)).al _ | exact ((LitAt.new _ _ _ (by simp)).al _).dr | exact (LitAt.new _ _ _ (by simp)).dr.al _ | exact LQU | exact LQU.al _)) (by simp [Value.oneCell']) (by omega) (by unfold maxLen; omega) (by omega) (LowN.ba (by first | exact NU | exact NU.al _ | exact (NU.al _).al _ | exact NQ | exact NQ.al _ | exact (NQ.al _).al _ | exact N7 | exact N7.al _ | exact (N7.al _).al _ | exact N7.dr | exact N7.dr.al _ | exact (N7.dr.al _).al _ | exact (N7.al _).dr | exact (N7.al _).dr.al _ | exact ((N7.al _).al _).dr)) _ (by rfl) ?_; intro gh caq w8 hown8 hg8 hat8 hlt8; have QS := HQN.out _ w8 _ (by first | exact QU | exact QU.al _ | exact (QU.al _).al _ | exact Q7 | exact Q7.al _ | exact (Q7.al _).al _ | exact Q7.dr | exact Q7.dr.al _ | exact (Q7.dr.al _).al _ | exact (Q7.al _).dr | exact (Q7.al _).dr.al _ | exact ((Q7.al _).al _).dr) (by first | exact NU | exact NU.al _ | exact (NU.al _).al _ | exact NQ | exact NQ.al _ | exact (NQ.al _).al _ | exact N7 | exact N7.al _ | exact (N7.al _).al _ | exact N7.dr | exact N7.dr.al _ | exact (N7.dr.al _).al _ | exact (N7.al _).dr | exact (N7.al _).dr.al _ | exact ((N7.al _).al _).dr) hown8 hg8; have NQ := LowN.gr (by first | exact NU | exact NU.al _ | exact (NU.al _).al _ | exact NQ | exact NQ.al _ | exact (NQ.al _).al _ | exact N7 | exact N7.al _ | exact (N7.al _).al _ | exact N7.dr | exact N7.dr.al _ | exact (N7.dr.al _).al _ | exact (N7.al _).dr | exact (N7.al _).dr.al _ | exact ((N7.al _).al _).dr) (LowQ.own (by first | exact QU | exact QU.al _ | exact (QU.al _).al _ | exact Q7 | exact Q7.al _ | exact (Q7.al _).al _ | exact Q7.dr | exact Q7.dr.al _ | exact (Q7.dr.al _).al _ | exact (Q7.al _).dr | exact (Q7.al _).dr.al _ | exact ((Q7.al _).al _).dr)) (by decide) hg8 hqb; (first | have UQ := LowU.gr (by first | exact UQ | exact UQ.al _ | exact (UQ.al _).al _ | exact U7 | exact U7.al _ | exact (U7.al _).al _ | exact U7.dr | exact U7.dr.al _ | exact (U7.dr.al _).al _ | exact (U7.al _).dr | exact (U7.al _).dr.al _ | exact ((U7.al _).al _).dr) (by first | exact QU | exact QU.al _ | exact (QU.al _).al _ | exact Q7 | exact Q7.al _ | exact (Q7.al _).al _ | exact Q7.dr | exact Q7.dr.al _ | exact (Q7.dr.al _).al _ | exact (Q7.al _).dr | exact (Q7.al _).dr.al _ | exact ((Q7.al _).al _).dr) hg8 | skip); (first | have RSQ := RowS.grown (by first | exact US | exact US.below (below_al (Below.refl _ _) _)) (LowQ.own (by first | exact QU | exact QU.al _ | exact (QU.al _).al _ | exact Q7 | exact Q7.al _ | exact (Q7.al _).al _ | exact Q7.dr | exact Q7.dr.al _ | exact (Q7.dr.al _).al _ | exact (Q7.al _).dr | exact (Q7.al _).dr.al _ | exact ((Q7.al _).al _).dr)) (by decide) (by decide) hg8 | skip); (first | have LSQ : LitAt w7.heap.size #[.bool P.1, .slice Ap P.2.length cp] 29 w8 := LitAt.gr (by first | exact (LitAt.new _ _ _ rfl).al _ | exact ((LitAt.new _ _ _ rfl).al _).dr | exact (LitAt.new _ _ _ rfl).dr.al _) hg8 (fun e => by have := hqb _ e; omega) | have LSQ : LitAt (w7.heap.size + 1) #[.bool P.1, .slice Ap P.2.length cp] 29 w8 := LitAt.gr (by first | exact LitAt.new _ _ _ (by simp) | exact (LitAt.new _ _ _ (by simp)).dr) hg8 (fun e => by have := hqb _ e; omega) | skip); clear hown8 hat8))
          all_goals
            clear KL HSN HQN
            go_wp2
            first
              | exact ⟨⟨k + 1, by omega, by go_num, US, RQU, HAN.out, NU.lo⟩, by simp [intOf]; omega⟩
              | exact ⟨⟨k + 1, by omega, by go_num, RSQ, QS, HAN.out, NQ.lo⟩, by simp [intOf]; omega⟩
      · obtain rfl : k = ws.length := by omega
        have HOK : Hid (okSh x ws = true) := Lib.hid (by rw [okSh_rests HOW.out, List.all_eq_true]; exact fun i hi => hall i (List.mem_range.1 hi))
        obtain ⟨Au, cu, rfl⟩ := rowS_len hS
        obtain ⟨Aq, cq, rfl⟩ := rowQ_len hQ
        rw [lowI_len] at hS ⊢
        rw [restK_len] at hQ ⊢
        have HE := Lib.hid (show LowPost x ws w (.returned (.tuple #[.slice Au ws.length cu, .slice Aq ws.length cq, .bool true])) wr from ⟨_, _, by rw [HOK.out], fun _ => ⟨rowS_low (by rw [← lowI_parts (good_of HOK.out)]; exact hS) (by omega), rowQ_low hQ (by omega)⟩, Below.next BB1.out hb⟩)
        clear hS hQ hall hb
        go_wp2
        refine bodyPost_ret (v := .tuple #[.slice Au ws.length cu, .slice Aq ws.length cq, .bool true]) (by simp [results, Tryz.results53, go_sem]) rfl ?_
        exact HE.out
end Go.Proofs.YtofehcpapdlcnabGreatDoor

namespace Go.Proofs.YtofehcpapdlcnabGreatDoor
open Go.RowKit

/-- the numbers from 0 on, as values -/
def idV (k : Nat) : List Value := (List.range k).map fun i : Nat => Value.int .i64 (i : Int)
theorem idV_succ (k : Nat) : idV (k + 1) = idV k ++ [Value.int .i64 (k : Int)] := by unfold idV; rw [List.range_succ, List.map_append]; rfl
theorem idV_get {k i : Nat} (h : i < k) : (idV k)[i]? = some (Value.int .i64 (i : Int)) := by unfold idV; simp [h]
/-- what ranking leaves -/
def RankPost (r : Nat → Nat) (n0 : Nat) (w : World) (e : Ending) (w' : World) : Prop :=
  ∃ (bl cap : Nat) (f : Nat → Nat), e = .returned (.slice (some ⟨bl, 0, none⟩) n0 cap) ∧ w.heap.size ≤ bl ∧ bl < w'.heap.size ∧ n0 ≤ cap ∧ PL bl n0 f w' ∧ (∀ k, k < n0 → f k < n0) ∧ Same 0 n0 idN f ∧ Srt r f 0 n0 ∧ Below w.heap.size w w'
theorem pl_of_own {w : World} {base n bl cap : Nat} (h : w.ownsRow base 3 1 (.slice (some ⟨bl, 0, none⟩) n cap) n (idV n)) : PL bl n idN w := by
  intro k hk
  refine ⟨?_, h.frozenAt k⟩
  have := h.cellAt k (by omega)
  rw [idV_get hk] at this
  exact this
theorem intInfoR : (Tryz.prog.info? 3).map (fun i => (i.zero, i.size, i.bytes)) = some (some (.int .i64 0), 1, 8) := by kernel_rfl
set_option maxHeartbeats 4000000 in
set_option maxRecDepth 100000 in
theorem ranking_any (sg : Int) (B : Nat) (v : Value) (ys : List QI) (r : Nat → Nat) (w : World) (hsg : -1 ≤ sg ∧ sg ≤ 1) (hB : B < w.heap.size) (hc : w.cell? ⟨B, 0, none⟩ = some (.int .i64 sg)) (hn1 : 1 ≤ ys.length) (hn2 : ys.length ≤ 30) (hz : ∀ x ∈ ys, szQ x ≤ 1048576)
    (hval : ∀ (i j : Nat) (x y : QI), ys[i]? = some x → ys[j]? = some y → sg * cmpQ y x = cmpI (r j) (r i)) (hv : OwnQR w v ys) (hsen : Sen w) :
    Calls Tryz.prog 61 #[v, .func (.func 55) #[] #[.pointer (some ⟨B, 0, none⟩)]] w (RankPost r ys.length w) := by
  obtain ⟨i0, hi0, hz0, hz1, hz2⟩ := info_parts intInfoR
  have HS := Lib.hid hsen
  have HV := Lib.hid hv
  have HVAL := Lib.hid hval
  have HCB := Lib.hid hc
  have HZ := Lib.hid hz
  obtain ⟨A, c, rfl, _⟩ := hv
  clear hsen hval hc hz
  have bb0 : Below w.heap.size w ((w.alloc (.cells #[.slice A ys.length c] 61)).alloc (.cells #[.func (.func 55) #[] #[.pointer (some ⟨B, 0, none⟩)]] 78)) := below_al (below_al (Below.refl _ _) _) _
  have kl := (box_new w #[.slice A ys.length c] 61).below (below_al (Below.refl _ _) (.cells #[.func (.func 55) #[] #[.pointer (some ⟨B, 0, none⟩)]] 78))
  have kc := box_new (w.alloc (.cells #[.slice A ys.length c] 61)) #[.func (.func 55) #[] #[.pointer (some ⟨B, 0, none⟩)]] 78
  rw [show (w.alloc (.cells #[.slice A ys.length c] 61)).heap.size = w.heap.size + 1 by simp] at kc
  go_enter Tryz.func61, Tryz.ntmps61
  have kl_c0 := kl.here.cell 0 _ rfl
  go_wp2
  obtain ⟨w1, hw1⟩ : ∃ W, W = ((w.alloc (.cells #[.slice A ys.length c] 61)).alloc (.cells #[.func (.func 55) #[] #[.pointer (some ⟨B, 0, none⟩)]] 78)) := ⟨_, rfl⟩
  clear kl_c0
  rw [← hw1] at kl kc bb0 ⊢
  clear hw1
  have hk1 := kc.lt (w.heap.size + 1) (by simp)
  have HKL := Lib.hid kl
  have HKC := Lib.hid kc
  have HBB := Lib.hid bb0
  clear kl kc bb0
  go_loopw [5, 9] (fun u i wr => ∃ k : Nat, k ≤ ys.length ∧ i = .int .i64 k ∧ wr.ownsRow w1.heap.size 3 1 u k (idV k) ∧ Below w1.heap.size w1 wr) (fun _ i _ => ys.length - (intOf i).toNat)
  case atStart => exact ⟨0, Nat.zero_le _, rfl, ⟨rfl, .inl ⟨rfl, rfl⟩⟩, Below.refl _ _⟩
  case round =>
    obtain ⟨k, hk, rfl, hown, hb⟩ := hrel
    have hbs := hb.size
    by_cases hlt : k < ys.length
    · have HA := Lib.hid (own_alloc hown (.cells #[.int .i64 (k : Int)] 3))
      have HO := Lib.hid (one_new wr (.int .i64 (k : Int)) 3)
      have HOWN := Lib.hid hown
      have HBW := Lib.hid hb
      clear hown hb
      go_wp2_with (at_builtin; refine wpList_append_own _ rfl (.tmp 12) (.tmp 14) 22 rfl w1.heap.size 3 i0 (.int .i64 0) 1 8 Tryz.underlying22 hi0 hz0 hz1 hz2 rfl (by decide) _ _ _ rfl HA.out ⟨wr.heap.size, 0, none⟩ 1 1 [.int .i64 (k : Int)] rfl rfl HO.out ?c2 ?c3 ?c4 ?c5 ?_)
      case c2 => first | rfl | (intro u hu; simp at hu; subst hu; rfl)
      case c3 => unfold maxLen; omega
      case c4 => omega
      case c5 => simp; omega
      intro v1 w2 hown2 hg2 _
      have hb2 := below_push (o := .cells #[.int .i64 (k : Int)] 3) HBW.out (Nat.le_refl _) HOWN.out hg2
      rw [← idV_succ] at hown2
      go_wp2
      exact ⟨⟨k + 1, by omega, by go_num, hown2, hb2⟩, by simp [intOf]; omega⟩
    · obtain rfl : k = ys.length := by omega
      obtain ⟨bl, cap, rfl, hbl1, hbl2, hcap⟩ := own_form hown (by omega)
      have hblw : w.heap.size + 1 < bl := by omega
      have HBW := Lib.hid (Below.next HBB.out hb)
      have HPLW := Lib.hid (show PLW bl ys.length idN wr wr from ⟨pl_of_own hown, Chg.refl _ _, hbl2, fun k hk => hk⟩)
      have hwr := HBW.out.size
      have HCMP := Lib.hid (show CmpAt 98 #[.pointer (some ⟨w.heap.size + 1, 0, none⟩), .pointer (some ⟨w.heap.size, 0, none⟩)] r bl ys.length wr from by
        refine ⟨enters_of Tryz.func98 (by kernel_rfl) rfl, fun W hW x y hx hy => ?_⟩
        have hbW : Below w.heap.size w W := below_chg HBW.out hW hwr (fun i hi => by simp at hi; omega)
        have hsz := hW.size
        have k1 : W.cell? ⟨w.heap.size + 1, 0, none⟩ = some (.func (.func 55) #[] #[.pointer (some ⟨B, 0, none⟩)]) := ((HKC.out.below hb).chg hW (fun i hi hm => by simp at hi hm; omega)).here.cell 0 _ rfl
        have k2 : W.cell? ⟨w.heap.size, 0, none⟩ = some (.slice A ys.length c) := ((HKL.out.below hb).chg hW (fun i hi hm => by simp at hi hm; omega)).here.cell 0 _ rfl
        have hxx := List.getElem?_eq_getElem hx
        have hyy := List.getElem?_eq_getElem hy
        have h := rankCmp_any sg B (w.heap.size + 1) w.heap.size (.slice A ys.length c) ys x y _ _ W hsg (Nat.lt_of_lt_of_le hB hbW.size) ((hbW.cell (p := ⟨B, 0, none⟩) hB).trans HCB.out) k1 k2 (by omega) (by omega) hn2 hxx hyy (HZ.out _ (List.getElem_mem hx)) (HZ.out _ (List.getElem_mem hy)) (HV.out.below hbW) (HS.out.below hbW)
        rw [HVAL.out x y _ _ hxx hyy] at h
        exact h)
      clear hown hb
      go_wp2_with fail
      refine (sortStable_any _ _ r bl ys.length _ _ HCMP.out HPLW.out hn2).mono ?_
      rintro e w2 ⟨rfl, f, hp, hs, ht⟩
      have HF := Lib.hid (show RankPost r ys.length w (.returned (.slice (some ⟨bl, 0, none⟩) ys.length cap)) w2 from ⟨bl, cap, f, rfl, by omega, hp.lt, hcap, hp.pl, hp.bd, hs, ht, below_chg HBW.out hp.ch hwr (fun i hi => by simp at hi; omega)⟩)
      clear hp hs ht
      go_wp2
      go_ret
      exact HF.out
end Go.Proofs.YtofehcpapdlcnabGreatDoor

namespace Go.Proofs.YtofehcpapdlcnabGreatDoor
open Go.RowKit

theorem restK_at {x : SI} {ws : List Int} {i : Nat} {y : QI} (h : (restK x ws ws.length)[i]? = some y) : i < ws.length ∧ y = restQ (fairF x ws i) 0 := by
  unfold restK at h
  rw [List.getElem?_map] at h
  by_cases hi : i < ws.length
  · rw [List.getElem?_range hi] at h
    simp at h
    exact ⟨hi, h.symm⟩
  · rw [List.getElem?_eq_none (by simp; omega)] at h
    simp at h
theorem restK_cmp {x : SI} {ws : List Int} (h : Good x ws) : ∀ (i j : Nat) (y z : QI), (restK x ws ws.length)[i]? = some y → (restK x ws ws.length)[j]? = some z → sgX x * cmpQ z y = cmpI (rN x ws j) (rN x ws i) := by
  intro i j y z hy hz
  obtain ⟨hi, rfl⟩ := restK_at hy
  obtain ⟨hj, rfl⟩ := restK_at hz
  exact h.cmp hi hj
theorem restK_sz (x : SI) (ws : List Int) : ∀ y ∈ restK x ws ws.length, szQ y ≤ 1048576 := by
  intro y hy
  unfold restK at hy
  obtain ⟨i, _, rfl⟩ := List.mem_map.1 hy
  exact restQ_szP _
/-- the loop of impl's Shares -/
def GiveI (x : SI) (ws : List Int) (f : Nat → Nat) (g : Nat) (cu : Nat) (w1 w9 : World) (i : Value) (wr : World) : Prop :=
  ∃ k : Nat, k ≤ missN x ws ∧ i = .int .i64 k ∧ RowS w1.heap.size (.slice (some ⟨g, 0, none⟩) ws.length cu) (partsK x ws ((List.range k).map f)) wr ∧ Chg [g] w9 wr
theorem map_next {x : SI} {ws : List Int} {f : Nat → Nat} {k : Nat} (ht : Top (rN x ws) ws.length ((List.range (k + 1)).map f)) : f k ∉ (List.range k).map f ∧ partsK x ws (f k :: (List.range k).map f) = partsK x ws ((List.range (k + 1)).map f) := by
  have h := ht.1
  rw [List.range_succ, List.map_append] at h ⊢
  refine ⟨fun hm => ?_, partsK_mem fun i => by simp [or_comm]⟩
  exact (List.nodup_append.1 h).2.2 _ hm _ (by simp) rfl
theorem sg_unit {x : SI} {ws : List Int} (h : Good x ws) (hm : 0 < missN x ws) : sgX x = sgZ x.1 1 := by
  rw [sgX_is h.okx, if_neg]
  unfold missN at hm
  omega
theorem PL.chgS {bl n g : Nat} {f : Nat → Nat} {w w' : World} (h : PL bl n f w) (hl : bl < w.heap.size) (hne : ¬ bl = g) (hc : Chg [g] w w') : PL bl n f w' := by
  intro k hk
  have e := hc.block bl hl (by simp; exact hne)
  have h1 := h k hk
  unfold World.cell? World.frozen? at *
  simp only [e]
  exact h1
set_option maxHeartbeats 8000000 in
set_option maxRecDepth 100000 in
theorem implShares_of (v vw : Value) (x : SI) (ws : List Int) (w : World) (hlx : x.2.length ≤ 1048576) (hlw : ws.length ≤ 1048576) (h : OwnS v x w) (hsen : Sen w)
    (hlow : ∀ (u : Value) (W : World), Below w.heap.size w W → OwnS u x W → Calls Tryz.prog 53 #[u, vw] W (LowPost x ws W)) :
    Calls Tryz.prog 18 #[v, vw] w (SharesPost x ws w) := by
  have HSEN := Lib.hid hsen
  have HLOW := Lib.hid hlow
  clear hsen hlow
  have Hx := Lib.hid h
  obtain ⟨Ax, cx, rfl⟩ := ownS_form h
  have OSx := Lib.hid (show ∀ W, Below w.heap.size w W → OwnS (.agg #[.bool x.1, .slice Ax x.2.length cx]) x W from fun W hb => OwnS.below Hx.out hb)
  clear h Hx
  have kx := box_new w #[.bool x.1, .slice Ax x.2.length cx] 29
  obtain ⟨w1, hw1⟩ : ∃ W, W = w.alloc (.cells #[.bool x.1, .slice Ax x.2.length cx] 29) := ⟨_, rfl⟩
  have hs1 : w1.heap.size = w.heap.size + 1 := by rw [hw1]; simp
  have BB1 := Lib.hid (show Below w.heap.size w w1 by rw [hw1]; exact below_al (Below.refl _ _) _)
  have kx_c0 := kx.here.cell 0 _ rfl
  have kx_c1 := kx.here.cell 1 _ rfl
  go_enter Tryz.func18, Tryz.ntmps18
  go_wp2_with fail
  rw [← hw1] at kx ⊢
  have hq1 : w.heap.size + 1 ≤ w1.heap.size := by omega
  clear hw1 hs1 kx_c0 kx_c1
  refine (HLOW.out _ _ BB1.out (OSx.out _ BB1.out)).mono ?_
  rintro e w2 ⟨vu, vq, rfl, hrows, b2⟩
  have bb2 := Below.next BB1.out b2
  obtain ⟨ok, hok⟩ : ∃ b, okSh x ws = b := ⟨_, rfl⟩
  rw [hok] at hrows ⊢
  have HOK := Lib.hid hok
  clear hok
  have kx2 := kx.below b2
  cases ok with
  | false =>
    clear hrows kx kx2
    go_wp2
    go_ret2
    exact sharesPost_no HOK.out bb2
  | true =>
    obtain ⟨hS, hQ⟩ := hrows rfl
    have HG := Lib.hid (good_of HOK.out)
    have HSW := Lib.hid hS
    have HQW := Lib.hid hQ
    obtain ⟨Au, cu, rfl⟩ := rowS_len hS
    obtain ⟨Aq, cq, rfl⟩ := rowQ_len hQ
    rw [partsK_len] at HSW ⊢
    rw [restK_len] at HQW ⊢
    have hl30 := HG.out.wts.l2
    have hpos := HG.out.wts.l1
    have hz2 := b2.size
    clear hrows hS hQ kx
    have kx_c0 := kx2.here.cell 0 _ rfl
    have kx_c1 := kx2.here.cell 1 _ rfl
    go_wp2_with fail
    clear kx_c0 kx_c1
    refine (implIntSign_any _ x _ hlx (OSx.out _ bb2)).mono ?_
    rintro e w3 ⟨rfl, b3⟩
    have hz3 := b3.size
    obtain ⟨sg, hsg⟩ : ∃ s, cmpS x zeroS = s := ⟨_, rfl⟩
    rw [hsg]
    have HSG := Lib.hid (show sgX x = sg from hsg)
    clear hsg
    go_upto_region 6 with fail
    have k9 := box_new w3 #[.int .i64 sg] 3
    have al4 : Below w3.heap.size w3 (w3.alloc (.cells #[.int .i64 sg] 3)) := below_al (Below.refl _ _) _
    have hs4 : w3.heap.size + 1 ≤ (w3.alloc (.cells #[.int .i64 sg] 3)).heap.size := by simp
    obtain ⟨w4, hw4⟩ : ∃ W, W = (w3.alloc (.cells #[.int .i64 sg] 3)) := ⟨_, rfl⟩
    rw [← hw4] at k9 al4 hs4 ⊢
    clear hw4
    have b24 : Below w2.heap.size w2 w4 := b3.trans (al4.mono b3.size)
    have bb4 := Below.next bb2 b24
    have kx4 := kx2.below b24
    have HCr := Lib.hid (Chg.refl [] w4)
    have HC0 := Lib.hid (show Chg [] w4 w4.drew from (Chg.refl _ _).drew1)
    have RSW := Lib.hid (show ∀ W, Chg [] w4 W → RowS w1.heap.size (.slice Au ws.length cu) (partsK x ws []) W from fun W hc => (HSW.out.below b24).stays fun i _ hi => hc.block i hi (by simp))
    have KL := Lib.hid (show ∀ W, Chg [] w4 W → W.cell? ⟨w.heap.size, 0, none⟩ = some (.bool x.1) ∧ W.cell? ⟨w.heap.size, 1, none⟩ = some (.slice Ax x.2.length cx) ∧ Hid (Chg [] w4 W) from fun W hc => ⟨(kx4.chg hc (fun i hi hm => by simp at hm)).here.cell 0 _ rfl, (kx4.chg hc (fun i hi hm => by simp at hm)).here.cell 1 _ rfl, Lib.hid hc⟩)
    have BBF := Lib.hid (show ∀ W, Chg [] w4 W → Below w.heap.size w W from fun W hc => below_chg bb4 hc bb4.size (fun i hi => by simp at hi))
    obtain ⟨s1, hs1⟩ : ∃ s, sumS (partsK x ws []) = s := ⟨_, rfl⟩
    have hl1 : s1.2.length ≤ 1048576 := by rw [← hs1]; exact sumS_lenS (partsK_ok _ _ _)
    obtain ⟨s2, hs2⟩ : ∃ s, subS x s1 = s := ⟨_, rfl⟩
    have hl2 : s2.2.length ≤ 1048576 := by rw [← hs2]; exact subS_lenS _ _
    obtain ⟨s3, hs3⟩ : ∃ s, absS s2 = s := ⟨_, rfl⟩
    have hl3 : s3.2.length ≤ 1048576 := by rw [← hs3]; exact absS_lenS _
    have hmiss := HG.out.miss
    rw [hs1, hs2, hs3] at hmiss
    have HM := Lib.hid hmiss.1
    have hml := hmiss.2
    have HS1 := Lib.hid hs1
    have HS2 := Lib.hid hs2
    have HS3 := Lib.hid hs3
    clear hs1 hs2 hs3 hmiss kx4 kx2
    have kl := KL.out _ HCr.out
    have kx_c0 := kl.1
    have kx_c1 := kl.2.1
    have HLEN := Lib.hid (partsK_len x ws [])
    clear kl
    go_region_held3 (fun W => W.cell? ⟨w.heap.size, 0, none⟩ = some (.bool x.1) ∧ W.cell? ⟨w.heap.size, 1, none⟩ = some (.slice Ax x.2.length cx) ∧ Hid (Chg [] w4 W))
      ((refine KL.out _ ?_; (first | exact HC8.out | exact HC7.out | exact HC6.out | exact HC5.out | exact HCr.out | exact HC0.out | exact HC8.out.drew1 | exact HC7.out.drew1 | exact HC6.out.drew1 | exact HC5.out.drew1 | exact HCr.out.drew1 | fail)))
      (first
        | (go_at_call 60; (have hBB := (‹_ ∧ _ ∧ Hid (Chg [] w4 _)›).2.2); (with_reducible refine ((implIntSum_any _ (partsK x ws []) _ (by rw [HLEN.out]; omega) (partsK_sz _ _ _) (RSW.out _ hBB.out).ownR).mono fun _ _ h => newS_isS HS1.out h).mono ?_); rintro e w5 ⟨u3, S3, rfl, o3, l3, b5⟩; have HC5 := Lib.hid (hBB.out.trans (Chg.of_below b5)); obtain ⟨A3, c3, rfl⟩ := ownS_form o3.here; clear hBB)
        | (go_at_call 59; (have hBB := (‹_ ∧ _ ∧ Hid (Chg [] w4 _)›).2.2); (with_reducible refine ((implIntSub_any _ _ x s1 _ hlx hl1 (OSx.out _ (BBF.out _ hBB.out)) (At.here (by first | exact o3 | exact At.move o3 (fun _ _ => rfl) (Nat.le_refl _)))).mono fun _ _ h => newS_isS HS2.out h).mono ?_); rintro e w6 ⟨u4, S4, rfl, o4, l4, b6⟩; have HC6 := Lib.hid (hBB.out.trans (Chg.of_below b6)); obtain ⟨A4, c4, rfl⟩ := ownS_form o4.here; clear hBB)
        | (go_at_call 58; (have hBB := (‹_ ∧ _ ∧ Hid (Chg [] w4 _)›).2.2); (with_reducible refine ((implIntAbs_any _ s2 _ hl2 (At.here (by first | exact o4 | exact At.move o4 (fun _ _ => rfl) (Nat.le_refl _)))).mono fun _ _ h => newS_isS HS3.out h).mono ?_); rintro e w7 ⟨u5, S5, rfl, o5, l5, b7⟩; have HC7 := Lib.hid (hBB.out.trans (Chg.of_below b7)); obtain ⟨A5, c5, rfl⟩ := ownS_form o5.here; clear hBB)
        | (go_at_call 57; (have hBB := (‹_ ∧ _ ∧ Hid (Chg [] w4 _)›).2.2); (with_reducible refine (implIntNum_any _ s3 _ hl3 (At.here (by first | exact o5 | exact At.move o5 (fun _ _ => rfl) (Nat.le_refl _)))).mono ?_); rintro e w8 ⟨rfl, b8⟩; rw [HM.out]; have HC8 := Lib.hid (hBB.out.trans (Chg.of_below b8)); clear hBB))
    have bb8 := BBF.out _ HC8.out
    have RS8 := RSW.out _ HC8.out
    have hz8 := HC8.out.size
    have B28 : Below w2.heap.size w2 w8 := below_chg b24 HC8.out b24.size (fun i hi => by simp at hi)
    have k98 := k9.chg HC8.out (fun i hi hm => by simp at hm)
    have hb8 : w3.heap.size < w8.heap.size := by omega
    have HVAL := Lib.hid (restK_cmp HG.out)
    rw [HSG.out] at HVAL
    have hsg : -1 ≤ sg ∧ sg ≤ 1 := by rw [← HSG.out]; exact sgX_small
    have kl := KL.out _ HC8.out
    clear o3 o4 o5 l3 l4 l5 b5 b6 b7 b8 HC5 HC6 HC7 HC0 HM HS1 HS2 HS3 hl1 hl2 hl3 kx_c0 kx_c1 RSW kl
    go_wp2_with fail
    refine (ranking_any sg w3.heap.size _ (restK x ws ws.length) (rN x ws) _ hsg hb8 (k98.here.cell 0 _ rfl) (by rw [restK_len]; exact hpos) (by rw [restK_len]; exact hl30) (restK_sz x ws) HVAL.out (HQW.out.below B28).ownQR (HSEN.out.below bb8)).mono ?_
    rintro e w9 ⟨bl, cap, f, rfl, hbl1, hbl2, hcap, hpl, hfb, hsame, hsrt, b9⟩
    rw [restK_len] at hcap hpl hfb hsame hsrt ⊢
    have bb9 := Below.next bb8 b9
    have hz9 := b9.size
    have RS9 := RS8.below b9
    have k99 := k98.below b9
    obtain ⟨g, cg, Ap0, cp0, eu, hgB, hgl8, _, _⟩ := rowS_place RS8 (p := 0) (y := (partsK x ws [])[0]'(by rw [partsK_len]; exact hpos)) (List.getElem?_eq_getElem _)
    rw [partsK_len] at eu
    obtain ⟨rfl, rfl⟩ : Au = some ⟨g, 0, none⟩ ∧ cu = cg := by injection eu with h1 h2 h3; exact ⟨h1, h3⟩
    have B19 : Below w1.heap.size w1 w9 := (b2.trans ((B28.trans (b9.mono B28.size)).mono b2.size))
    have HTOP := Lib.hid (show ∀ m, m ≤ ws.length → Top (rN x ws) ws.length ((List.range m).map f) from fun m hm => top_srt hsrt hsame hm)
    have HFB := Lib.hid hfb
    have hneb : ¬ bl = g := by omega
    have hgw3 : ¬ g = w3.heap.size := fun e => by
      obtain ⟨_, h1, _⟩ := HSW.out
      have := (own_lt (g := g) h1 rfl).2
      omega
    have HPL := Lib.hid (show ∀ W, Chg [g] w9 W → PL bl ws.length f W from fun W hc => PL.chgS hpl hbl2 hneb hc)
    have HK9 := Lib.hid (show ∀ W, Chg [g] w9 W → W.cell? ⟨w3.heap.size, 0, none⟩ = some (.int .i64 sg) from fun W hc => (k99.chg hc (fun i hi hm => by simp at hi hm; omega)).here.cell 0 _ rfl)
    have HST := Lib.hid (show GiveI x ws f g cu w1 w9 (.int .i64 0) w9 from ⟨0, Nat.zero_le _, rfl, RS9, Chg.refl _ _⟩)
    have q1 : (missN x ws : Int) ≤ (cap : Int) := by omega
    have q2 : (0 : Int) ≤ (missN x ws : Int) := by omega
    have q3 : ((missN x ws : Int)).toNat = missN x ws := by omega
    clear eu RS8 RS9 k9 k98 k99 hpl hsrt hsame hfb HVAL hsg B28
    obtain ⟨mm, hmm⟩ : ∃ m, missN x ws = m := ⟨_, rfl⟩
    rw [hmm] at q1 q2 q3 hml ⊢
    have HMM := Lib.hid hmm
    clear hmm
    go_wp2
    go_loopw [42] (fun i wr => GiveI x ws f g cu w1 w9 i wr) (fun i _ => mm - (intOf i).toNat)
    case atStart => exact HST.out
    case round =>
      clear HST
      obtain ⟨k, hk, rfl, hS, hc⟩ := hrel
      rw [HMM.out] at hk
      have hzr := hc.size
      have B1r : Below w1.heap.size w1 wr := below_chg B19 hc B19.size (fun i hi => by simp at hi; omega)
      by_cases hlt : k < mm
      · have hkn : k < ws.length := by omega
        have hm0 : 0 < missN x ws := by rw [HMM.out]; omega
        obtain ⟨p, hfk⟩ : ∃ p, f k = p := ⟨_, rfl⟩
        have hp : p < ws.length := by rw [← hfk]; exact HFB.out k hkn
        have r_c0 := (HPL.out wr hc k hkn).1
        have hmk := map_next (HTOP.out (k + 1) (by omega))
        rw [hfk] at r_c0 hmk
        obtain ⟨e1, e2, e3⟩ := HG.out.bump hp hmk.1 hm0
        rw [hmk.2] at e3
        obtain ⟨g', cg', Ap, cp, eu, _, hgl, hplace, op⟩ := rowS_place hS e2
        obtain rfl : g = g' := by injection eu with h1; injection h1 with h1; injection h1
        obtain ⟨y0, hy0⟩ : ∃ y, ofZ (sgZ x.1 (qN x ws p)) = y := ⟨_, rfl⟩
        obtain ⟨yo, hyo⟩ : ∃ y, ofZ sg = y := ⟨_, rfl⟩
        obtain ⟨yn, hyn⟩ : ∃ y, ofZ (sgZ x.1 (qN x ws p + 1)) = y := ⟨_, rfl⟩
        have hl0 : y0.2.length ≤ 1048576 := by rw [← hy0]; exact Nat.le_trans (ofZ_len _) (by decide)
        have hlo : yo.2.length ≤ 1048576 := by rw [← hyo]; exact Nat.le_trans (ofZ_len _) (by decide)
        rw [hy0] at e1 e2 op hplace
        rw [← sg_unit HG.out hm0, HSG.out, hyo] at e1
        rw [hyn] at e1 e3
        have hsg : -1 ≤ sg ∧ sg ≤ 1 := by rw [← HSG.out]; exact sgX_small
        have HE1 := Lib.hid e1
        have HE3 := Lib.hid e3
        have HYO := Lib.hid hyo
        have HOP := Lib.hid (show ∀ W, Below wr.heap.size wr W → OwnS (.agg #[.bool y0.1, .slice Ap y0.2.length cp]) y0 W from fun W hb => op.below hb)
        have HPC := Lib.hid (show ∀ W, Below wr.heap.size wr W → W.cell? ⟨g, p * 2, none⟩ = some (.bool y0.1) ∧ W.cell? ⟨g, p * 2 + 1, none⟩ = some (.slice Ap y0.2.length cp) ∧ W.frozen? ⟨g, p * 2, none⟩ = false ∧ W.frozen? ⟨g, p * 2 + 1, none⟩ = false from fun W hb => hplace W (hb.block g hgl))
        have HRS := Lib.hid hS
        have HCC := Lib.hid hc
        have p_c0 := (hplace wr rfl).1
        have p_c1 := (hplace wr rfl).2.1
        have s_c0 := HK9.out wr hc
        have HKS := Lib.hid (show ∀ W, Below wr.heap.size wr W → W.cell? ⟨w3.heap.size, 0, none⟩ = some (.int .i64 sg) from fun W hb => (hb.cell (p := ⟨w3.heap.size, 0, none⟩) (by show w3.heap.size < _; omega)).trans s_c0)
        have q4 : (k : Int) < (mm : Int) := by omega
        have q5 : (0 : Int) ≤ (k : Int) := by omega
        have q6 : (p : Int) < (ws.length : Int) := by omega
        have q7 : (0 : Int) ≤ (p : Int) := by omega
        have q8 : ((p : Int)).toNat = p := by omega
        clear hfk hmk e1 e2 e3 eu hy0 hyo hyn op hplace hS hc B1r
        go_upto_region 10 with fail
        clear r_c0
        go_region_law (first
          | (go_simp; go_at_call 63; refine ((implIntOf_any sg _ (by omega) (by omega)).mono fun _ _ h => newS_isS HYO.out h).mono ?_; rintro e w10 ⟨u10, S10, rfl, o10, l10, b10⟩; replace b10 : Below wr.heap.size wr w10 := (by first | exact b10 | exact (Below.refl _ _).drew.trans b10); obtain ⟨A10, c10, rfl⟩ := ownS_form o10.here; have HB10 := Lib.hid b10; have HO10 := Lib.hid o10; have m_c0 := (HPC.out _ b10).1; have m_c1 := (HPC.out _ b10).2.1; clear o10 l10 b10)
          | (go_simp; go_at_call 62; refine ((implIntAdd_any _ _ y0 yo _ hl0 hlo (HOP.out _ (by first | exact HB10.out | exact HB10.out.drew)) (by first | exact HO10.out.here | exact (At.move HO10.out (fun _ _ => rfl) (Nat.le_refl _)).here)).mono fun _ _ h => newS_isS HE1.out h).mono ?_; rintro e w11 ⟨u11, S11, rfl, o11, l11, b11⟩; replace b11 : Below wr.heap.size wr w11 := (by first | exact Below.next HB10.out b11 | exact Below.next HB10.out.drew b11); obtain ⟨A11, c11, rfl⟩ := ownS_form o11.here; have hz11 := HB10.out.size; replace l11 : ∀ i ∈ S11, wr.heap.size ≤ i := (fun i hi => Nat.le_trans hz11 (l11 i hi).1); have f0 := (HPC.out _ b11).2.2.1; have f1 := (HPC.out _ b11).2.2.2; have d0 := (HPC.out _ b11).1; have d1 := (HPC.out _ b11).2.1; have HB11 := Lib.hid b11; have HO11 := Lib.hid o11; have HL11 := Lib.hid l11; clear o11 l11 b11))
        all_goals
          obtain ⟨w12, hw12⟩ : ∃ W, W = (w11.setCell ⟨g, p * 2, none⟩ (.bool yn.1)).setCell ⟨g, p * 2 + 1, none⟩ (.slice A11 yn.2.length c11) := ⟨_, rfl⟩
          rw [← hw12]
          have RS12 : RowS w1.heap.size (.slice (some ⟨g, 0, none⟩) ws.length cu) (partsK x ws ((List.range (k + 1)).map f)) w12 := by
            have h := rowS_set (k := p) (x := yn) (un := .slice A11 yn.2.length c11) (W0 := wr) (W := w11) (N := wr.heap.size) (B := w1.heap.size) (g := g) (c := cu) (l := partsK x ws ((List.range k).map f)) (by rw [partsK_len]; exact HRS.out) (by rw [partsK_len]; exact hp) (fun i hi => HB11.out.block i hi) (Nat.le_refl _) (ownS_row HO11.out HL11.out) (by omega)
            rw [partsK_len, HE3.out, ← hw12] at h
            exact h
          have hc12 : Chg [g] w9 w12 := by
            rw [hw12]
            exact ((HCC.out.trans (Chg.of_below HB11.out)).setCell (by simp) _).setCell (by simp) _
          clear hw12 HRS HCC HB11 HO11 HL11 HB10 HO10 d0 d1 f0 f1
          go_wp2
          exact ⟨⟨k + 1, by rw [HMM.out]; omega, by go_num, RS12, hc12⟩, by simp [intOf]; omega⟩
      · obtain rfl : k = mm := by omega
        have HE := Lib.hid (sharesPost_yes HOK.out (by rw [← shares_top (HTOP.out k hml) (by simp; exact HMM.out.symm)]; exact hS) (show w.heap.size ≤ w1.heap.size by omega) (Below.next BB1.out B1r))
        clear hS hc
        go_wp2
        go_ret2
        exact HE.out
end Go.Proofs.YtofehcpapdlcnabGreatDoor

namespace Go.Proofs.YtofehcpapdlcnabGreatDoor
open Go.RowKit

theorem implShares_any (v vw : Value) (x : SI) (ws : List Int) (lo hi : Nat) (w : World) (hlx : x.2.length ≤ 1048576) (hlw : ws.length ≤ 1048576) (hhi : hi ≤ w.heap.size) (h : OwnS v x w) (hr : Row w lo hi vw (intsV ws)) (hsen : Sen w) :
    Calls Tryz.prog 18 #[v, vw] w (SharesPost x ws w) :=
  implShares_of v vw x ws w hlx hlw h hsen fun u W hb ho => lowShares_any u vw x ws lo hi W hlx hlw (Nat.le_trans hhi hb.size) ho (Row.below hr hb hhi) (hsen.below hb)
end Go.Proofs.YtofehcpapdlcnabGreatDoor

namespace Go.Proofs.YtofehcpapdlcnabGreatDoor
open Go.RowKit

theorem sharesR_len (x : SI) (ws : List Int) : (sharesR x ws).1.length ≤ ws.length ∧ ∀ y ∈ (sharesR x ws).1, y.2.length ≤ 50 := by
  unfold sharesR
  split
  · unfold sharesL
    refine ⟨by simp, fun y hy => ?_⟩
    obtain ⟨i, _, rfl⟩ := List.mem_map.1 hy
    exact ofZ_len _
  · exact ⟨Nat.zero_le _, fun y hy => absurd hy List.not_mem_nil⟩
theorem okSh_len {x : SI} {ws : List Int} (h : (sharesR x ws).2 = true) : (sharesR x ws).1.length ≤ 30 := by
  refine Nat.le_trans (sharesR_len x ws).1 ?_
  have hk : okSh x ws = true := by
    unfold sharesR at h
    split at h
    · assumption
    · cases h
  unfold okSh at hk
  rw [Bool.and_eq_true] at hk
  have hw := hk.1
  by_cases hl : 1 ≤ ws.length ∧ ws.length ≤ 30
  · exact hl.2
  · rw [okW_badlen hl] at hw
    cases hw
end Go.Proofs.YtofehcpapdlcnabGreatDoor

namespace Go.Proofs.YtofehcpapdlcnabGreatDoor
open Go.RowKit

/-- how many marks there are room for -/
def mkL : List SI → Int
  | [] => 0
  | x :: l => 1 + szS x + mkL l
theorem mkL_nonneg (l : List SI) : 0 ≤ mkL l := by
  induction l with
  | nil => exact Int.le_refl _
  | cons x l ih => show 0 ≤ 1 + szS x + mkL l; unfold szS szI; omega
theorem mkL_len (l : List SI) : (l.length : Int) ≤ mkL l := by
  induction l with
  | nil => exact Int.le_refl _
  | cons x l ih => show ((l.length + 1 : Nat) : Int) ≤ 1 + szS x + mkL l; unfold szS szI; omega
theorem mkL_append (l r : List SI) : mkL (l ++ r) = mkL l + mkL r := by
  induction l with
  | nil => show mkL r = 0 + mkL r; omega
  | cons x l ih => show 1 + szS x + mkL (l ++ r) = 1 + szS x + mkL l + mkL r; rw [ih]; omega
theorem mkL_take {l : List SI} {j : Nat} {x : SI} (h : l[j]? = some x) : mkL (l.take (j + 1)) = mkL (l.take j) + (1 + szS x) := by
  have hj := (List.getElem?_eq_some_iff.1 h).1
  have e : l[j] = x := (List.getElem?_eq_some_iff.1 h).2
  rw [List.take_succ_eq_append_getElem hj, mkL_append, e]
  show _ + (1 + szS x + 0) = _
  omega
theorem mkL_take_le (l : List SI) (j : Nat) : mkL (l.take j) ≤ mkL l := by
  have := mkL_append (l.take j) (l.drop j)
  rw [List.take_append_drop] at this
  have := mkL_nonneg (l.drop j)
  omega
/-- an element's cells stand for it, its limbs of the call's own -/
def CellL (p : Bool × Value) (x : SI) (w : World) : Prop := p.1 = x.1 ∧ OwnI p.2 x.2 w
def ApartL (v : Value) (e : List (Bool × Value)) : Prop :=
  (∀ (i j : Nat) p q b, e[i]? = some p → e[j]? = some q → p.2.ownBlock = some b → q.2.ownBlock = some b → i = j) ∧ ∀ (i : Nat) p b, e[i]? = some p → p.2.ownBlock = some b → v.ownBlock ≠ some b
/-- such a slice, of the call's own -/
def OwnLP (v : Value) (l : List SI) (w : World) : Prop :=
  ∃ e : List (Bool × Value), w.ownsRow 0 29 2 v l.length (flatC e) ∧ e.length = l.length ∧ (∀ (j : Nat) x p, l[j]? = some x → e[j]? = some p → CellL p x w) ∧ ApartL v e
theorem OwnLP.below {v : Value} {l : List SI} {w w' : World} (h : OwnLP v l w) (hb : Below w.heap.size w w') : OwnLP v l w' := by
  obtain ⟨e, h4, h5, h6, h7⟩ := h
  refine ⟨e, own_below h4 hb, h5, fun j x p hx hp => ?_, h7⟩
  obtain ⟨e0, ho⟩ := h6 j x p hx hp
  exact ⟨e0, own_below ho hb⟩
theorem ownLP_form {v : Value} {l : List SI} {w : World} (h : OwnLP v l w) : ∃ A c, v = .slice A l.length c := by
  obtain ⟨_, h4, _⟩ := h
  exact own_lenS h4
/-- the blocks that it lies on -/
def blocksL (v : Value) (e : List (Bool × Value)) : List Nat := v.ownBlock.toList ++ e.flatMap fun p => p.2.ownBlock.toList
theorem blocksL_v {v : Value} {e : List (Bool × Value)} {b : Nat} (h : v.ownBlock = some b) : b ∈ blocksL v e := by
  unfold blocksL
  rw [h]
  simp
theorem blocksL_e {v : Value} {e : List (Bool × Value)} {p : Bool × Value} {b : Nat} (hp : p ∈ e) (h : p.2.ownBlock = some b) : b ∈ blocksL v e :=
  List.mem_append_right _ (List.mem_flatMap.2 ⟨p, hp, by rw [h]; simp⟩)
theorem blocksL_mem {v : Value} {e : List (Bool × Value)} {b : Nat} (h : b ∈ blocksL v e) : v.ownBlock = some b ∨ ∃ (j : Nat) (p : Bool × Value), e[j]? = some p ∧ p.2.ownBlock = some b := by
  rcases List.mem_append.1 h with h | h
  · left; simpa using h
  · right
    obtain ⟨p, hp, hb⟩ := List.mem_flatMap.1 h
    obtain ⟨j, hj⟩ := List.mem_iff_getElem?.1 hp
    exact ⟨j, p, hj, by simpa using hb⟩
theorem ownLP_at {v : Value} {l : List SI} {w : World} {e : List (Bool × Value)} (h4 : w.ownsRow 0 29 2 v l.length (flatC e)) (hl : e.length = l.length) (h5 : ∀ (j : Nat) x p, l[j]? = some x → e[j]? = some p → CellL p x w) (h6 : ApartL v e) : At (blocksL v e) (OwnLP v l) w := by
  refine ⟨⟨e, h4, hl, h5, h6⟩, fun g hg => ?_, fun w' hk => ⟨e, own_stays h4 fun g hg => hk g (blocksL_v hg), hl, fun j x p hx hp => ?_, h6⟩⟩
  · rcases blocksL_mem hg with h | ⟨j, p, hp, h⟩
    · exact (own_lt h4 h).2
    · obtain ⟨x, hx⟩ : ∃ x, l[j]? = some x := ⟨_, List.getElem?_eq_getElem (by have := (List.getElem?_eq_some_iff.1 hp).1; omega)⟩
      obtain ⟨e0, ho⟩ := h5 j x p hx hp
      exact (own_lt ho h).2
  · obtain ⟨e0, ho⟩ := h5 j x p hx hp
    exact ⟨e0, own_stays ho fun g hg => hk g (blocksL_e (List.mem_of_getElem? hp) hg)⟩
/-- a fact that says what a row holds leans on its block -/
theorem at_row_memL {S : List Nat} {φ : World → Prop} {w : World} {u : Value} {T : TypeId} {size : Nat} (hT : ¬ T = 4) (h : At S φ w) (hi : ∀ w', φ w' → ∃ base n xs, w'.ownsRow base T size u n xs) : ∀ g, u.ownBlock = some g → g ∈ S := by
  intro g hg
  rcases Classical.em (g ∈ S) with hin | hout
  · exact hin
  · exfalso
    obtain ⟨b1, n1, x1, h1⟩ := hi _ h.here
    obtain ⟨b2, n2, x2, hst⟩ := hi _ (h.stays { w with heap := w.heap.set! g (.cells #[] 4 (0, 0)) } (fun i hi => by
      have : i ≠ g := fun e => hout (e ▸ hi)
      simp [Ne.symm this]))
    have hlt := (own_lt h1 hg).2
    obtain ⟨_, ⟨rfl, _⟩ | ⟨g', cap, cur, rfl, _, hh, _⟩⟩ := hst
    · cases hg
    · cases hg
      have hlt' : g' < w.heap.size := hlt
      have hh' : (w.heap.setIfInBounds g' (.cells #[] 4 (0, 0)))[g']? = some (.cells cur T (0, 0)) := hh
      rw [Array.getElem?_setIfInBounds_self_of_lt hlt'] at hh'
      injection hh' with hh'
      injection hh' with e1 e2
      exact hT e2.symm
theorem atLP_mem {S : List Nat} {u : Value} {l : List SI} {w : World} (h : At S (OwnLP u l) w) : ∃ e : List (Bool × Value), w.ownsRow 0 29 2 u l.length (flatC e) ∧ e.length = l.length ∧ (∀ (j : Nat) x p, l[j]? = some x → e[j]? = some p → CellL p x w) ∧ ApartL u e ∧ (∀ b, u.ownBlock = some b → b ∈ S) ∧ ∀ p ∈ e, ∀ b, p.2.ownBlock = some b → b ∈ S := by
  have hg : ∀ b, u.ownBlock = some b → b ∈ S := at_row_memL (T := 29) (size := 2) (by decide) h (fun W k => by
    obtain ⟨e, k4, _⟩ := k
    exact ⟨_, _, _, k4⟩)
  obtain ⟨e, h4, hl, h5, h6⟩ := h.here
  refine ⟨e, h4, hl, h5, h6, hg, fun p hp b hb => ?_⟩
  obtain ⟨j, hj⟩ := List.mem_iff_getElem?.1 hp
  have hjl : j < l.length := by have := (List.getElem?_eq_some_iff.1 hj).1; omega
  obtain ⟨x, hx⟩ : ∃ x, l[j]? = some x := ⟨_, List.getElem?_eq_getElem hjl⟩
  obtain ⟨g, cap, rfl, _, _, _⟩ := own_form h4 (by omega)
  have hgS := hg g rfl
  have hc := h4.cellAt (j * 2 + 1) (by omega)
  rw [(flatC_get hj).2] at hc
  have h' : At S (fun W => OwnLP (.slice (some ⟨g, 0, none⟩) l.length cap) l W ∧ W.heap[g]? = w.heap[g]?) w := ⟨⟨h.here, rfl⟩, h.lt, fun W hk => ⟨h.stays W hk, hk g hgS⟩⟩
  refine at_row_memL (T := 3) (size := 1) (by decide) h' (fun W k => ?_) b hb
  obtain ⟨⟨e', k4, kl, k5, _⟩, kw⟩ := k
  obtain ⟨p', hp'⟩ : ∃ p', e'[j]? = some p' := ⟨_, List.getElem?_eq_getElem (by omega)⟩
  obtain ⟨_, ho'⟩ := k5 j x p' hx hp'
  have hc' := k4.cellAt (j * 2 + 1) (by omega)
  rw [(flatC_get hp').2] at hc'
  have e3 : W.cell? ⟨g, j * 2 + 1, none⟩ = w.cell? ⟨g, j * 2 + 1, none⟩ := World.cell?_of_block kw
  rw [e3, hc] at hc'
  rw [Option.some.inj hc']
  exact ⟨_, _, _, ho'⟩
/-! ### marks -/
def MarkedL (M : Int) (x : SI) (p : Bool × Value) (w : World) : Prop := p.1 = (M % 3 == 0) ∧ MarkI p.2 x.2 (M + 1) w
/-- a slice of marks from m on -/
def MkLP (v : Value) (l : List SI) (m : Int) (w : World) : Prop :=
  ∃ e : List (Bool × Value), w.ownsRow 0 29 2 v l.length (flatC e) ∧ e.length = l.length ∧ ∀ (j : Nat) x p, l[j]? = some x → e[j]? = some p → MarkedL (m + mkL (l.take j)) x p w
theorem flatL_set {e : List (Bool × Value)} {k : Nat} {p : Bool × Value} (h : e[k]? = some p) (c : Bool) : (flatC e).set (k * 2) (.bool c) = flatC (e.set k (c, p.2)) := by
  induction e generalizing k with
  | nil => simp at h
  | cons q e ih =>
    cases k with
    | zero =>
      obtain rfl : q = p := by simpa using h
      rfl
    | succ k =>
      have := ih (k := k) (by simpa using h)
      rw [show (k + 1) * 2 = k * 2 + 1 + 1 by omega]
      show _ = _ :: _ :: flatC (e.set k _)
      rw [← this]
      rfl
def MkRelL (l : List SI) (e : List (Bool × Value)) (m : Int) (k : Nat) (f : List (Bool × Value)) (W : World) : Prop :=
  f.length = e.length ∧ (∀ (j : Nat) p q, e[j]? = some p → f[j]? = some q → q.2 = p.2) ∧ ∀ (j : Nat) x q, l[j]? = some x → f[j]? = some q → if j < k then MarkedL (m + mkL (l.take j)) x q W else OwnI q.2 x.2 W
theorem mkRelL_zero {l : List SI} {e : List (Bool × Value)} {m : Int} {w : World} (h : ∀ (j : Nat) x p, l[j]? = some x → e[j]? = some p → CellL p x w) : MkRelL l e m 0 e w :=
  ⟨rfl, fun j p q hp hq => by rw [hp] at hq; cases hq; rfl, fun j x q hx hq => by rw [if_neg (Nat.not_lt_zero _)]; exact (h j x q hx hq).2⟩
theorem mkRelL_step {l : List SI} {e f : List (Bool × Value)} {m z : Int} {k g : Nat} {W W' : World} {x : SI} {p : Bool × Value} (h : MkRelL l e m k f W)
    (ha : ∀ (i j : Nat) p q b, e[i]? = some p → e[j]? = some q → p.2.ownBlock = some b → q.2.ownBlock = some b → i = j) (hg : ∀ (i : Nat) p b, e[i]? = some p → p.2.ownBlock = some b → ¬ g = b)
    (hx : l[k]? = some x) (hp : f[k]? = some p) (c : Chg (g :: p.2.ownBlock.toList) W W') (hz : z = m + mkL (l.take k)) (hm : MarkI p.2 x.2 (z + 1) W') :
    MkRelL l e m (k + 1) (f.set k ((z % 3 == 0), p.2)) W' := by
  obtain ⟨h1, h2, h3⟩ := h
  have hkf := (List.getElem?_eq_some_iff.1 hp).1
  have hpe : ∀ (j : Nat) q, f[j]? = some q → ∃ p0, e[j]? = some p0 ∧ q.2 = p0.2 := fun j q hq => by
    have hj := (List.getElem?_eq_some_iff.1 hq).1
    exact ⟨_, List.getElem?_eq_getElem (by omega), h2 j _ q (List.getElem?_eq_getElem (by omega)) hq⟩
  refine ⟨by rw [List.length_set]; exact h1, fun j p0 q hp0 hq => ?_, fun j y q hy hq => ?_⟩
  · by_cases hj : k = j
    · subst hj
      rw [List.getElem?_set_self hkf] at hq
      cases hq
      exact h2 k p0 p hp0 hp
    · rw [List.getElem?_set_ne hj] at hq
      exact h2 j p0 q hp0 hq
  · by_cases hj : k = j
    · subst hj
      rw [List.getElem?_set_self hkf] at hq
      cases hq
      rw [hx] at hy
      cases hy
      rw [if_pos (Nat.lt_succ_self _)]
      subst hz
      exact ⟨rfl, hm⟩
    · rw [List.getElem?_set_ne hj] at hq
      have hthis := h3 j y q hy hq
      have hkeep : ∀ b, q.2.ownBlock = some b → b < W.heap.size → W'.heap[b]? = W.heap[b]? := fun b hb hlt => c.block b hlt (fun hmem => by
        obtain ⟨q0, hq0, eq0⟩ := hpe j q hq
        obtain ⟨p0, hp0, ep0⟩ := hpe k p hp
        rw [eq0] at hb
        rcases List.mem_cons.1 hmem with rfl | hmem
        · exact hg j q0 _ hq0 hb rfl
        · rw [ep0] at hmem
          exact hj (ha k j p0 q0 b hp0 hq0 (by simpa using hmem) hb))
      by_cases hjk : j < k
      · rw [if_pos hjk] at hthis
        rw [if_pos (by omega)]
        obtain ⟨a0, a5⟩ := hthis
        exact ⟨a0, own_stays a5 fun b hb => hkeep b hb (own_lt a5 hb).2⟩
      · rw [if_neg hjk] at hthis
        rw [if_neg (by omega)]
        exact own_stays hthis fun b hb => hkeep b hb (own_lt hthis hb).2
theorem mkRelL_end {l : List SI} {e f : List (Bool × Value)} {m : Int} {W : World} {v : Value} (hl : e.length = l.length) (h : MkRelL l e m l.length f W) (ho : W.ownsRow 0 29 2 v l.length (flatC f)) : MkLP v l m W :=
  ⟨f, ho, by rw [h.1, hl], fun j x p hx hp => by
    have := h.2.2 j x p hx hp
    rwa [if_pos (List.getElem?_eq_some_iff.1 hx).1] at this⟩
theorem MkLP.below {v : Value} {l : List SI} {m : Int} {w w' : World} (h : MkLP v l m w) (hb : Below w.heap.size w w') : MkLP v l m w' := by
  obtain ⟨e, h1, h2, h3⟩ := h
  refine ⟨e, own_below h1 hb, h2, fun j x p hx hp => ?_⟩
  obtain ⟨a0, a5⟩ := h3 j x p hx hp
  exact ⟨a0, own_below a5 hb⟩
theorem mkRelL_at {l : List SI} {e f : List (Bool × Value)} {m : Int} {W : World} {v : Value} {S : List Nat} (hl : e.length = l.length) (h : MkRelL l e m l.length f W) (ho : W.ownsRow 0 29 2 v l.length (flatC f)) (h7 : ∀ b, v.ownBlock = some b → b ∈ S) (h8 : ∀ p ∈ e, ∀ b, p.2.ownBlock = some b → b ∈ S)
    (hS : ∀ g ∈ S, g < W.heap.size) : At S (MkLP v l m) W :=
  ⟨mkRelL_end hl h ho, hS, fun w' hk => ⟨f, own_stays ho fun g hg => hk g (h7 g hg), by rw [h.1, hl], fun j x p hx hp => by
    have h3 := h.2.2 j x p hx hp
    rw [if_pos (List.getElem?_eq_some_iff.1 hx).1] at h3
    obtain ⟨a0, a5⟩ := h3
    refine ⟨a0, own_stays a5 fun g hg => hk g ?_⟩
    have hj := (List.getElem?_eq_some_iff.1 hp).1
    have hje : j < e.length := by have := h.1; omega
    have := h.2.1 j _ p (List.getElem?_eq_getElem hje) hp
    exact h8 _ (List.getElem_mem hje) g (this ▸ hg)⟩⟩
set_option maxHeartbeats 4000000 in
set_option maxRecDepth 100000 in
theorem markLP_cal (v : Value) (l : List SI) (S : List Nat) (m : Int) (w : World) (hm : m + mkL l ≤ 9223372036854775807) (hm0 : 0 ≤ m) (h : At S (OwnLP v l) w) :
    Calls Tryz.prog 21 #[v, .int .i64 m] w fun e' w' => e' = .returned (.int .i64 (m + mkL l)) ∧ At S (MkLP v l m) w' ∧ Chg S w w' := by
  obtain ⟨e, ho, hel, hes, hap, hTv, hTe⟩ := atLP_mem h
  have HLT := Lib.hid h.lt
  have HEL := Lib.hid hel
  have hln := mkL_nonneg l
  have hll : (l.length : Int) ≤ 9223372036854775807 := by have := mkL_len l; omega
  have HR0 := Lib.hid (mkRelL_zero (m := m) hes)
  have HAP := Lib.hid hap
  have HTV := Lib.hid hTv
  have HTE := Lib.hid hTe
  clear hes hel hap hTv hTe h
  obtain ⟨A, c, rfl⟩ := own_lenS ho
  go_enter Tryz.func21, Tryz.ntmps21
  go_wp2
  go_loopw [1, 5] (fun a i wr => ∃ (k : Nat) (z : Int) (f : List (Bool × Value)), k ≤ l.length ∧ i = .int .i64 k ∧ a = .int .i64 z ∧ Hid (z = m + mkL (l.take k)) ∧ wr.ownsRow 0 29 2 (.slice A l.length c) l.length (flatC f) ∧ Hid (MkRelL l e m k f wr) ∧ Chg S w wr) (fun _ i _ => l.length - (intOf i).toNat)
  case atStart => exact ⟨0, m, e, Nat.zero_le _, rfl, rfl, Lib.hid (by rw [List.take_zero]; show _ = _ + (0 : Int); omega), ho, HR0, Chg.refl _ _⟩
  case round =>
    clear ho HR0
    obtain ⟨k, z, f, hk, rfl, rfl, HZ, ho, HRL, hc⟩ := hrel
    by_cases hlt : k < l.length
    · obtain ⟨x, hxk⟩ : ∃ x, l[k]? = some x := ⟨_, List.getElem?_eq_getElem hlt⟩
      obtain ⟨g, cap, ev, _, hgl, _⟩ := own_form ho (by omega)
      cases ev
      have hfl : f.length = l.length := HRL.out.1.trans HEL.out
      obtain ⟨p, hpk⟩ : ∃ p, f[k]? = some p := ⟨_, List.getElem?_eq_getElem (by omega)⟩
      have hxs : (flatC f).length = l.length * 2 := ho.1
      have HT := Lib.hid (mkL_take hxk)
      have HTL := Lib.hid (mkL_take_le l (k + 1))
      have HT0 := Lib.hid (mkL_nonneg (l.take k))
      have hoi : OwnI p.2 x.2 wr := by
        have := HRL.out.2.2 k x p hxk hpk
        rwa [if_neg (Nat.lt_irrefl _)] at this
      obtain ⟨p0, hp0⟩ : ∃ p0, e[k]? = some p0 := ⟨_, List.getElem?_eq_getElem (by have := HEL.out; omega)⟩
      have hpp : p.2 = p0.2 := HRL.out.2.1 k p0 p hp0 hpk
      have hgp : ∀ b, p.2.ownBlock = some b → ¬ g = b := fun b hb he => HAP.out.2 k p0 b hp0 (hpp ▸ hb) (by rw [he]; rfl)
      have hgS : g ∈ S := HTV.out g rfl
      have hpS : ∀ b, p.2.ownBlock = some b → b ∈ S := fun b hb => HTE.out p0 (List.mem_of_getElem? hp0) b (hpp ▸ hb)
      have HSTEP := Lib.hid (show ∀ W', Chg (g :: p.2.ownBlock.toList) wr W' → MarkI p.2 x.2 (z + 1) W' → MkRelL l e m (k + 1) (f.set k ((z % 3 == 0), p.2)) W' from
        fun W' hcW hmW => mkRelL_step HRL.out HAP.out.1 (fun i q b hq hb he => HAP.out.2 i q b hq hb (by rw [he]; rfl)) hxk hpk hcW HZ.out hmW)
      have HFS := Lib.hid (flatL_set hpk (z % 3 == 0))
      have hxL : (flatC f)[k * 2 + 1]? = some p.2 := (flatC_get hpk).2
      have hs0 : szS x = x.2.length := rfl
      have hzb : 0 ≤ z ∧ (z + 1) + x.2.length ≤ 9223372036854775807 ∧ (z + 1) + x.2.length = m + mkL (l.take (k + 1)) := by
        have h1 := HZ.out
        have h2 := HT.out
        have h3 := HTL.out
        have h4 := HT0.out
        omega
      have hz0 : 0 ≤ z := hzb.1
      have hz1 : (z + 1) + x.2.length ≤ 9223372036854775807 := hzb.2.1
      have HZ2 := Lib.hid hzb.2.2
      have HO := Lib.hid ho
      have HC0 := Lib.hid hc
      have HXL := Lib.hid hxL
      have HOI := Lib.hid hoi
      have HGP := Lib.hid hgp
      have HGS := Lib.hid (And.intro hgS hpS)
      have HXS := Lib.hid hxs
      have HC := Lib.hid (Chg.refl (g :: p.2.ownBlock.toList) wr)
      generalize p.2 = P at *
      generalize flatC f = xs at *
      clear hc hzb HT HTL HT0 ho hxL hoi hgp hgS hpS HZ HRL hfl hpk hpp hxk hgl
      have hcell0 := HO.out.cellAt (k * 2) (by omega)
      rw [List.getElem?_eq_getElem (by omega)] at hcell0
      have hcell1 := HO.out.cellAt (k * 2 + 1) (by omega)
      rw [HXL.out] at hcell1
      have hfr0 := HO.out.frozenAt (k * 2)
      obtain ⟨ho2, _⟩ := HO.out.stored (k * 2) (.bool (z % 3 == 0))
      have H1 := Lib.hid ho2
      have H3 := Lib.hid (show (wr.setCell ⟨g, k * 2, none⟩ (.bool (z % 3 == 0))).ownsRow 0 3 1 P x.2.length (intsV x.2) from own_stays HOI.out fun i hi => by
        rw [Below.heap_setCell _ _ _ _ (Ne.symm (HGP.out i hi))])
      have HC1 := Lib.hid (HC.out.setCell (p := ⟨g, k * 2, none⟩) (List.mem_cons_self ..) (.bool (z % 3 == 0)))
      clear ho2 HO HC HOI
      go_wp2_with fail
      with_reducible refine (markIntS_any P x.2.length (intsV x.2) 0 (z + 1) _ (by omega) (by omega) H3.out).mono ?_
      rintro e' w3 ⟨rfl, o2, g2⟩
      clear hcell0 hcell1 hfr0
      have hlt2 := (own_lt H1.out (g := g) rfl).2
      have ho7 : w3.ownsRow 0 29 2 (.slice (some ⟨g, 0, none⟩) l.length c) l.length (xs.set (k * 2) (.bool (z % 3 == 0))) := own_stays H1.out fun i hi => by
        cases hi
        exact g2.block g hlt2 (fun e => HGP.out g e.symm rfl)
      have HC7 := Lib.hid (HC1.out.trans ((Chg.of_grown g2).more (T := P.ownBlock.toList) fun i hi => List.mem_cons_of_mem _ hi))
      have HR7 := Lib.hid (HSTEP.out _ HC7.out o2)
      have HO7 := Lib.hid (HFS.out ▸ ho7)
      have HS7 := Lib.hid (HC0.out.trans (HC7.out.more fun i hi => by
        rcases List.mem_cons.1 hi with rfl | hi
        · exact HGS.out.1
        · exact HGS.out.2 i (by simpa using hi)))
      clear ho7 g2 o2 H1 H3 HC1 HSTEP HFS HC7
      go_wp2
      go_roundw
      case rel => exact ⟨k + 1, _, _, by omega, by go_num, rfl, HZ2, HO7.out, HR7, HS7.out⟩
      case measure => simp [intOf]; omega
    · obtain rfl : k = l.length := by omega
      have HV := Lib.hid (show m + mkL l = z by
        have h3 := HZ.out
        rw [List.take_length] at h3
        omega)
      have hall := Lib.hid (mkRelL_at HEL.out HRL.out ho HTV.out HTE.out (fun i hi => Nat.lt_of_lt_of_le (HLT.out i hi) hc.size))
      clear ho HRL
      go_wp2
      go_ret
      exact ⟨ret_int HV.out.symm, hall.out, hc⟩
set_option maxHeartbeats 4000000 in
set_option maxRecDepth 100000 in
theorem heldLP_cal (v : Value) (l : List SI) (m : Int) (w : World) (hm : m + mkL l ≤ 9223372036854775807) (hm0 : 0 ≤ m) (h : MkLP v l m w) :
    Calls Tryz.prog 22 #[v, .int .i64 m] w (Postn (m + mkL l) w) := by
  obtain ⟨e, ho, hel, hes⟩ := h
  have HO := Lib.hid (show ∀ W, Below w.heap.size w W → W.ownsRow 0 29 2 v l.length (flatC e) from fun W hb => own_below ho hb)
  have HES := Lib.hid hes
  have HEL := Lib.hid hel
  have hln := mkL_nonneg l
  have hll : (l.length : Int) ≤ 9223372036854775807 := by have := mkL_len l; omega
  obtain ⟨A, c, rfl⟩ := own_lenS ho
  clear ho hel hes
  go_enter Tryz.func22, Tryz.ntmps22
  go_wp2
  go_loopw [1, 5] (fun a i wr => ∃ (k : Nat) (z : Int), k ≤ l.length ∧ i = .int .i64 k ∧ a = .int .i64 z ∧ Hid (z = m + mkL (l.take k)) ∧ Below w.heap.size w wr) (fun _ i _ => l.length - (intOf i).toNat)
  case atStart => exact ⟨0, m, Nat.zero_le _, rfl, rfl, Lib.hid (by rw [List.take_zero]; show _ = _ + (0 : Int); omega), Below.refl _ _⟩
  case round =>
    obtain ⟨k, z, hk, rfl, rfl, HZ, hb⟩ := hrel
    by_cases hlt : k < l.length
    · obtain ⟨x, hxk⟩ : ∃ x, l[k]? = some x := ⟨_, List.getElem?_eq_getElem hlt⟩
      have how := HO.out w (Below.refl _ _)
      obtain ⟨g, cap, ev, _, hgl, _⟩ := own_form how (by omega)
      cases ev
      obtain ⟨p, hpk⟩ : ∃ p, e[k]? = some p := ⟨_, List.getElem?_eq_getElem (by have := HEL.out; omega)⟩
      obtain ⟨q0, qm⟩ := HES.out k x p hxk hpk
      rw [← HZ.out] at q0 qm
      have HT := Lib.hid (mkL_take hxk)
      have HTL := Lib.hid (mkL_take_le l (k + 1))
      have HT0 := Lib.hid (mkL_nonneg (l.take k))
      have hf := flatC_get hpk
      rw [q0] at hf
      have hs0 : szS x = x.2.length := rfl
      have hzb : 0 ≤ z ∧ (z + 1) + x.2.length ≤ 9223372036854775807 ∧ (z + 1) + x.2.length = m + mkL (l.take (k + 1)) := by
        have h1 := HZ.out
        have h2 := HT.out
        have h3 := HTL.out
        have h4 := HT0.out
        omega
      have hz0 : 0 ≤ z := hzb.1
      have hz1 : (z + 1) + x.2.length ≤ 9223372036854775807 := hzb.2.1
      have HZ2 := Lib.hid hzb.2.2
      have HCC := Lib.hid (show ∀ W, Below w.heap.size w W → W.cell? ⟨g, k * 2, none⟩ = some (.bool (z % 3 == 0)) ∧ W.cell? ⟨g, k * 2 + 1, none⟩ = some p.2 from fun W hW => ⟨((HO.out W hW).cellAt (k * 2) (by omega)).trans hf.1, ((HO.out W hW).cellAt (k * 2 + 1) (by omega)).trans hf.2⟩)
      have HQM := Lib.hid (show ∀ W, Below w.heap.size w W → W.ownsRow 0 3 1 p.2 x.2.length (marksI (z + 1) x.2.length) from fun W hW => own_below qm hW)
      obtain ⟨Ap, cp, ep⟩ := own_len qm
      generalize p.2 = P at *
      subst ep
      have c0 := (HCC.out _ hb).1
      have c1 := (HCC.out _ hb).2
      clear hf hzb HT HTL HT0 HZ q0 qm how hxk hpk
      go_wp2_with fail
      with_reducible refine (heldIntS_any _ x.2.length 0 _ (z + 1) _ (by omega) (by omega) (Row.of_own (HQM.out _ hb))).mono ?_
      rintro e' w3 ⟨rfl, rfl⟩
      clear c0 c1
      have hn : decide (z + 1 + (x.2.length : Int) < 0) = false := decide_eq_false (by omega)
      go_wp2
      go_roundw
      case rel => exact ⟨k + 1, _, by omega, by go_num, rfl, HZ2, hb⟩
      case measure => simp [intOf]; omega
    · obtain rfl : k = l.length := by omega
      have HV := Lib.hid (show m + mkL l = z by
        have h3 := HZ.out
        rw [List.take_length] at h3
        omega)
      go_wp2
      go_ret
      exact ⟨ret_int HV.out.symm, hb⟩
/-- what a call answers: a new slice and a bool -/
def PostLb (R0 : List SI) (R1 : Bool) (w : World) (e : Ending) (w' : World) : Prop :=
  ∃ (v : Value) (S : List Nat), e = .returned (.tuple #[v, .bool R1]) ∧ At S (OwnLP v R0) w' ∧ Within S w.heap.size w'.heap.size ∧ Below w.heap.size w w'
theorem OwnLP.ownR {v : Value} {l : List SI} {w : World} (h : OwnLP v l w) : OwnR w v l := by
  obtain ⟨e, h4, hlen, h5, _⟩ := h
  obtain ⟨A, c, rfl⟩ := own_lenS h4
  refine ⟨A, c, rfl, fun j x hj => ?_⟩
  have hjl := (List.getElem?_eq_some_iff.1 hj).1
  obtain ⟨g, cap, ev, _, hg, _⟩ := own_form h4 (by omega)
  cases ev
  obtain ⟨p, hp⟩ : ∃ p, e[j]? = some p := ⟨_, List.getElem?_eq_getElem (by omega)⟩
  obtain ⟨e0, ho⟩ := h5 j x p hj hp
  have hf := flatC_get hp
  rw [e0] at hf
  refine ⟨⟨g, 0, none⟩, p.2, rfl, hg, ?_, ?_, ho⟩
  · have := h4.cellAt (j * 2) (by omega)
    rw [hf.1] at this
    rw [add_own]
    exact this
  · have := h4.cellAt (j * 2 + 1) (by omega)
    rw [hf.2] at this
    rw [add_own]
    exact this
end Go.Proofs.YtofehcpapdlcnabGreatDoor

namespace Go.Proofs.YtofehcpapdlcnabGreatDoor
open Go.RowKit

/-- what reads as these numbers -/
def RdX (v : Value) (l : List SI) (w : World) : Prop := RdL w v l
theorem RdX.below {v : Value} {l : List SI} {w w' : World} (h : RdX v l w) (hb : Below w.heap.size w w') : RdX v l w' := RdL.below h hb
theorem RdX.here {v : Value} {l : List SI} {w : World} (h : RdX v l w) : RdL w v l := h
theorem rowS_at {B : Nat} {v : Value} {l : List SI} {w : World} (h : RowS B v l w) : ∃ S, At S (OwnLP v l) w ∧ Within S B w.heap.size := by
  obtain ⟨e, h1, h2, h3, h4⟩ := h
  refine ⟨_, ownLP_at (own_lowS h1 (Nat.zero_le _)) h2 (fun j x p hx hp => ⟨(h3 j x p hx hp).1, own_lowS (h3 j x p hx hp).2 (Nat.zero_le _)⟩) ⟨h4, fun i p b hp hb hv => ?_⟩, fun g hg => ?_⟩
  · obtain ⟨x, hx⟩ : ∃ x, l[i]? = some x := ⟨_, List.getElem?_eq_getElem (by have := (List.getElem?_eq_some_iff.1 hp).1; omega)⟩
    exact own_typesS h1 (h3 i x p hx hp).2 (by decide) hv hb
  · rcases blocksL_mem hg with hv | ⟨j, p, hp, hb⟩
    · exact own_lt h1 hv
    · obtain ⟨x, hx⟩ : ∃ x, l[j]? = some x := ⟨_, List.getElem?_eq_getElem (by have := (List.getElem?_eq_some_iff.1 hp).1; omega)⟩
      exact own_lt (h3 j x p hx hp).2 hb
theorem sharesPost_lb {x : SI} {ws : List Int} {w w' : World} {e : Ending} (h : SharesPost x ws w e w') : PostLb (sharesR x ws).1 (sharesR x ws).2 w e w' := by
  obtain ⟨u, he, hr, hb⟩ := h
  obtain ⟨S, ha, hw⟩ := rowS_at hr
  exact ⟨u, S, he, ha, hw, hb⟩
theorem mkL_small {l : List SI} {n : Nat} (h : ∀ y ∈ l, y.2.length ≤ 50) (hl : l.length ≤ n) : mkL l ≤ 51 * n := by
  induction l generalizing n with
  | nil => show (0 : Int) ≤ _; omega
  | cons y l ih =>
    have h1 : mkL (y :: l) = 1 + szS y + mkL l := rfl
    have h2 := h y (List.mem_cons_self ..)
    have h3 : szS y = y.2.length := rfl
    obtain ⟨k, rfl⟩ : ∃ k, n = k + 1 := ⟨n - 1, by simp at hl; omega⟩
    have := ih (n := k) (fun z hz => h z (List.mem_cons_of_mem _ hz)) (by simpa using hl)
    omega
theorem sharesR_mk (x : SI) (ws : List Int) : mkL (sharesR x ws).1 ≤ 1048576 := by
  cases h : (sharesR x ws).2 with
  | true =>
    have := mkL_small (sharesR_len x ws).2 (okSh_len h)
    omega
  | false =>
    have h' : ¬ okSh x ws = true := fun hk => by unfold sharesR at h; rw [if_pos hk] at h; cases h
    have : (sharesR x ws).1 = [] := by unfold sharesR; rw [if_neg h']
    rw [this]
    decide
theorem sharesR_big (x : SI) (ws : List Int) : ∀ y ∈ (sharesR x ws).1, y.2.length ≤ 9223372036854775807 := fun y hy => by have := (sharesR_len x ws).2 y hy; omega
end Go.Proofs.YtofehcpapdlcnabGreatDoor

namespace Go.Proofs
open Go.Shelf
def Tryz.lays212_ren : Go.Shelf.Ren := ⟨fun | 212 => 104 | 263 => 136 | 264 => 137 | n => n, fun | 46 => 116 | 51 => 131 | 146 => 132 | 53 => 134 | 148 => 135 | n => n, fun | n => n⟩
theorem Tryz.lays212 : Go.Proofs.Lays.n212 Tryz.prog Tryz.lays212_ren := {
  mixed := by kernel_rfl
  f212 := Tryz.func104.trans (congrArg some (by kernel_rfl))
  f263 := Tryz.func136.trans (congrArg some (by kernel_rfl))
  f264 := Tryz.func137.trans (congrArg some (by kernel_rfl))
  t46 := Tryz.underlying116
  a46 := Tryz.isAgg116
  z46 := Tryz.sizeOf116
  v46 := Tryz.zeroValue116
  t51 := Tryz.underlying131
  a51 := Tryz.isAgg131
  z51 := Tryz.sizeOf131
  v51 := Tryz.zeroValue131
  t53 := Tryz.underlying134
  a53 := Tryz.isAgg134
  z53 := Tryz.sizeOf134
  v53 := Tryz.zeroValue134
  t146 := Tryz.underlying132
  a146 := Tryz.isAgg132
  z146 := Tryz.sizeOf132
  v146 := Tryz.zeroValue132
  t148 := Tryz.underlying135
  a148 := Tryz.isAgg135
  z148 := Tryz.sizeOf135
  v148 := Tryz.zeroValue135 }
open Go.RowKit Go.Lib in
theorem Tryz.bits_Mul (x y : Nat) (hx : x < 18446744073709551616) (hy : y < 18446744073709551616) (w : World) :
    Calls Tryz.prog 104 #[.int .u64 x, .int .u64 y] w fun e w' => e = .returned (.tuple #[.int .u64 ((x * y / 18446744073709551616 : Nat) : Int), .int .u64 ((x * y % 18446744073709551616 : Nat) : Int)]) ∧ w' = w := Any.bits_Mul Tryz.lays212 x y hx hy w
end Go.Proofs

namespace Go.Proofs.YtofehcpapdlcnabGreatDoor
open Go.RowKit

/-- the cells as far as the ones reach -/
def repV (k n : Nat) : List Value := List.replicate k (.int .i64 1) ++ List.replicate (n - k) (.int .i64 0)
theorem repV_len {k n : Nat} (h : k ≤ n) : (repV k n).length = n := by unfold repV; simp; omega
theorem repV_zero (n : Nat) : repV 0 n = List.replicate n (.int .i64 0) := by unfold repV; simp
theorem repV_all (n : Nat) : repV n n = intsV (List.replicate n 1) := by unfold repV intsV; simp
theorem repV_splice {k m n : Nat} (h : k + m ≤ n) : splice (repV k n) k (List.replicate m (.int .i64 1)) = repV (k + m) n := by
  unfold splice repV
  have h1 : (List.replicate k (Value.int .i64 1) ++ List.replicate (n - k) (Value.int .i64 0)).take k = List.replicate k (.int .i64 1) := by
    rw [List.take_append_of_le_length (by simp)]; exact List.take_of_length_le (by simp)
  have h2 : (List.replicate k (Value.int .i64 1) ++ List.replicate (n - k) (Value.int .i64 0)).drop (k + (List.replicate m (Value.int .i64 1)).length) = List.replicate (n - (k + m)) (.int .i64 0) := by
    rw [List.length_replicate, List.drop_append, List.drop_of_length_le (by simp), List.nil_append, List.length_replicate, List.drop_replicate]
    congr 1
    omega
  rw [h1, h2, ← List.append_assoc, List.replicate_append_replicate]
theorem repV_at {j k n : Nat} (h : j < k) : (repV k n)[j]? = some (.int .i64 1) := by
  unfold repV
  rw [List.getElem?_append_left (by simpa using h), List.getElem?_replicate]
  simp [h]
/-- what it answers -/
def RepPost (n : Nat) (w : World) (e : Ending) (w' : World) : Prop := ∃ u, e = .returned u ∧ w'.ownsRow w.heap.size 3 1 u n (intsV (List.replicate n 1)) ∧ Below w.heap.size w w'
set_option maxHeartbeats 4000000 in
set_option maxRecDepth 100000 in
theorem repeat_any (v : Value) (n lo hi : Nat) (w : World) (hn1 : 1 ≤ n) (hn : n ≤ 30) (hr : Row w lo hi v (intsV [1])) (hhi : hi ≤ w.heap.size) :
    Calls Tryz.prog 66 #[v, .int .i64 (n : Int)] w (RepPost n w) := by
  obtain ⟨A, c, rfl, hA⟩ := hr
  obtain ⟨a, rfl, _, hlt, ha⟩ := hA 0 _ (by rfl : (intsV [1])[0]? = some (.int .i64 1))
  rw [intsV_length]
  have hsz : (Tryz.prog.info? 3).map (·.size) = some 1 := by kernel_rfl
  have hmk := make_ints n (by omega)
  have hw1 : IntKind.u64.wrap 1 = 1 := by decide
  have hwn : IntKind.u64.wrap (n : Int) = n := by unfold IntKind.wrap; simp [IntKind.signed, IntKind.bits]; omega
  have hmul : ∀ w : World, Calls Tryz.prog 104 #[.int .u64 1, .int .u64 (n : Int)] w fun e w' => e = .returned (.tuple #[.int .u64 0, .int .u64 (n : Int)]) ∧ w' = w := fun w => by
    have h := Tryz.bits_Mul 1 n (by omega) (by omega) w
    rw [show ((1 * n / 18446744073709551616 : Nat) : Int) = 0 by omega, show ((1 * n % 18446744073709551616 : Nat) : Int) = (n : Int) by omega] at h
    exact h
  have HMUL := Lib.hid hmul
  clear hmul
  have hwb : IntKind.i64.wrap (n : Int) = n := IntWalk.i64_in _ (by omega)
  go_enter Tryz.func66, Tryz.ntmps66
  go_wp2_with fail
  refine (HMUL.out _).mono ?_
  rintro e w1 ⟨rfl, rfl⟩
  have HPOS := Lib.hid (show ∀ (j : Nat) v, [Value.int .i64 1][j]? = some v → (w1.alloc (.cells (madeCells #[.int .i64 0] n) 3)).cell? (a.add j) = some v from fun j v hj => by
    cases j with
    | zero => rw [(below_al (Below.refl w1.heap.size w1) _).cell (by rw [block_add]; omega)]; rw [← hj]; exact ha
    | succ j => simp at hj)
  have HH := Lib.hid (show (w1.alloc (.cells (madeCells #[.int .i64 0] n) 3)).heap[w1.heap.size]? = some (.cells (repV 0 n).toArray 3 (0, 0)) by
    rw [repV_zero, ← toList_madeCells_one, Array.toArray_toList]; exact heap_alloc_new _ _)
  have HFIT := Lib.hid (show 0 + [Value.int .i64 1].length ≤ (repV 0 n).length by rw [repV_len (Nat.zero_le _)]; exact hn1)
  have HONE := Lib.hid (show ∀ v ∈ [Value.int .i64 1], v.oneCell' = true from fun v hv => by rw [List.mem_singleton.1 hv]; rfl)
  have HAL := Lib.hid (below_al (Below.refl w1.heap.size w1) (.cells (madeCells #[.int .i64 0] n) 3))
  have HMIN := Lib.hid (show [Value.int .i64 1].length = Nat.min 1 n from (Nat.min_eq_left hn1).symm)
  clear hA ha
  go_wp2_with (with_reducible refine wpList_copy_splice rfl (.tmp 31) (.tmp 32) 22 22 rfl 3 Tryz.underlying22 hsz (some ⟨w1.heap.size, 0, none⟩) (some a) n n 1 c rfl rfl w1.heap.size 0 (repV 0 n) 3 HH.out [.int .i64 1] HMIN.out (fun _ => ⟨rfl, a, rfl, HPOS.out⟩) HFIT.out HONE.out w1.heap.size w1 HAL.out (Nat.le_refl _) ?_)
  intro w2 HG hB2
  have HG1 := Lib.hid (show w2.heap[w1.heap.size]? = some (.cells (repV 1 n).toArray 3 (0, 0)) by have h := HG.out; rw [show [Value.int .i64 1] = List.replicate 1 (.int .i64 1) from rfl, repV_splice (by omega)] at h; exact h)
  clear HG HPOS HH HFIT HONE HAL HMIN hmk
  go_wp2
  go_loopw [8] (fun i wr => ∃ k : Nat, 1 ≤ k ∧ k ≤ n ∧ i = .int .i64 k ∧ Hid (wr.heap[w1.heap.size]? = some (.cells (repV k n).toArray 3 (0, 0))) ∧ Below w1.heap.size w1 wr) (fun i _ => n - (intOf i).toNat)
  case atStart => exact ⟨1, Nat.le_refl _, hn1, rfl, HG1, hB2⟩
  case round =>
    obtain ⟨k, hk1, hk, rfl, HG, hb⟩ := hrel
    by_cases hlt : k < n
    · obtain ⟨m, hm⟩ : ∃ m, Nat.min k (n - k) = m := ⟨_, rfl⟩
      have hm1 : 1 ≤ m ∧ k + m ≤ n ∧ m ≤ k := by
        have h1 : Nat.min k (n - k) ≤ k := Nat.min_le_left _ _
        have h2 : Nat.min k (n - k) ≤ n - k := Nat.min_le_right _ _
        have h3 : 1 ≤ Nat.min k (n - k) := Nat.le_min.2 ⟨hk1, by omega⟩
        omega
      have HMM := Lib.hid (show (List.replicate m (Value.int .i64 1)).length = Nat.min k (n - k) by rw [List.length_replicate, hm])
      have hlen := repV_len hk
      have ho : wr.ownsRow w1.heap.size 3 1 (.slice (some ⟨w1.heap.size, 0, none⟩) n n) n (repV k n) :=
        ⟨by rw [hlen, Nat.mul_one], .inr ⟨w1.heap.size, n, (repV k n).toArray, rfl, Nat.le_refl _, HG.out, Nat.le_refl _, by unfold maxLen; omega, by rw [List.size_toArray, hlen, Nat.mul_one], by rw [Nat.mul_one]; show (repV k n).take n = _; exact List.take_of_length_le (by rw [hlen]; exact Nat.le_refl _)⟩⟩
      have HSRC := Lib.hid (show ∀ (j : Nat) v, (List.replicate m (Value.int .i64 1))[j]? = some v → wr.cell? (Addr.add ⟨w1.heap.size, 0, none⟩ j) = some v from fun j v hj => by
        have hjm : j < m := by have := (List.getElem?_eq_some_iff.1 hj).1; simpa using this
        have hc := ho.cellAt j (by rw [Nat.mul_one]; omega)
        rw [repV_at (by omega)] at hc
        rw [List.getElem?_replicate, if_pos hjm] at hj
        rw [show (Addr.add ⟨w1.heap.size, 0, none⟩ j : Addr) = ⟨w1.heap.size, j, none⟩ from by unfold Addr.add; split; (rename_i h; rw [h]); simp]
        rw [← hj]
        exact hc)
      have HFT := Lib.hid (show k + (List.replicate m (Value.int .i64 1)).length ≤ (repV k n).length by rw [List.length_replicate, hlen]; omega)
      have HON := Lib.hid (show ∀ v ∈ List.replicate m (Value.int .i64 1), v.oneCell' = true from fun v hv => by rw [(List.mem_replicate.1 hv).2]; rfl)
      have HBD := Lib.hid hb
      have HSP := Lib.hid (repV_splice hm1.2.1)
      have hwk : IntKind.i64.wrap ((k : Int) + (m : Int)) = (k : Int) + m := IntWalk.i64_in _ (by omega)
      have hnk : ¬ n = k := by omega
      clear ho hb hm hlen
      go_wp2_with fail
      refine wp_region_held_drew (S := fun _ => True) (by kernel_rfl) ?_ (fun hHeld => ?_)
      · trivial
      refine wpAnyH_take (i := 0) (v := ?_) rfl (by kernel_rfl) (by kernel_rfl) (by kernel_rfl) (fun _ _ _ h => h) (Or.inl ⟨by kernel_rfl, ?_⟩) (by assumption) ?_
      rotate_left
      · (intro w hSw; (try dsimp only at hSw); go_simp; (try with_reducible rfl))
      (try simp only [Act.put, List.getElem_toArray, List.getElem_cons_zero, List.setIfInBounds_toArray, List.set_cons_zero, List.set_cons_succ])
      refine wpAnyH_take (i := 1) (v := ?_) rfl (by kernel_rfl) (by kernel_rfl) (by kernel_rfl) (fun _ _ _ h => h) (Or.inl ⟨by kernel_rfl, ?_⟩) (by assumption) ?_
      rotate_left
      · (intro w hSw; (try dsimp only at hSw); go_simp; (try with_reducible rfl))
      (try simp only [Act.put, List.getElem_toArray, List.getElem_cons_zero, List.getElem_cons_succ, List.setIfInBounds_toArray, List.set_cons_zero, List.set_cons_succ])
      refine wpAnyH_take (i := 2) (v := ?_) rfl (by kernel_rfl) (by kernel_rfl) (by kernel_rfl) (fun _ _ _ h => h) (Or.inl ⟨by kernel_rfl, ?_⟩) (by assumption) ?_
      rotate_left
      · (intro w hSw; (try dsimp only at hSw); go_simp; (try with_reducible rfl))
      (try simp only [Act.put, List.getElem_toArray, List.getElem_cons_zero, List.getElem_cons_succ, List.setIfInBounds_toArray, List.set_cons_zero, List.set_cons_succ])
      refine wpAnyH_take (i := 3) (v := ?_) rfl (by kernel_rfl) (by kernel_rfl) (by kernel_rfl) (fun _ _ _ h => h) (Or.inl ⟨by kernel_rfl, ?_⟩) (by assumption) ?_
      rotate_left
      · (intro w hSw; (try dsimp only at hSw); go_simp; (try with_reducible rfl))
      (try simp only [Act.put, List.getElem_toArray, List.getElem_cons_zero, List.getElem_cons_succ, List.setIfInBounds_toArray, List.set_cons_zero, List.set_cons_succ])
      refine wpAnyH_take (i := 4) (v := ?_) rfl (by kernel_rfl) (by kernel_rfl) (by kernel_rfl) (fun _ _ _ h => h) (Or.inl ⟨by kernel_rfl, ?_⟩) (by assumption) ?_
      rotate_left
      · (intro w hSw; (try dsimp only at hSw); go_simp; (try with_reducible rfl))
      (try simp only [Act.put, List.getElem_toArray, List.getElem_cons_zero, List.getElem_cons_succ, List.setIfInBounds_toArray, List.set_cons_zero, List.set_cons_succ])
      refine wpAnyH_take (i := 5) (v := ?_) rfl (by kernel_rfl) (by kernel_rfl) (by kernel_rfl) (fun _ _ _ h => h) (Or.inl ⟨by kernel_rfl, ?_⟩) (by assumption) ?_
      rotate_left
      · (intro w hSw; (try dsimp only at hSw); go_simp; (try with_reducible rfl))
      (try simp only [Act.put, List.getElem_toArray, List.getElem_cons_zero, List.getElem_cons_succ, List.setIfInBounds_toArray, List.set_cons_zero, List.set_cons_succ])
      refine wpAnyH_take (i := 6) (v := ?_) rfl (by kernel_rfl) (by kernel_rfl) (by kernel_rfl) (fun _ _ _ h => h) (Or.inl ⟨by kernel_rfl, ?_⟩) (by assumption) ?_
      rotate_left
      · (intro w hSw; (try dsimp only at hSw); go_simp; (try with_reducible rfl))
      (try simp only [Act.put, List.getElem_toArray, List.getElem_cons_zero, List.getElem_cons_succ, List.setIfInBounds_toArray, List.set_cons_zero, List.set_cons_succ])
      refine wpAnyH_ready (rs := [7]) (by kernel_rfl) (by simp) ?_
      refine AllReadyH.cons rfl (fun K hK => ?_) AllReadyH.nil
      refine step_copy_splice rfl (.tmp 41) (.tmp 44) 22 22 rfl 3 Tryz.underlying22 hsz (some ⟨w1.heap.size, k, none⟩) (some ⟨w1.heap.size, 0, none⟩) (n - k) (n - k) k n rfl rfl w1.heap.size k (repV k n) 3 HG.out (List.replicate m (.int .i64 1)) HMM.out (fun _ => ⟨rfl, _, rfl, HSRC.out⟩) HFT.out HON.out w1.heap.size w1 HBD.out.drew (Nat.le_refl _) (fun w3 HG3 hB3 => ?_)
      refine hK.out _ _ trivial (fun hHeld => ?_)
      clear hK K
      (try simp only [Act.put, List.getElem_toArray, List.getElem_cons_zero, List.getElem_cons_succ, List.setIfInBounds_toArray, List.set_cons_zero, List.set_cons_succ])
      refine wpAnyH_take (i := 8) (v := ?_) rfl (by kernel_rfl) (by kernel_rfl) (by kernel_rfl) (fun _ _ _ h => h) (Or.inl ⟨by kernel_rfl, ?_⟩) (by assumption) ?_
      rotate_left
      · (intro w hSw; (try dsimp only at hSw); go_simp; (try with_reducible rfl))
      (try simp only [Act.put, List.getElem_toArray, List.getElem_cons_zero, List.getElem_cons_succ, List.setIfInBounds_toArray, List.set_cons_zero, List.set_cons_succ])
      refine wpAnyH_take (i := 9) (v := ?_) rfl (by kernel_rfl) (by kernel_rfl) (by kernel_rfl) (fun _ _ _ h => h) (Or.inl ⟨by kernel_rfl, ?_⟩) (by assumption) ?_
      rotate_left
      · (intro w hSw; (try dsimp only at hSw); go_simp; (try with_reducible rfl))
      (try simp only [Act.put, List.getElem_toArray, List.getElem_cons_zero, List.getElem_cons_succ, List.setIfInBounds_toArray, List.set_cons_zero, List.set_cons_succ])
      refine wpAnyH_done (by kernel_rfl) ?_ _
      have HG4 := Lib.hid (show w3.heap[w1.heap.size]? = some (.cells (repV (k + m) n).toArray 3 (0, 0)) by have h := HG3.out; rw [HSP.out] at h; exact h)
      have HB4 := Lib.hid hB3
      clear HG3 hB3 HSRC HMM HFT HON HSP HG
      go_wp2
      go_round
      case rel => exact ⟨k + m, by omega, by omega, by simp, HG4, HB4.out⟩
      case measure => simp [intOf]; omega
    · obtain rfl : k = n := by omega
      have HO := Lib.hid (show wr.ownsRow w1.heap.size 3 1 (.slice (some ⟨w1.heap.size, 0, none⟩) k k) k (intsV (List.replicate k 1)) from by
        have hg := HG.out
        rw [repV_all] at hg
        have hlen : (intsV (List.replicate k 1)).length = k := by rw [intsV_length, List.length_replicate]
        exact ⟨by rw [hlen, Nat.mul_one], .inr ⟨w1.heap.size, k, (intsV (List.replicate k 1)).toArray, rfl, Nat.le_refl _, hg, Nat.le_refl _, by unfold maxLen; omega, by rw [List.size_toArray, hlen, Nat.mul_one], by rw [Nat.mul_one]; show (intsV (List.replicate k 1)).take k = _; exact List.take_of_length_le (by rw [hlen]; exact Nat.le_refl _)⟩⟩)
      clear HG
      go_wp2
      go_ret
      exact ⟨_, rfl, HO.out, hb⟩
end Go.Proofs.YtofehcpapdlcnabGreatDoor

namespace Go.Proofs.YtofehcpapdlcnabGreatDoor
open Go.RowKit

def evenR (x : SI) (n : Int) : List SI × Bool := if 1 ≤ n ∧ n ≤ 30 then sharesR x (List.replicate n.toNat 1) else ([], false)
theorem evenR_no {x : SI} {n : Int} (h : ¬ (1 ≤ n ∧ n ≤ 30)) : evenR x n = ([], false) := if_neg h
theorem evenR_yes {x : SI} {k : Nat} (h1 : 1 ≤ k) (h2 : k ≤ 30) : evenR x (k : Int) = sharesR x (List.replicate k 1) := by
  unfold evenR
  rw [if_pos (by omega), Int.toNat_natCast]
theorem evenR_mk (x : SI) (n : Int) : mkL (evenR x n).1 ≤ 1048576 := by unfold evenR; split; exact sharesR_mk _ _; decide
theorem evenR_big (x : SI) (n : Int) : ∀ y ∈ (evenR x n).1, y.2.length ≤ 9223372036854775807 := by unfold evenR; split; exact sharesR_big _ _; exact fun y hy => by cases hy
theorem postLb_nil {w w' : World} (hb : Below w.heap.size w w') : PostLb [] false w (.returned (.tuple #[.slice none 0 0, .bool false])) w' := by
  have h : At (blocksL (.slice none 0 0) []) (OwnLP (.slice none 0 0) []) w' := ownLP_at (World.ownsRow_nil _ _ _ _) rfl (fun j x p hx => by simp at hx) ⟨fun i j p q b hp => by simp at hp, fun i p b hp => by simp at hp⟩
  exact ⟨_, _, rfl, h, fun g hg => by simp [blocksL, Value.ownBlock] at hg, hb⟩
theorem postLb_is {q p : List SI × Bool} (e : q = p) {w w' : World} {n : Ending} (h : PostLb p.1 p.2 w n w') : PostLb q.1 q.2 w n w' := by rw [e]; exact h
theorem postLb_from {R : List SI} {b : Bool} {w W w' : World} {e : Ending} (hb : Below w.heap.size w W) (h : PostLb R b W e w') : PostLb R b w e w' := by
  obtain ⟨v, S, he, ha, hw, h2⟩ := h
  exact ⟨v, S, he, ha, fun i hi => ⟨Nat.le_trans hb.size (hw i hi).1, (hw i hi).2⟩, Below.next hb h2⟩
set_option maxHeartbeats 4000000 in
set_option maxRecDepth 100000 in
theorem specSharesEven_any (v : Value) (x : SI) (n : Int) (w : World) (hlx : x.2.length ≤ 1048576) (h : OwnS v x w) :
    Calls Tryz.prog 23 #[v, .int .i64 n] w (PostLb (evenR x n).1 (evenR x n).2 w) := by
  obtain ⟨i0, hi0, hz0, hz1, hz2⟩ := info_parts intInfo
  have HS := Lib.hid (show ∀ (W : World) (vw : Value) (ws : List Int), Below w.heap.size w W → ws.length ≤ 1048576 → Row W 0 W.heap.size vw (intsV ws) → Calls Tryz.prog 17 #[v, vw] W (SharesPost x ws W) from fun W vw ws hb hl hr => specShares_any v vw x ws 0 W.heap.size W hlx hl (Nat.le_refl _) (OwnS.below h hb) hr)
  obtain ⟨Ax, cx, rfl⟩ := ownS_form h
  have bb0 : Below w.heap.size w (w.alloc (.cells #[.bool x.1, .slice Ax x.2.length cx] 29)) := below_al (Below.refl _ _) _
  have kx := box_new w #[.bool x.1, .slice Ax x.2.length cx] 29
  clear h
  by_cases hin : 1 ≤ n ∧ n ≤ 30
  · obtain ⟨k, rfl⟩ : ∃ k : Nat, n = (k : Int) := ⟨n.toNat, by omega⟩
    have HV := Lib.hid (evenR_yes (x := x) (k := k) (by omega) (by omega))
    have hk1 : 1 ≤ k := by omega
    have hk2 : k ≤ 30 := by omega
    have hib : inB (k : Int) 1 30 = true := by unfold inB; simp; omega
    clear hin
    go_enter Tryz.func23, Tryz.ntmps23
    go_wp2_with fail
    refine (specIn_any _ _ _ _ _ hib).mono ?_
    rintro e w_ ⟨rfl, rfl⟩
    have KX := Lib.hid kx
    have HB0 := Lib.hid bb0
    obtain ⟨W0, hW0⟩ : ∃ W0, W0 = w.alloc (.cells #[.bool x.1, .slice Ax x.2.length cx] 29) := ⟨_, rfl⟩
    have HS0 := Lib.hid (show W0.heap.size = w.heap.size + 1 by rw [hW0]; simp)
    rw [← hW0] at KX HB0
    have HW0 := Lib.hid hW0
    clear kx bb0 hib hW0
    go_wp2
    rw [← HW0.out]
    go_loopg [6] k (fun nn u wr => ∃ (j : Nat) (uv : Value), uv = u ∧ j ≤ k ∧ Hid (nn = k - j) ∧ wr.ownsRow W0.heap.size 3 1 uv j (intsV (List.replicate j 1)) ∧ Below W0.heap.size W0 wr)
    case atStart => exact ⟨0, .slice (some ⟨W0.heap.size, 0, none⟩) 0 0, by rw [HS0.out], Nat.zero_le _, Lib.hid rfl, World.ownsRow_lit (e := 3) (size := 1) (base := W0.heap.size) W0 #[] 0 (Nat.le_refl _) (by unfold maxLen; omega) rfl, below_al (Below.refl _ _) _⟩
    case round =>
      obtain ⟨j, uv, rfl, hj, HN, ho, hb⟩ := hrel
      obtain ⟨Au, cu, rfl⟩ := own_lenS ho
      by_cases hlt : j < k
      · have HO := Lib.hid (own_alloc ho (.cells #[.int .i64 1] 3))
        have hnew := one_new wr (.int .i64 1) 3
        have HB := Lib.hid (show Below W0.heap.size W0 (wr.alloc (.cells #[.int .i64 1] 3)) from below_al hb _)
        have HLT := Lib.hid (show ∀ b, (Value.slice Au j cu).ownBlock = some b → W0.heap.size ≤ b from fun b hb => (own_lt ho hb).1)
        have hzb := hb.size
        clear ho hb
        go_wp2_with (at_builtin; refine wpList_append_own _ rfl _ _ 22 rfl W0.heap.size 3 i0 (.int .i64 0) 1 8 Tryz.underlying22 hi0 hz0 hz1 hz2 rfl (by decide) (.slice Au j cu) j (intsV (List.replicate j 1)) rfl HO.out ⟨wr.heap.size, 0, none⟩ 1 1 [.int .i64 1] rfl rfl hnew ?c2 ?c3 ?c4 ?c5 ?_)
        case c2 => intro u hu; simp at hu; subst hu; rfl
        case c3 => unfold maxLen; omega
        case c4 => omega
        case c5 => simp; omega
        intro v2 w3 hown2 hg2 _
        have HB3 := Lib.hid (show Below W0.heap.size W0 w3 from HB.out.grown hg2 HB.out.size HLT.out)
        have HROW := Lib.hid (show w3.ownsRow W0.heap.size 3 1 v2 (j + 1) (intsV (List.replicate (j + 1) 1)) by
          rw [List.replicate_succ']
          unfold intsV at hown2 ⊢
          rw [List.map_append]
          exact hown2)
        clear hown2 hg2 hnew
        go_wp2
        go_roundg (k - (j + 1))
        case measure => have := HN.out; omega
        case rel => exact ⟨j + 1, _, rfl, by omega, Lib.hid rfl, HROW.out, HB3.out⟩
      · obtain rfl : j = k := by omega
        have HR := Lib.hid (Row.of_own ho)
        have HBB := Lib.hid (Below.next HB0.out hb)
        have kx_c0 := (KX.out.below hb).here.cell 0 _ rfl
        have kx_c1 := (KX.out.below hb).here.cell 1 _ rfl
        have hlen : (List.replicate j (1 : Int)).length ≤ 1048576 := by rw [List.length_replicate]; omega
        clear ho hb
        go_wp2_with fail
        clear kx_c0 kx_c1
        refine (HS.out _ _ (List.replicate j 1) HBB.out hlen (HR.out.wide (Nat.zero_le _) (Nat.le_refl _))).mono ?_
        rintro e w4 hp
        obtain ⟨⟨L, ob⟩, hLo⟩ : ∃ P, sharesR x (List.replicate j 1) = P := ⟨_, rfl⟩
        have HV2 := Lib.hid (HV.out.trans hLo)
        have hpl := postLb_from HBB.out (sharesPost_lb hp)
        rw [hLo] at hpl
        dsimp only at hpl
        obtain ⟨u, S, rfl, ha, hw, hb4⟩ := hpl
        have HA := Lib.hid (show PostLb L ob w (.returned (.tuple #[u, .bool ob])) w4 from ⟨u, S, rfl, ha, hw, hb4⟩)
        clear ha hw hb4 hp
        clear hLo
        go_wp2
        go_ret2
        exact postLb_is (p := (L, ob)) HV2.out HA.out
  · have HV := Lib.hid (evenR_no (x := x) hin)
    have hib : inB n 1 30 = false := by unfold inB; simp; omega
    clear hin kx
    go_enter Tryz.func23, Tryz.ntmps23
    go_wp2_with fail
    refine (specIn_any _ _ _ _ _ hib).mono ?_
    rintro e w_ ⟨rfl, rfl⟩
    go_wp2
    go_ret2
    exact postLb_is HV.out (postLb_nil bb0)
set_option maxHeartbeats 4000000 in
set_option maxRecDepth 100000 in
theorem implSharesEven_any (v : Value) (x : SI) (n : Int) (w : World) (hlx : x.2.length ≤ 1048576) (h : OwnS v x w) (hsen : Sen w) :
    Calls Tryz.prog 24 #[v, .int .i64 n] w (PostLb (evenR x n).1 (evenR x n).2 w) := by
  have HS := Lib.hid (show ∀ (W : World) (vw : Value) (ws : List Int), Below w.heap.size w W → ws.length ≤ 1048576 → Row W 0 W.heap.size vw (intsV ws) → Calls Tryz.prog 18 #[v, vw] W (SharesPost x ws W) from fun W vw ws hb hl hr => implShares_any v vw x ws 0 W.heap.size W hlx hl (Nat.le_refl _) (OwnS.below h hb) hr (hsen.below hb))
  obtain ⟨Ax, cx, rfl⟩ := ownS_form h
  have bb0 : Below w.heap.size w (w.alloc (.cells #[.bool x.1, .slice Ax x.2.length cx] 29)) := below_al (Below.refl _ _) _
  have kx := box_new w #[.bool x.1, .slice Ax x.2.length cx] 29
  clear h hsen
  by_cases hlo : n < 1
  · have HV := Lib.hid (evenR_no (x := x) (n := n) (by omega))
    clear kx
    go_enter Tryz.func24, Tryz.ntmps24
    go_wp2
    go_ret2
    exact postLb_is HV.out (postLb_nil bb0)
  · by_cases hhi : 30 < n
    · have HV := Lib.hid (evenR_no (x := x) (n := n) (by omega))
      clear kx
      go_enter Tryz.func24, Tryz.ntmps24
      go_wp2
      go_ret2
      exact postLb_is HV.out (postLb_nil bb0)
    · obtain ⟨k, rfl⟩ : ∃ k : Nat, n = (k : Int) := ⟨n.toNat, by omega⟩
      have HV := Lib.hid (evenR_yes (x := x) (k := k) (by omega) (by omega))
      obtain ⟨W0, hW0⟩ : ∃ W0, W0 = w.alloc (.cells #[.bool x.1, .slice Ax x.2.length cx] 29) := ⟨_, rfl⟩
      rw [← hW0] at kx bb0
      have HW0 := Lib.hid hW0
      have HB0 := Lib.hid bb0
      have KX := Lib.hid kx
      clear hW0 kx bb0
      have KL := Lib.hid (show ∀ W, Below W0.heap.size W0 W → W.cell? ⟨w.heap.size, 0, none⟩ = some (.bool x.1) ∧ W.cell? ⟨w.heap.size, 1, none⟩ = some (.slice Ax x.2.length cx) from fun W hb => ⟨(KX.out.below hb).here.cell 0 _ rfl, (KX.out.below hb).here.cell 1 _ rfl⟩)
      have hd := (Below.refl W0.heap.size W0).drew
      have HD := Lib.hid hd
      clear hd
      go_enter Tryz.func24, Tryz.ntmps24
      go_wp2_with fail
      rw [← HW0.out]
      refine wp_region_held_drew (S := (fun W => W.cell? ⟨w.heap.size, 0, none⟩ = some (.bool x.1) ∧ W.cell? ⟨w.heap.size, 1, none⟩ = some (.slice Ax x.2.length cx))) (by kernel_rfl) ?_ (fun hHeld => ?_)
      · exact KL.out _ HD.out
      refine wpAnyH_take (i := 0) (v := ?_) rfl (by kernel_rfl) (by kernel_rfl) (by kernel_rfl) (fun _ _ _ h => h) (Or.inl ⟨by kernel_rfl, ?_⟩) (by assumption) ?_
      rotate_left
      · (intro w hSw; (try dsimp only at hSw); go_simp; (try with_reducible rfl))
      (try simp only [Act.put, List.getElem_toArray, List.getElem_cons_zero, List.setIfInBounds_toArray, List.set_cons_zero, List.set_cons_succ])
      refine wpAnyH_take (i := 2) (v := ?_) rfl (by kernel_rfl) (by kernel_rfl) (by kernel_rfl) (fun _ _ _ h => h) (Or.inl ⟨by kernel_rfl, ?_⟩) (by assumption) ?_
      rotate_left
      · (intro w hSw; (try dsimp only at hSw); go_simp; (try with_reducible rfl))
      (try simp only [Act.put, List.getElem_toArray, List.getElem_cons_zero, List.getElem_cons_succ, List.setIfInBounds_toArray, List.set_cons_zero, List.set_cons_succ])
      refine wpAnyH_ready (rs := [1]) (by kernel_rfl) (by simp) ?_
      refine AllReadyH.cons rfl (fun K hK => ?_) AllReadyH.nil
      go_simp
      refine hK.out _ _ ?_ (fun hHeld => ?_)
      · exact KL.out _ (below_al HD.out _)
      clear hK K
      (try simp only [Act.put, List.getElem_toArray, List.getElem_cons_zero, List.getElem_cons_succ, List.setIfInBounds_toArray, List.set_cons_zero, List.set_cons_succ])
      refine wpAnyH_ready (rs := [3]) (by kernel_rfl) (by simp) ?_
      refine AllReadyH.cons rfl (fun K hK => ?_) AllReadyH.nil
      go_simp
      go_at_call 66
      refine (repeat_any _ k W0.drew.heap.size (W0.drew.heap.size + 1) _ (by omega) (by omega) (Row.lit W0.drew #[.int .i64 1] 3) (by simp)).mono ?_
      rintro e w2 ⟨u, rfl, ou, b2⟩
      have HB2 := Lib.hid (Below.next (below_al HD.out (.cells #[.int .i64 1] 3)) b2)
      have HOU := Lib.hid ou
      obtain ⟨Au, cu, rfl⟩ := own_lenS ou
      clear ou b2
      refine hK.out _ _ ?_ (fun hHeld => ?_)
      · exact KL.out _ HB2.out
      clear hK K
      (try simp only [Act.put, List.getElem_toArray, List.getElem_cons_zero, List.getElem_cons_succ, List.setIfInBounds_toArray, List.set_cons_zero, List.set_cons_succ])
      refine wpAnyH_ready (rs := [4]) (by kernel_rfl) (by simp) ?_
      refine AllReadyH.cons rfl (fun K hK => ?_) AllReadyH.nil
      go_simp
      go_at_call 18
      refine (HS.out _ _ (List.replicate k 1) (Below.next HB0.out HB2.out) (by rw [List.length_replicate]; omega) ((Row.of_own HOU.out).wide (Nat.zero_le _) (Nat.le_refl _))).mono ?_
      rintro e w4 hp
      obtain ⟨⟨L, ob⟩, hLo⟩ : ∃ P, sharesR x (List.replicate k 1) = P := ⟨_, rfl⟩
      have HV2 := Lib.hid (HV.out.trans hLo)
      have hpl := postLb_from (Below.next HB0.out HB2.out) (sharesPost_lb hp)
      rw [hLo] at hpl
      dsimp only at hpl
      obtain ⟨u, S, rfl, ha, hw, hb4⟩ := hpl
      have HA := Lib.hid (show PostLb L ob w (.returned (.tuple #[u, .bool ob])) w4 from ⟨u, S, rfl, ha, hw, hb4⟩)
      obtain ⟨_, _, hb5⟩ := hp
      have HB5 := Lib.hid (Below.next HB2.out hb5.2)
      clear ha hw hb4 hb5
      clear hLo
      refine hK.out _ _ ?_ (fun hHeld => ?_)
      · exact KL.out _ HB5.out
      clear hK K
      (try simp only [Act.put, List.getElem_toArray, List.getElem_cons_zero, List.getElem_cons_succ, List.setIfInBounds_toArray, List.set_cons_zero, List.set_cons_succ])
      refine wpAnyH_take (i := 5) (v := ?_) rfl (by kernel_rfl) (by kernel_rfl) (by kernel_rfl) (fun _ _ _ h => h) (Or.inl ⟨by kernel_rfl, ?_⟩) (by assumption) ?_
      rotate_left
      · (intro w hSw; (try dsimp only at hSw); go_simp; (try with_reducible rfl))
      (try simp only [Act.put, List.getElem_toArray, List.getElem_cons_zero, List.getElem_cons_succ, List.setIfInBounds_toArray, List.set_cons_zero, List.set_cons_succ])
      refine wpAnyH_take (i := 6) (v := ?_) rfl (by kernel_rfl) (by kernel_rfl) (by kernel_rfl) (fun _ _ _ h => h) (Or.inl ⟨by kernel_rfl, ?_⟩) (by assumption) ?_
      rotate_left
      · (intro w hSw; (try dsimp only at hSw); go_simp; (try with_reducible rfl))
      (try simp only [Act.put, List.getElem_toArray, List.getElem_cons_zero, List.getElem_cons_succ, List.setIfInBounds_toArray, List.set_cons_zero, List.set_cons_succ])
      refine wpAnyH_take (i := 7) (v := ?_) rfl (by kernel_rfl) (by kernel_rfl) (by kernel_rfl) (fun _ _ _ h => h) (Or.inl ⟨by kernel_rfl, ?_⟩) (by assumption) ?_
      rotate_left
      · (intro w hSw; (try dsimp only at hSw); go_simp; (try with_reducible rfl))
      (try simp only [Act.put, List.getElem_toArray, List.getElem_cons_zero, List.getElem_cons_succ, List.setIfInBounds_toArray, List.set_cons_zero, List.set_cons_succ])
      refine wpAnyH_take (i := 8) (v := ?_) rfl (by kernel_rfl) (by kernel_rfl) (by kernel_rfl) (fun _ _ _ h => h) (Or.inl ⟨by kernel_rfl, ?_⟩) (by assumption) ?_
      rotate_left
      · (intro w hSw; (try dsimp only at hSw); go_simp; (try with_reducible rfl))
      (try simp only [Act.put, List.getElem_toArray, List.getElem_cons_zero, List.getElem_cons_succ, List.setIfInBounds_toArray, List.set_cons_zero, List.set_cons_succ])
      refine wpAnyH_done (by kernel_rfl) ?_ _
      go_wp2
      go_ret2
      exact postLb_is (p := (L, ob)) HV2.out HA.out
end Go.Proofs.YtofehcpapdlcnabGreatDoor

namespace Go.Proofs.YtofehcpapdlcnabGreatDoor
open Go.ChangeShapes Go.WideShapes Go.ChangeAt Go.RowKit

section
variable {H : Type} {enc : TypeId × Value → H} {P : Program} {W : World} {base : Nat} {t e : TypeId} {v : Value} {d : DataW H} {p : List MemPlace}

end
end Go.Proofs.YtofehcpapdlcnabGreatDoor

namespace Go.Proofs.YtofehcpapdlcnabGreatDoor
open Go.ChangeShapes Go.WideShapes Go.ChangeAt Go.RowKit Go.Joins

section
variable {H : Type} {enc : TypeId × Value → H} {P : Program} {W : World} {base : Nat} {t e : TypeId}

/-- the cell of a slice of ints, wherever it stands -/
theorem cell_ints {fuel : Nat} {a0 : Option Addr} {len0 cap0 : Nat} {x : DataW H × List MemPlace} (ht : P.underlying t = some (.slice e)) (he : P.underlying e = some (.int .i64)) (hc : P.cellsOf e = 1)
    (hf : DataW.trod enc P W 0 (fun _ => true) true fuel t [.slice a0 len0 cap0] = some x) :
    ∃ xs : List Int, Row W 0 W.heap.size (.slice a0 len0 cap0) (xs.map (Value.int .i64)) ∧ xs.length ≤ maxLen := by
  rcases open_ints ht he hc hf with ⟨hcs, _⟩ | ⟨a, len, cap, ss, hcs, _, hl, hm, hz, _, hcell, hsz⟩
  · have hcs' : Value.slice a0 len0 cap0 = .slice none 0 0 := by simpa using hcs
    cases hcs'
    exact ⟨[], Row.nil_ _ _, by simp⟩
  · have hcs' : Value.slice a0 len0 cap0 = .slice (some a) len cap := by simpa using hcs
    obtain ⟨rfl, rfl, rfl⟩ : a0 = some a ∧ len = len0 ∧ cap = cap0 := by cases hcs'; exact ⟨rfl, rfl, rfl⟩
    have hzl : ss.length = cap := by simpa using hz
    have hlen : (ss.take len).length = len := by rw [List.length_take]; omega
    refine ⟨ss.take len, ⟨some a, cap, by rw [List.length_map, hlen], fun j u hu => ?_⟩, by omega⟩
    rw [List.getElem?_map] at hu
    obtain ⟨s, hs, rfl⟩ := Option.map_eq_some_iff.1 hu
    have hj : j < len := by rw [← hlen]; exact (List.getElem?_eq_some_iff.1 hs).1
    have hs' : ss[j]? = some s := by rw [← hs, List.getElem?_take_of_lt hj]
    have hc1 := hcell j (by omega)
    rw [List.getD_eq_getElem?_getD, hs'] at hc1
    exact ⟨a, rfl, Nat.zero_le _, by have := cell_lt hc1; rwa [block_add] at this, hc1⟩
end

theorem Tryz.cellsSigned : Tryz.prog.cellsOf 24 = 2 := by kernel_rfl
theorem Tryz.cellsInt1 : Tryz.prog.cellsOf 3 = 1 := by kernel_rfl
set_option maxHeartbeats 400000 in
set_option maxRecDepth 100000 in
theorem arg_signed {H : Type} {enc : TypeId × Value → H} {W : World} {base : Nat} {v : Value} {d : DataW H} {p : List MemPlace}
    (hv : Value.okWide Tryz.prog W .any base 24 v) (h : DataW.Trod enc Tryz.prog W 0 (fun _ => true) true 24 v d p) : ∃ x : SI, RdS W v x ∧ x.2.length ≤ maxLen := by
  obtain ⟨c0, c1, y0, y1, m, rfl, rfl, rfl, hy0, hy1⟩ := open_agg2 Tryz.underlying24 (by kernel_rfl) Tryz.cellsSigned hv h
  obtain ⟨b, e0, rfl⟩ := DataW.trod_bool Tryz.underlying4 hy0
  obtain ⟨a, l, c, e1⟩ := slice_form Tryz.underlying22 hy1
  simp at e0 e1
  subst e0 e1
  obtain ⟨xs, hr, hl⟩ := cell_ints Tryz.underlying22 Tryz.underlying3 Tryz.cellsInt1 hy1
  exact ⟨(b, xs), ⟨_, rfl, hr⟩, hl⟩
end Go.Proofs.YtofehcpapdlcnabGreatDoor

namespace Go.Proofs.YtofehcpapdlcnabGreatDoor
open Go.ChangeShapes Go.WideShapes Go.ChangeAt Go.RowKit Go.Joins

end Go.Proofs.YtofehcpapdlcnabGreatDoor

namespace Go.Proofs.YtofehcpapdlcnabGreatDoor
open Go.RowKit

/-- code, number, places, cash -/
abbrev CR : Type := ByteArray × ByteArray × Int × Int
def implT : List CR := [
  (⟨#[67, 72, 70]⟩, ⟨#[55, 53, 54]⟩, 2, 5),
  (⟨#[69, 85, 82]⟩, ⟨#[57, 55, 56]⟩, 2, 1),
  (⟨#[85, 83, 68]⟩, ⟨#[56, 52, 48]⟩, 2, 1),
  (⟨#[71, 66, 80]⟩, ⟨#[56, 50, 54]⟩, 2, 1),
  (⟨#[74, 80, 89]⟩, ⟨#[51, 57, 50]⟩, 0, 1),
  (⟨#[83, 69, 75]⟩, ⟨#[55, 53, 50]⟩, 2, 100),
  (⟨#[78, 79, 75]⟩, ⟨#[53, 55, 56]⟩, 2, 100),
  (⟨#[68, 75, 75]⟩, ⟨#[50, 48, 56]⟩, 2, 50),
  (⟨#[67, 90, 75]⟩, ⟨#[50, 48, 51]⟩, 2, 100),
  (⟨#[72, 85, 70]⟩, ⟨#[51, 52, 56]⟩, 2, 500),
  (⟨#[80, 76, 78]⟩, ⟨#[57, 56, 53]⟩, 2, 1),
  (⟨#[67, 65, 68]⟩, ⟨#[49, 50, 52]⟩, 2, 5),
  (⟨#[65, 85, 68]⟩, ⟨#[48, 51, 54]⟩, 2, 5),
  (⟨#[78, 90, 68]⟩, ⟨#[53, 53, 52]⟩, 2, 10),
  (⟨#[75, 87, 68]⟩, ⟨#[52, 49, 52]⟩, 3, 5),
  (⟨#[66, 72, 68]⟩, ⟨#[48, 52, 56]⟩, 3, 5),
  (⟨#[84, 78, 68]⟩, ⟨#[55, 56, 56]⟩, 3, 10),
  (⟨#[73, 83, 75]⟩, ⟨#[51, 53, 50]⟩, 0, 1),
  (⟨#[75, 82, 87]⟩, ⟨#[52, 49, 48]⟩, 0, 10),
  (⟨#[67, 76, 70]⟩, ⟨#[57, 57, 48]⟩, 4, 1)]
def cellsC (r : CR) : List Value := [.string r.1, .string r.2.1, .int .i64 r.2.2.1, .int .i64 r.2.2.2]
def cellsT (l : List CR) : List Value := l.flatMap cellsC
end Go.Proofs.YtofehcpapdlcnabGreatDoor

namespace Go.Proofs.YtofehcpapdlcnabGreatDoor
open Go.RowKit

/-! ### look-ups by code -/
/-! ### amounts -/
abbrev MI : Type := ByteArray × SI
end Go.Proofs.YtofehcpapdlcnabGreatDoor

namespace Go.Proofs.YtofehcpapdlcnabGreatDoor
open Go.RowKit

/-- a value that stands for it, its limbs of the call's own -/
def OwnM (v : Value) (q : MI) (w : World) : Prop := ∃ u, v = .agg #[.string q.1, .bool q.2.1, u] ∧ OwnI u q.2.2 w
/-- a value that reads as it -/
def RdM (w : World) (v : Value) (q : MI) : Prop := ∃ u, v = .agg #[.string q.1, .bool q.2.1, u] ∧ Row w 0 w.heap.size u (intsV q.2.2)
theorem OwnM.rd {v : Value} {q : MI} {w : World} (h : OwnM v q w) : RdM w v q := by
  obtain ⟨u, rfl, o⟩ := h
  exact ⟨u, rfl, o.row⟩
theorem OwnM.mk {u : Value} {q : MI} {w : World} (h : OwnI u q.2.2 w) : OwnM (.agg #[.string q.1, .bool q.2.1, u]) q w := ⟨u, rfl, h⟩
theorem OwnM.below {w W : World} {v : Value} {q : MI} (h : OwnM v q w) (hb : Below w.heap.size w W) : OwnM v q W := by
  obtain ⟨u, rfl, o⟩ := h
  exact ⟨u, rfl, own_below o hb⟩
theorem RdM.below {w W : World} {v : Value} {q : MI} (h : RdM w v q) (hb : Below w.heap.size w W) : RdM W v q := by
  obtain ⟨u, rfl, o⟩ := h
  exact ⟨u, rfl, (o.below hb (Nat.le_refl _)).wide (Nat.le_refl _) hb.size⟩
end Go.Proofs.YtofehcpapdlcnabGreatDoor

namespace Go.Proofs.YtofehcpapdlcnabGreatDoor
open Go.RowKit

end Go.Proofs.YtofehcpapdlcnabGreatDoor

namespace Go.Proofs.YtofehcpapdlcnabGreatDoor
open Go.RowKit

end Go.Proofs.YtofehcpapdlcnabGreatDoor

namespace Go.Proofs.YtofehcpapdlcnabGreatDoor
open Go.RowKit

end Go.Proofs.YtofehcpapdlcnabGreatDoor

namespace Go.Proofs.YtofehcpapdlcnabGreatDoor
open Go.RowKit

def CurTab (w : World) : Prop := w.var? Tryz.prog "loop.example/g00793/impl.currencies" = some (cellsT implT).toArray
theorem curNamed : Tryz.prog.globalNamed "loop.example/g00793/impl.currencies" = some 0 := by kernel_rfl
theorem CurTab.lt {w : World} (h : CurTab w) : 0 < w.heap.size := by
  unfold CurTab World.var? at h
  rw [curNamed] at h
  simp only [Option.bind_some] at h
  cases hh : w.heap[0]? with
  | none => rw [hh] at h; cases h
  | some o => exact (Array.getElem?_eq_some_iff.1 hh).1
theorem CurTab.below {w w' : World} (h : CurTab w) (hb : Below w.heap.size w w') : CurTab w' := by
  have hl := h.lt
  unfold CurTab World.var? at h ⊢
  rw [curNamed] at h ⊢
  simp only [Option.bind_some] at h ⊢
  rw [hb.block _ hl]
  exact h
theorem CurTab.range {w : World} (h : CurTab w) : w.rangeAt 0 0 (cellsT implT) := by
  intro j v hv
  rw [World.var?_cell curNamed h (0 + j), Nat.zero_add]
  simpa using hv
end Go.Proofs.YtofehcpapdlcnabGreatDoor

namespace Go.Proofs.YtofehcpapdlcnabGreatDoor
open Go.RowKit

end Go.Proofs.YtofehcpapdlcnabGreatDoor

namespace Go.Proofs.YtofehcpapdlcnabGreatDoor
open Go.RowKit

end Go.Proofs.YtofehcpapdlcnabGreatDoor

namespace Go.Proofs.YtofehcpapdlcnabGreatDoor
open Go.ChangeShapes Go.WideShapes Go.ChangeAt Go.RowKit Go.Joins

end Go.Proofs.YtofehcpapdlcnabGreatDoor

namespace Go.Proofs.YtofehcpapdlcnabGreatDoor
open Go.ChangeShapes Go.WideShapes Go.ChangeAt Go.RowKit

end Go.Proofs.YtofehcpapdlcnabGreatDoor

namespace Go.Proofs.YtofehcpapdlcnabGreatDoor
open Go.ChangeShapes Go.WideShapes Go.ChangeAt Go.RowKit

end Go.Proofs.YtofehcpapdlcnabGreatDoor

namespace Go.Proofs.YtofehcpapdlcnabGreatDoor
open Go.ChangeShapes Go.WideShapes Go.ChangeAt Go.RowKit

end Go.Proofs.YtofehcpapdlcnabGreatDoor

namespace Go.Proofs.YtofehcpapdlcnabGreatDoor
open Go.ChangeShapes Go.WideShapes Go.ChangeAt Go.RowKit

theorem senNamed : Tryz.prog.globalNamed "loop.example/g00793/impl.errZeroDivisor" = some 1 := by kernel_rfl
theorem senType : (Tryz.prog.globals[1]?).map (·.type) = some 159 := by kernel_rfl
theorem senCells : Tryz.prog.cellsOf 210 = 1 := by kernel_rfl
theorem strCells : Tryz.prog.cellsOf 9 = 1 := by kernel_rfl
theorem senStar : "*" ++ "errors.errorString" = "*errors.errorString" := by decide
theorem senRow (u : TypeId) (h : Tryz.prog.typeName? 3 u = some "*errors.errorString") : u = 186 :=
  typeName_ptr_named (nm := "errors.errorString") (by rw [senStar]; kernel_rfl) (by kernel_rfl) (by decide) u (by rw [senStar]; exact h)
/-- what the sentinel reads as -/
def senText : List UInt8 := [100, 105, 118, 105, 115, 105, 111, 110, 32, 98, 121, 32, 122, 101, 114, 111]
theorem senData : (Rows.laid_loop_example_g00793_impl_errZeroDivisor : DataW Unit) = .iface "*errors.errorString" (.ptr (.agg [.lit (.string senText)])) := by kernel_rfl
/-- the variable's value -/
def SenAt (a : Addr) (w : World) : Prop := w.var? Tryz.prog "loop.example/g00793/impl.errZeroDivisor" = some #[.iface 186 (.pointer (some a))]
theorem SenAt.sen {a : Addr} {w : World} (h : SenAt a w) : Sen w := ⟨a, by simpa using World.var?_cell senNamed h 0⟩
theorem sen_of {r : List (String × DataW Unit)} {W : World} (h : laidMet Tryz.prog (("loop.example/g00793/impl.errZeroDivisor", Rows.laid_loop_example_g00793_impl_errZeroDivisor) :: r) W) : ∃ a, SenAt a W := by
  rw [senData] at h
  obtain ⟨a, s, hv, _⟩ := laid_sentinel h senNamed senType Tryz.underlying159 senRow Tryz.underlying186 Tryz.underlying210 rfl rfl Tryz.underlying9 senCells strCells
  exact ⟨a, hv⟩
theorem SenAt.below {a : Addr} {w w' : World} (h : SenAt a w) (hb : Below w.heap.size w w') : SenAt a w' := by
  obtain ⟨_, hc⟩ := h.sen
  have hl := cell_lt hc
  unfold SenAt World.var? at h ⊢
  rw [senNamed] at h ⊢
  simp only [Option.bind_some] at h ⊢
  rw [hb.block _ hl]
  exact h

/-- the post of a law that names the sentinel -/
theorem law_post1 {H : Type} {enc : TypeId × Value → H} {f : Func} {s : ChangeSpec} {tb : TypeId} {a : Addr} {W W' : World} {args : Array Value} {ds gs : List (DataW H)} {before : List MemPlace}
    (hr : legible Tryz.prog f.params.toList = true) (hty : f.resultTypes = #[tb]) (htb : Tryz.prog.underlying tb = some .bool) (hvars : s.vars = ["loop.example/g00793/impl.errZeroDivisor"])
    (hs : SenAt a W) (hfn : ∀ g, s.fn H (ds ++ [g]) = { results := [.lit (.bool true)], args := ds, vars := [g] })
    (hW : DataW.Whole enc Tryz.prog f.params.toList s.vars false W args.toList ds gs before) (hb : Below W.heap.size W W') :
    s.post enc Tryz.prog f false true false false W args (.bool true) W' := by
  have hW' := hW
  obtain ⟨p, q, hA, hV, rfl, _, _⟩ := hW
  rw [hvars] at hV
  have vr : ∀ {X : World}, SenAt a X → ∀ sp : Nat → Bool, DataW.TrodVars enc Tryz.prog X sp ["loop.example/g00793/impl.errZeroDivisor"] [tok enc (.iface 186 (.pointer (some a)))] [.cell 1 0] :=
    fun x0 sp => vars_read1 enc senNamed senType Tryz.underlying159 x0 trivial sp
  obtain ⟨rfl, rfl⟩ := hV.unique (vr hs _)
  have hlt : ∀ x ∈ p, x.block < W.heap.size := fun x hx => hW'.lt x (by simp [hx])
  refine ⟨ds, _, _, [], p, [.cell 1 0], hW', ?_, ?_, ?_, hb.frame _, fun h => by cases h⟩
  · rw [hfn, hty]
    exact trodAll_mk1 (shut_bool htb _)
  · rw [hfn]
    exact args_below Tryz.laidOut hb hr hA hlt
  · rw [hfn, hvars]
    exact vr (hs.below hb) _

/-- a world for the witness: the settled one, the listed variable holding what its initialiser lays -/
def putSen (cs : Array Value) : Obj → Obj
  | .cells _ t frozen => .cells cs t frozen
  | o => o
noncomputable def low : Nat := (World.holding Tryz.prog default ⟨#[], #[], []⟩).heap.size
noncomputable def senWorld (os : Os) : World :=
  let w0 := World.holding Tryz.prog os ⟨#[.cells #[.string ⟨senText.toArray⟩] 210], #[], []⟩
  { w0 with heap := w0.heap.modify 1 (putSen #[.iface 186 (.pointer (some ⟨low, 0, none⟩))]) }

set_option maxRecDepth 100000 in
/-- from the walk at every argument, the listed variables at hand, to the lifted row -/
theorem law_lifted_sen {H : Type} {enc : TypeId × Value → H} {os : Os} (started : os.Started) {F : Stop.Interp} {f : FuncId} {fn : Func} {s : ChangeSpec} {conds : List PathCond} {tb : TypeId} {laidL : List (String × DataW Unit)}
    (noInit : Tryz.prog.inits.idxOf? f = none) (hfun : Tryz.prog.funcs[f]? = some fn)
    (hr : legible Tryz.prog fn.params.toList = true) (hty : fn.resultTypes = #[tb]) (htb : Tryz.prog.underlying tb = some .bool) (hvars : s.vars = ["loop.example/g00793/impl.errZeroDivisor"])
    (hsen : ∀ W, laidMetH Tryz.prog laidL W → ∃ a, SenAt a W)
    (witness : ∃ (w : World) (tape : Tape) (i : Input), w.os = os ∧ (w.forCall tape i).Shaped Tryz.checked.prog ∧ i.vars = [] ∧ Input.okWide Tryz.checked.prog (w.forCall tape i) .any w.heap.size f i ∧
      (OpenSpec.ofChange s).preRow enc Tryz.checked.prog fn conds false laidL (w.forCall tape i).memory i.args ∧ Assume.holds {} Tryz.checked.prog (lone (Frame.enter Tryz.checked.prog f i.args .normal) [] (w.forCall tape i)))
    (walk : ∀ (W : World) (base : Nat) (args : Array Value) (ds : List (DataW H)) (p : List MemPlace),
      (∀ (j : Nat) t v, fn.params[j]? = some t → args[j]? = some v → Value.okWide Tryz.prog W .any base t v) →
      DataW.TrodAll enc Tryz.prog W 0 (fun _ => true) true fn.params.toList args.toList ds p → (∀ x ∈ p, x.block < W.heap.size) → laidMetH Tryz.prog laidL W → Sen W →
      (∀ g, s.fn H (ds ++ [g]) = { results := [.lit (.bool true)], args := ds, vars := [g] }) ∧ Calls Tryz.prog f args W fun e W' => e = .returned (.bool true) ∧ Below W.heap.size W W') :
    ReturnsInHanded {} Tryz.checked os f .any ((OpenSpec.ofChange s).preRow enc Tryz.prog fn conds false laidL) (((OpenSpec.ofChange s).at F).post enc Tryz.prog fn false true false false) := by
  refine returnsInHanded_of_row (C := Tryz.checked) (s := OpenSpec.ofChange s) Tryz.own started noInit hfun witness ?_
  intro W base args ds gs before hval hW0 _ _ _ hL _ _
  have hW : DataW.Whole enc Tryz.prog fn.params.toList s.vars false W args.toList ds gs before := hW0
  have hW' := hW
  obtain ⟨p, q, hA, hV, rfl, _, _⟩ := hW
  obtain ⟨a, ha⟩ := hsen W hL
  obtain ⟨hfn, hc⟩ := walk W base args ds p hval hA (fun x hx => hW'.lt x (by simp [hx])) hL ha.sen
  refine hc.mono fun e W' ⟨he, hb⟩ => ?_
  subst he
  exact ⟨_, rfl, law_post1 hr hty htb hvars ha hfn hW' hb⟩
end Go.Proofs.YtofehcpapdlcnabGreatDoor

namespace Go.Proofs.YtofehcpapdlcnabGreatDoor
open Go.ChangeShapes Go.WideShapes Go.ChangeAt Go.RowKit

end Go.Proofs.YtofehcpapdlcnabGreatDoor

namespace Go.Proofs.YtofehcpapdlcnabGreatDoor
open Go.RowKit

set_option maxHeartbeats 4000000 in
set_option maxRecDepth 100000 in
theorem lawSharesEven_walk (vx : Value) (x : SI) (n : Int) (R0 : List SI) (R1 : Bool) (w : World)
    (hS : ∀ (ux : Value) (W : World), OwnS ux x W → Calls Tryz.prog 23 #[ux, .int .i64 n] W (PostLb R0 R1 W))
    (hI : ∀ (ux : Value) (W : World), OwnS ux x W → Sen W → Calls Tryz.prog 24 #[ux, .int .i64 n] W (PostLb R0 R1 W))
    (ht0 : Sen w) (hl : szS x ≤ 1048576) (hlR0 : mkL R0 ≤ 1048576) (hxR0 : ∀ y ∈ R0, y.2.length ≤ 9223372036854775807) (rx : RdS w vx x) :
    Calls Tryz.prog 5 #[vx, .int .i64 n] w fun e w' => e = .returned (.bool true) ∧ Below w.heap.size w w' := by
  have HS := Lib.hid hS
  have HI := Lib.hid hI
  clear hS hI
  have HT0 := Lib.hid ht0
  clear ht0
  have hsx := szS_nonneg x
  have hsR0 := mkL_nonneg R0
  have HXR0 := Lib.hid hxR0
  clear hxR0
  have hzx : szS x ≤ 1048576 := by omega
  obtain ⟨Ax, cx, rfl⟩ := rdS_form rx
  have bb0 : Below w.heap.size w (w.alloc (.cells #[.bool x.1, .slice Ax x.2.length cx] 24)) := below_al (Below.refl _ _) _
  have kx := box_new w #[.bool x.1, .slice Ax x.2.length cx] 24
  have RFx : Hid (∀ W, Below w.heap.size w W → RdS W (.agg #[.bool x.1, .slice Ax x.2.length cx]) x) := Lib.hid fun W hb => rx.below hb
  go_enter Tryz.func5, Tryz.ntmps5
  have kx_c0 := kx.here.cell 0 _ rfl
  have kx_c1 := kx.here.cell 1 _ rfl
  go_wp2_with fail
  clear kx_c0 kx_c1
  refine (szS_cal _ x (1048576) _ (capS_of hzx) (by omega) (by omega) (RFx.out _ bb0)).mono ?_
  rintro e w1 ⟨rfl, b1⟩
  rw [leftI_of (by omega)]
  have bb1 := Below.next bb0 b1
  replace kx := kx.below b1
  have hn : decide (((1048576 : Int) - szS x : Int) < 0) = false := decide_eq_false (by omega)
  have HKx := Lib.hid (kx.lt (w.heap.size) (by simp))
  have kx_c0 := kx.here.cell 0 _ rfl
  have kx_c1 := kx.here.cell 1 _ rfl
  go_wp2_with fail
  refine (toS_new _ x _ hzx (RFx.out _ bb1)).mono ?_
  rintro e wt0 ⟨ut0, St0, rfl, ot0, lt0, bt0⟩
  obtain ⟨At0, ct0, rfl⟩ := ownS_form ot0.here
  have bbt0 := Below.next bb1 bt0
  clear kx_c0 kx_c1
  go_wp2_with fail
  refine (HS.out _ _ ot0.here).mono ?_
  rintro e w2 ⟨uw0, Sw0, rfl, ow0, lw0, bf⟩
  obtain ⟨Aw0, cw0, rfl⟩ := ownLP_form ow0.here
  have b2 := Below.next bt0 bf
  have bb2 := Below.next bb1 b2
  replace kx := kx.below b2
  have kx_c0 := kx.here.cell 0 _ rfl
  have kx_c1 := kx.here.cell 1 _ rfl
  go_upto_region 6 with fail
  go_cut [8] (fun s wx => NewLocV 29 (fun v => OwnS v x) w2 s wx)
  case first =>
    go_wp2_with fail
    refine (toS_new _ x _ hzx (RFx.out _ bb2)).mono ?_
    rintro e wt ⟨ut, St, rfl, ot, lt, bt⟩
    obtain ⟨At, ct, rfl⟩ := ownS_form ot.here
    go_wp2_with fail
    go_meet
    exact newLocV_last ot lt (Nat.le_refl _) bt
  rename World => w3
  clear kx_c0 kx_c1
  obtain ⟨gxx, csxx, Sxx, rfl, kxx, oxx, nxx, lxx, b3⟩ := hcut
  obtain ⟨Axx, cxx, exx⟩ := ownS_form oxx.here
  injection exx with exx
  subst exx
  have bb3 := Below.next bb2 b3
  replace kx := kx.below b3
  replace ow0 := ow0.below b3
  have kxx_c0 := kxx.here.cell 0 _ rfl
  have kxx_c1 := kxx.here.cell 1 _ rfl
  go_wp2_with fail
  clear kxx_c0 kxx_c1
  refine (HI.out _ _ oxx.here (HT0.out.below bb3)).mono ?_
  rintro e w4 ⟨ug0, Sg0, rfl, og0, lg0, b4⟩
  obtain ⟨Ag0, cg0, rfl⟩ := ownLP_form og0.here
  have bb4 := Below.next bb3 b4
  replace kx := kx.below b4
  replace ow0 := ow0.below b4
  replace kxx := kxx.below b4
  replace oxx := oxx.below b4
  go_wp2_with fail
  refine (eqSignedS_any _ _ R0 R0 _ (by have := mkL_len R0; omega) HXR0.out (OwnR.rd (OwnLP.ownR og0.here)) (OwnR.rd (OwnLP.ownR ow0.here))).mono ?_
  rintro e w5 ⟨rfl, b5⟩
  rw [decide_refl]
  have bb5 := Below.next bb4 b5
  replace kx := kx.below b5
  replace ow0 := ow0.below b5
  replace kxx := kxx.below b5
  replace oxx := oxx.below b5
  replace og0 := og0.below b5
  have kx_c0 := kx.here.cell 0 _ rfl
  have kx_c1 := kx.here.cell 1 _ rfl
  have kxx_c0 := kxx.here.cell 0 _ rfl
  have kxx_c1 := kxx.here.cell 1 _ rfl
  go_wp2_with fail
  have HB0 := Lib.hid (show Below w5.heap.size w5 w5.drew from (Below.refl _ _).drew)
  have KL := Lib.hid (show ∀ W, Below w5.heap.size w5 W → W.cell? ⟨w.heap.size, 0, none⟩ = some (.bool x.1) ∧ W.cell? ⟨w.heap.size, 1, none⟩ = some (.slice Ax x.2.length cx) ∧ W.cell? ⟨gxx, 0, none⟩ = some (.bool x.1) ∧ W.cell? ⟨gxx, 1, none⟩ = some (.slice Axx x.2.length cxx) ∧ Hid (Below w5.heap.size w5 W) from
    fun W hb => ⟨(kx.below hb).here.cell 0 _ rfl, (kx.below hb).here.cell 1 _ rfl, (kxx.below hb).here.cell 0 _ rfl, (kxx.below hb).here.cell 1 _ rfl, Lib.hid hb⟩)
  have BBF := Lib.hid (show ∀ W, Below w5.heap.size w5 W → Below w.heap.size w W from fun W hb => Below.next bb5 hb)
  have OXF := Lib.hid (show ∀ W, Below w5.heap.size w5 W → OwnS (.agg #[.bool x.1, .slice Axx x.2.length cxx]) x W from fun W hb => (oxx.below hb).here)
  clear kx_c0 kx_c1 kxx_c0 kxx_c1
  go_region_held3 (fun W => W.cell? ⟨w.heap.size, 0, none⟩ = some (.bool x.1) ∧ W.cell? ⟨w.heap.size, 1, none⟩ = some (.slice Ax x.2.length cx) ∧ W.cell? ⟨gxx, 0, none⟩ = some (.bool x.1) ∧ W.cell? ⟨gxx, 1, none⟩ = some (.slice Axx x.2.length cxx) ∧ Hid (Below w5.heap.size w5 W))
    ((refine KL.out _ ?_; (first | exact HBe.out | exact HBt.out | exact HB0.out | fail)))
    (first
      | (go_at_call 10; (have hBB := (‹_ ∧ _ ∧ _ ∧ _ ∧ Hid (Below w5.heap.size w5 _)›).2.2.2.2); (with_reducible refine (toS_new _ x _ hzx (RFx.out _ (BBF.out _ hBB.out))).mono ?_); rintro e wt ⟨t, St, rfl, ot, lt, bt⟩; have HBt := Lib.hid (Below.next hBB.out bt); clear hBB)
      | (go_at_call 14; (have hBB := (‹_ ∧ _ ∧ _ ∧ _ ∧ Hid (Below w5.heap.size w5 _)›).2.2.2.2); (with_reducible refine (eqS_cal _ _ x x _ (capS_of hzx) (OwnS.rd (OXF.out _ hBB.out)) (OwnS.rd ot.here)).mono ?_); rintro e w6 ⟨rfl, be⟩; rw [decide_refl]; have HBe := Lib.hid (Below.next hBB.out be); clear hBB))
  have b6 := HBe.out
  have bb6 := Below.next bb5 b6
  replace kx := kx.below b6
  replace ow0 := ow0.below b6
  replace kxx := kxx.below b6
  replace oxx := oxx.below b6
  replace og0 := og0.below b6
  clear HB0 KL BBF OXF HBt HBe ot lt
  have z1 := b1.size
  have z2 := b2.size
  have z3 := b3.size
  have z4 := b4.size
  have z5 := b5.size
  have z6 := b6.size
  have AP_xx_g0 := Lib.hid (Within.apart lxx lg0 (.inl (by omega)))
  have AP_w0_xx := Lib.hid (Within.apart lw0 lxx (.inl (by omega)))
  have AP_w0_g0 := Lib.hid (Within.apart lw0 lg0 (.inl (by omega)))
  have F_xx := Lib.hid (Within.from (B := w.heap.size) lxx (by have := bb1.size; omega))
  have N_xx := Lib.hid nxx
  have KX_x_xx := Lib.hid (show ∀ i ∈ [w.heap.size], i ∉ gxx :: Sxx from fun i hi hm => by have h1 := (lxx i hm).1; have h2 := HKx.out; simp at hi; omega)
  have F_g0 := Lib.hid (Within.from (B := w.heap.size) lg0 (by have := bb1.size; omega))
  have KX_x_g0 := Lib.hid (show ∀ i ∈ [w.heap.size], i ∉ Sg0 from fun i hi hm => by have h1 := (lg0 i hm).1; have h2 := HKx.out; simp at hi; omega)
  clear z1 z2 z3 z4 z5 z6
  have kxx_c0 := kxx.here.cell 0 _ rfl
  have kxx_c1 := kxx.here.cell 1 _ rfl
  go_wp2_with fail
  clear kxx_c0 kxx_c1
  refine (markS_cal _ x _ (1) _ (by omega) (by omega) oxx).mono ?_
  rintro e w7 ⟨rfl, mkxx, c7⟩
  clear oxx
  have bb7 := below_chg bb6 c7 bb6.size (fun i hi => F_xx.out i (List.mem_cons_of_mem _ hi))
  replace kx := kx.chg c7 (fun i hi hm => KX_x_xx.out i hi (List.mem_cons_of_mem _ hm))
  replace ow0 := ow0.chg c7 (fun i hi hm => AP_w0_xx.out i hi (List.mem_cons_of_mem _ hm))
  replace kxx := kxx.chg c7 (fun i hi hm => by simp at hi; subst hi; exact N_xx.out hm)
  replace og0 := og0.chg c7 (fun i hi hm => (apart_symm AP_xx_g0.out) i hi (List.mem_cons_of_mem _ hm))
  have hk : decide (((1 + szS x) : Int) < 0) = false := decide_eq_false (by omega)
  go_wp2_with fail
  refine (eqSignedS_any _ _ R0 R0 _ (by have := mkL_len R0; omega) HXR0.out (OwnR.rd (OwnLP.ownR og0.here)) (OwnR.rd (OwnLP.ownR ow0.here))).mono ?_
  rintro e w8 ⟨rfl, b8⟩
  rw [decide_refl]
  have bb8 := Below.next bb7 b8
  replace kx := kx.below b8
  replace ow0 := ow0.below b8
  replace kxx := kxx.below b8
  replace og0 := og0.below b8
  replace mkxx := mkxx.below b8
  clear hk
  go_wp2_with fail
  refine (markLP_cal _ R0 _ (1) _ (by omega) (by omega) og0).mono ?_
  rintro e w9 ⟨rfl, mkg0, c9⟩
  clear og0
  have bb9 := below_chg bb8 c9 bb8.size (fun i hi => F_g0.out i hi)
  replace kx := kx.chg c9 (fun i hi hm => KX_x_g0.out i hi hm)
  replace ow0 := ow0.chg c9 (fun i hi hm => AP_w0_g0.out i hi hm)
  replace kxx := kxx.chg c9 (fun i hi hm => AP_xx_g0.out i (by simp at hi; subst hi; exact List.mem_cons_self ..) hm)
  replace mkxx := mkxx.chg c9 (fun i hi hm => AP_xx_g0.out i (List.mem_cons_of_mem _ hi) hm)
  go_wp2_with fail
  refine (heldLP_cal _ R0 (1) _ (by omega) (by omega) mkg0.here).mono ?_
  rintro e w10 ⟨rfl, b10⟩
  have bb10 := Below.next bb9 b10
  replace kx := kx.below b10
  replace ow0 := ow0.below b10
  replace kxx := kxx.below b10
  replace mkxx := mkxx.below b10
  replace mkg0 := mkg0.below b10
  have hq10 : decide ((1 : Int) + mkL R0 < 0) = false := decide_eq_false (by omega)
  have kx_c0 := kx.here.cell 0 _ rfl
  have kx_c1 := kx.here.cell 1 _ rfl
  go_wp2_with fail
  refine (toS_new _ x _ hzx (RFx.out _ bb10)).mono ?_
  rintro e wt0 ⟨ut0, St0, rfl, ot0, lt0, bt0⟩
  obtain ⟨At0, ct0, rfl⟩ := ownS_form ot0.here
  have bbt0 := Below.next bb10 bt0
  clear kx_c0 kx_c1
  go_wp2_with fail
  refine (HI.out _ _ ot0.here (HT0.out.below bbt0)).mono ?_
  rintro e w11 ⟨uh0, Sh0, rfl, oh0, lh0, bf⟩
  obtain ⟨Ah0, ch0, rfl⟩ := ownLP_form oh0.here
  have b11 := Below.next bt0 bf
  have bb11 := Below.next bb10 b11
  replace kx := kx.below b11
  replace ow0 := ow0.below b11
  replace kxx := kxx.below b11
  replace mkxx := mkxx.below b11
  replace mkg0 := mkg0.below b11
  go_wp2_with fail
  refine (eqSignedS_any _ _ R0 R0 _ (by have := mkL_len R0; omega) HXR0.out (OwnR.rd (OwnLP.ownR oh0.here)) (OwnR.rd (OwnLP.ownR ow0.here))).mono ?_
  rintro e w12 ⟨rfl, b12⟩
  rw [decide_refl]
  have bb12 := Below.next bb11 b12
  replace kx := kx.below b12
  replace ow0 := ow0.below b12
  replace kxx := kxx.below b12
  replace mkxx := mkxx.below b12
  replace mkg0 := mkg0.below b12
  replace oh0 := oh0.below b12
  go_wp2_with fail
  refine (heldLP_cal _ R0 (1) _ (by omega) (by omega) mkg0.here).mono ?_
  rintro e w13 ⟨rfl, b13⟩
  have bb13 := Below.next bb12 b13
  replace kx := kx.below b13
  replace ow0 := ow0.below b13
  replace kxx := kxx.below b13
  replace mkxx := mkxx.below b13
  replace mkg0 := mkg0.below b13
  replace oh0 := oh0.below b13
  have hq13 : decide ((1 : Int) + mkL R0 < 0) = false := decide_eq_false (by omega)
  go_wp2
  go_ret
  exact ⟨rfl, bb13⟩
set_option maxHeartbeats 1000000 in
set_option maxRecDepth 100000 in
theorem lawSharesEven (vx : Value) (x : SI) (n : Int) (w : World)
    (hI : szS x ≤ 1048576 → ∀ (ux : Value) (W : World), OwnS ux x W → Sen W → Calls Tryz.prog 24 #[ux, .int .i64 n] W (PostLb ((evenR x n).1) ((evenR x n).2) W))
    (_h0n : -9223372036854775808 ≤ n) (_h1n : n ≤ 9223372036854775807) (hcx : capS x) (_hcl : True) (ht0 : Sen w) (rx : RdS w vx x) :
    Calls Tryz.prog 5 #[vx, .int .i64 n] w fun e w' => e = .returned (.bool true) ∧ Below w.heap.size w w' := by
  have hsx := szS_nonneg x
  by_cases hl : szS x ≤ 1048576
  case neg =>
    have RF := rx
    obtain ⟨Ax, cx, rfl⟩ := rdS_form rx
    have bb0 : Below w.heap.size w (w.alloc (.cells #[.bool x.1, .slice Ax x.2.length cx] 24)) := below_al (Below.refl _ _) _
    have kx := box_new w #[.bool x.1, .slice Ax x.2.length cx] 24
    go_enter Tryz.func5, Tryz.ntmps5
    have kx_c0 := kx.here.cell 0 _ rfl
    have kx_c1 := kx.here.cell 1 _ rfl
    go_wp2_with fail
    clear kx_c0 kx_c1
    refine (szS_cal _ x (1048576) _ hcx (by omega) (by omega) (rx.below bb0)).mono ?_
    rintro e w1 ⟨rfl, b1⟩
    have bb1 := Below.next bb0 b1
    replace kx := kx.below b1
    rw [show leftI (1048576) (szS x) = -1 by unfold leftI; rw [if_pos (by omega)]]
    go_wp2
    go_ret
    exact ⟨rfl, bb1⟩
  case pos =>
    exact lawSharesEven_walk vx x n ((evenR x n).1) ((evenR x n).2) w (fun ux W hx => specSharesEven_any ux x n W (by unfold szS szI at hl; omega) hx) (hI hl  ) ht0 hl   (evenR_mk x n) (evenR_big x n) rx  
end Go.Proofs.YtofehcpapdlcnabGreatDoor
