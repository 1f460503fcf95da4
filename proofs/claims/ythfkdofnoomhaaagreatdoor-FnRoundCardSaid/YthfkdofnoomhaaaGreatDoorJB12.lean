/-
  What size, half and small of package laws return.
  The law FnRound, walked over the contracts of package impl.
-/
import Derived.Deep.RegionHeld3
import Derived.Deep.DeepCutAuto
import Derived.IntWalk
import Derived.Test.YthfkdofnoomhaaaGreatDoorJB11
namespace Go.Proofs.YthfkdofnoomhaaaGreatDoor
open Go.RowKit

set_option maxHeartbeats 400000 in
set_option maxRecDepth 100000 in
theorem must_any (n : Bool) (P B : Option Addr) (l c m d : Nat) (w : World) : Calls Tryz.prog 37 #[.agg #[.bool n, .slice P l c, .slice B m d], .bool true] w fun e w' => e = .returned (.agg #[.bool n, .slice P l c, .slice B m d]) ∧ Below w.heap.size w w' := by
  have bb0 : Below w.heap.size w ((w.alloc (.cells #[.bool n, .slice P l c, .slice B m d] 34)).alloc (.cells #[.bool false, .slice none 0 0, .slice none 0 0] 34)) := below_al (below_al (Below.refl _ _) _) _
  have kr := (box_new w #[.bool n, .slice P l c, .slice B m d] 34).below (below_al (Below.refl _ _) (.cells #[.bool false, .slice none 0 0, .slice none 0 0] 34))
  have kr0 := kr.here.cell 0 _ rfl
  have kr1 := kr.here.cell 1 _ rfl
  have kr2 := kr.here.cell 2 _ rfl
  clear kr
  go_enter Tryz.func37, Tryz.ntmps37
  go_wp2
  refine bodyPost_ret (v := .agg #[.bool n, .slice P l c, .slice B m d]) (by simp [results, Tryz.results37, go_sem]) rfl ?_
  exact ⟨rfl, below_al (below_al (Below.refl _ _) _) _⟩
/-- what size answers: a value that reads as the fraction's size -/
def SizePost (z : QI) (w : World) (e : Ending) (w' : World) : Prop := ∃ u, e = .returned u ∧ OwnQ u z w' ∧ Below w.heap.size w w'
set_option maxHeartbeats 1000000 in
set_option maxRecDepth 100000 in
theorem size_any (vq : Value) (q z : QI) (w : World) (hz : szQ q ≤ 1048576) (hs : sizeQ q = z) (hn : cmpQ q oneQ < 0 → negQ q = (z, true)) (hq : OwnQ vq q w) (hsen : Sen w) :
    Calls Tryz.prog 57 #[vq] w (SizePost z w) := by
  have HS := Lib.hid hsen
  clear hsen
  have Hq := Lib.hid hq
  obtain ⟨Aq, cq, Bq, dq, rfl⟩ := ownQ_form hq
  have OQq := Lib.hid (show ∀ W, Below w.heap.size w W → OwnQ (.agg #[.bool q.1.1, .slice Aq q.1.2.length cq, .slice Bq q.2.length dq]) q W from fun W hb => OwnQ.below Hq.out hb)
  have OUq := Lib.hid (show ∀ W, Below w.heap.size w W → OwnI (.slice Aq q.1.2.length cq) q.1.2 W from fun W hb => (ownQ_open (OQq.out W hb)).2.1)
  have ODq := Lib.hid (show ∀ W, Below w.heap.size w W → OwnI (.slice Bq q.2.length dq) q.2 W from fun W hb => (ownQ_open (OQq.out W hb)).2.2.1)
  have OSq := Lib.hid (show ∀ W, Below w.heap.size w W → OwnS (.agg #[.bool q.1.1, .slice Aq q.1.2.length cq]) q.1 W from fun W hb => OwnS.mk (OUq.out W hb))
  clear hq
  have bb0 : Below w.heap.size w ((w.alloc (.cells #[.bool q.1.1, .slice Aq q.1.2.length cq, .slice Bq q.2.length dq] 34)).alloc (.cells #[.bool false, .slice none 0 0, .slice none 0 0] 34)) := below_al (below_al (Below.refl _ _) _) _
  have kq := (box_new w #[.bool q.1.1, .slice Aq q.1.2.length cq, .slice Bq q.2.length dq] 34).below (below_al (Below.refl _ _) (.cells #[.bool false, .slice none 0 0, .slice none 0 0] 34))
  have ko := (box_new (w.alloc (.cells #[.bool q.1.1, .slice Aq q.1.2.length cq, .slice Bq q.2.length dq] 34)) #[.bool false, .slice none 0 0, .slice none 0 0] 34)
  rw [show (w.alloc (.cells #[.bool q.1.1, .slice Aq q.1.2.length cq, .slice Bq q.2.length dq] 34)).heap.size = w.heap.size + 1 by simp] at ko
  have HKO := Lib.hid (ko.lt (w.heap.size + 1) (by simp))
  have HN := Lib.hid hn
  have HE := Lib.hid hs
  clear hn hs
  obtain ⟨c, hc⟩ : ∃ c, cmpQ q oneQ = c := ⟨_, rfl⟩
  have HC := Lib.hid hc
  rw [hc] at HN
  clear hc
  go_enter Tryz.func57, Tryz.ntmps57
  have kq_c0 := kq.here.cell 0 _ rfl
  have kq_c1 := kq.here.cell 1 _ rfl
  have kq_c2 := kq.here.cell 2 _ rfl
  go_wp2_with fail
  clear kq_c0 kq_c1 kq_c2
  refine ((implRatSign_any _ q _ hz (OQq.out _ bb0) (HS.out.below bb0)).mono fun _ _ h => postn_eq HC.out h).mono ?_
  rintro e w1 ⟨rfl, b1⟩
  have bb1 := Below.next bb0 b1
  replace kq := kq.below b1
  replace ko := ko.below b1
  by_cases hlt : c < 0
  · have HG := Lib.hid (HN.out hlt)
    have kq_c0 := kq.here.cell 0 _ rfl
    have kq_c1 := kq.here.cell 1 _ rfl
    have kq_c2 := kq.here.cell 2 _ rfl
    go_wp2_with fail
    clear kq_c0 kq_c1 kq_c2
    refine ((implRatNeg_any _ q _ hz (OQq.out _ bb1) (HS.out.below bb1)).mono fun _ _ h => postQb_is HG.out h).mono ?_
    rintro e w2 ⟨uf, Sf, rfl, of, lf, b2⟩
    obtain ⟨Af, cf, Bf, df, rfl⟩ := ownQ_form of.here
    have bb2 := Below.next bb1 b2
    replace kq := kq.below b2
    replace ko := ko.below b2
    go_wp2_with fail
    refine (must_any _ _ _ _ _ _ _ _).mono ?_
    rintro e w3 ⟨rfl, b3⟩
    have bb3 := Below.next bb2 b3
    replace kq := kq.below b3
    replace ko := ko.below b3
    replace of := of.below b3
    have hc3 := set3_chg (w.heap.size + 1) (.bool z.1.1) (.slice Af z.1.2.length cf) (.slice Bf z.2.length df) w3
    have HW := Lib.hid (show SizePost z w (.returned (.agg #[.bool z.1.1, .slice Af z.1.2.length cf, .slice Bf z.2.length df])) _ from ⟨_, rfl, (of.chg hc3 (fun i hi hm => by have := lf i hi; have := HKO.out; have := b1.size; simp at hm; omega)).here, below_set3 bb3 (by omega)⟩)
    have cko0 := ko.here.cell 0 _ rfl
    have fko0 := Lib.frozen_of_heap ko.here 0
    have cko1 := ko.here.cell 1 _ rfl
    have fko1 := Lib.frozen_of_heap ko.here 1
    have cko2 := ko.here.cell 2 _ rfl
    have fko2 := Lib.frozen_of_heap ko.here 2
    clear of ko hc3
    go_wp2
    refine bodyPost_ret (v := .agg #[.bool _, .slice Af _ cf, .slice Bf _ df]) (by simp [results, Tryz.results57, go_sem, cko0, cko1, cko2]; first | exact ⟨rfl, rfl, rfl⟩ | rfl) rfl ?_
    exact HW.out
  · have HZ := Lib.hid (show q = z by have h := HE.out; unfold sizeQ at h; rw [HC.out, if_neg hlt] at h; exact h)
    have HW := Lib.hid (fun W (hb : Below w.heap.size w W) => (show SizePost z w (.returned (.agg #[.bool q.1.1, .slice Aq q.1.2.length cq, .slice Bq q.2.length dq])) W from ⟨_, rfl, by rw [← HZ.out]; exact OQq.out _ hb, hb⟩))
    have cko0 := ko.here.cell 0 _ rfl
    have fko0 := Lib.frozen_of_heap ko.here 0
    have cko1 := ko.here.cell 1 _ rfl
    have fko1 := Lib.frozen_of_heap ko.here 1
    have cko2 := ko.here.cell 2 _ rfl
    have fko2 := Lib.frozen_of_heap ko.here 2
    have kq_c0 := kq.here.cell 0 _ rfl
    have kq_c1 := kq.here.cell 1 _ rfl
    have kq_c2 := kq.here.cell 2 _ rfl
    go_wp2
    refine bodyPost_ret (v := .agg #[.bool _, .slice Aq _ cq, .slice Bq _ dq]) (by simp [results, Tryz.results57, go_sem, cko0, cko1, cko2]; first | exact ⟨rfl, rfl, rfl⟩ | rfl) rfl ?_
    exact HW.out _ (below_set3 bb1 (by omega))
set_option maxHeartbeats 1000000 in
set_option maxRecDepth 100000 in
theorem half_any (w : World) (hsen : Sen w) : Calls Tryz.prog 58 #[] w (NewV (fun u => OwnQ u halfQ) w) := by
  have HS := Lib.hid hsen
  clear hsen
  have bb0 : Below w.heap.size w (w.alloc (.cells #[.bool false, .slice none 0 0, .slice none 0 0] 34)) := below_al (Below.refl _ _) _
  have ko := (box_new w #[.bool false, .slice none 0 0, .slice none 0 0] 34)
  have HKO := Lib.hid (ko.lt (w.heap.size) (by simp))
  have HH := Lib.hid halfQ_is.1
  generalize halfQ = H at *
  go_enter Tryz.func58, Tryz.ntmps58
  go_wp2_with fail
  refine ((implIntOf_any 1 _ (by decide) (by decide)).mono fun _ _ h => NewS.newV h).mono ?_
  rintro e w1 ⟨ua, Sa, rfl, oa, la, b1⟩
  obtain ⟨Aa, ca, rfl⟩ := ownS_form oa.here
  have bb1 := Below.next bb0 b1
  replace ko := ko.below b1
  go_wp2_with fail
  refine ((implIntOf_any 2 _ (by decide) (by decide)).mono fun _ _ h => NewS.newV h).mono ?_
  rintro e w2 ⟨ub, Sb, rfl, ob, lb, b2⟩
  obtain ⟨Ab, cb, rfl⟩ := ownS_form ob.here
  have bb2 := Below.next bb1 b2
  replace ko := ko.below b2
  replace oa := oa.below b2
  go_wp2_with fail
  refine ((implRatMake_any _ _ (ofZ 1) (ofZ 2) _ (szS_50 (ofZ_ok 1)) (szS_50 (ofZ_ok 2)) oa.here ob.here (HS.out.below bb2)).mono fun _ _ h => postQb_is HH.out h).mono ?_
  rintro e w3 ⟨uf, Sf, rfl, of, lf, b3⟩
  obtain ⟨Af, cf, Bf, df, rfl⟩ := ownQ_form of.here
  have bb3 := Below.next bb2 b3
  replace ko := ko.below b3
  replace oa := oa.below b3
  replace ob := ob.below b3
  go_wp2_with fail
  refine (must_any _ _ _ _ _ _ _ _).mono ?_
  rintro e w4 ⟨rfl, b4⟩
  have bb4 := Below.next bb3 b4
  replace ko := ko.below b4
  replace oa := oa.below b4
  replace ob := ob.below b4
  replace of := of.below b4
  have hc3 := set3_chg (w.heap.size) (.bool H.1.1) (.slice Af H.1.2.length cf) (.slice Bf H.2.length df) w4
  have hz3 := hc3.size
  have hb1 := b1.size
  have hb2 := b2.size
  have hb4 := b4.size
  have hko := HKO.out
  have HW := Lib.hid (show NewV (fun u => OwnQ u H) w (.returned (.agg #[.bool H.1.1, .slice Af H.1.2.length cf, .slice Bf H.2.length df])) _ from ⟨_, Sf, rfl, of.chg hc3 (fun i hi hm => by have := lf i hi; simp at hm; omega), fun i hi => by have := lf i hi; omega, below_set3 bb4 (Nat.le_refl _)⟩)
  have cko0 := ko.here.cell 0 _ rfl
  have fko0 := Lib.frozen_of_heap ko.here 0
  have cko1 := ko.here.cell 1 _ rfl
  have fko1 := Lib.frozen_of_heap ko.here 1
  have cko2 := ko.here.cell 2 _ rfl
  have fko2 := Lib.frozen_of_heap ko.here 2
  clear of ko hc3 oa ob hz3 hb1 hb2 hb4 hko
  go_wp2
  refine bodyPost_ret (v := .agg #[.bool _, .slice Af _ cf, .slice Bf _ df]) (by simp [results, Tryz.results58, go_sem, cko0, cko1, cko2]; first | exact ⟨rfl, rfl, rfl⟩ | rfl) rfl ?_
  exact HW.out
set_option maxHeartbeats 1000000 in
set_option maxRecDepth 100000 in
theorem small_any (vq : Value) (q z : QI) (w : World) (hz : szQ q ≤ 1048576) (hzz : szQ z ≤ 1048576) (ok : okQ q = true) (hs : sizeQ q = z) (hn : cmpQ q oneQ < 0 → negQ q = (z, true)) (h1 : cmpQ z unitQ < 0) (hq : OwnQ vq q w) (hsen : Sen w) :
    Calls Tryz.prog 54 #[vq] w (Postb true w) := by
  have HS := Lib.hid hsen
  clear hsen
  have Hq := Lib.hid hq
  obtain ⟨Aq, cq, Bq, dq, rfl⟩ := ownQ_form hq
  have OQq := Lib.hid (show ∀ W, Below w.heap.size w W → OwnQ (.agg #[.bool q.1.1, .slice Aq q.1.2.length cq, .slice Bq q.2.length dq]) q W from fun W hb => OwnQ.below Hq.out hb)
  have OUq := Lib.hid (show ∀ W, Below w.heap.size w W → OwnI (.slice Aq q.1.2.length cq) q.1.2 W from fun W hb => (ownQ_open (OQq.out W hb)).2.1)
  have ODq := Lib.hid (show ∀ W, Below w.heap.size w W → OwnI (.slice Bq q.2.length dq) q.2 W from fun W hb => (ownQ_open (OQq.out W hb)).2.2.1)
  have OSq := Lib.hid (show ∀ W, Below w.heap.size w W → OwnS (.agg #[.bool q.1.1, .slice Aq q.1.2.length cq]) q.1 W from fun W hb => OwnS.mk (OUq.out W hb))
  clear hq
  have bb0 : Below w.heap.size w (w.alloc (.cells #[.bool q.1.1, .slice Aq q.1.2.length cq, .slice Bq q.2.length dq] 34)) := below_al (Below.refl _ _) _
  have kq := (box_new w #[.bool q.1.1, .slice Aq q.1.2.length cq, .slice Bq q.2.length dq] 34)
  have HN := Lib.hid hn
  have HE := Lib.hid hs
  have HO := Lib.hid ok
  clear hn hs ok
  have HU := Lib.hid unitQ_is.1
  have HZU := Lib.hid unitQ_is.2.2.2.2
  generalize unitQ = U at *
  obtain ⟨c, hc⟩ : ∃ c, cmpQ z U = c := ⟨_, rfl⟩
  have HC := Lib.hid hc
  rw [hc] at h1
  clear hc
  go_enter Tryz.func54, Tryz.ntmps54
  have kq_c0 := kq.here.cell 0 _ rfl
  have kq_c1 := kq.here.cell 1 _ rfl
  have kq_c2 := kq.here.cell 2 _ rfl
  go_wp2_with fail
  clear kq_c0 kq_c1 kq_c2
  refine ((specRatOk_any _ q _ hz (OQq.out _ bb0)).mono fun _ _ h => (show Postb true _ _ _ by rw [← HO.out]; exact h)).mono ?_
  rintro e w1 ⟨rfl, b1⟩
  have bb1 := Below.next bb0 b1
  replace kq := kq.below b1
  have kq_c0 := kq.here.cell 0 _ rfl
  have kq_c1 := kq.here.cell 1 _ rfl
  have kq_c2 := kq.here.cell 2 _ rfl
  go_wp2_with fail
  clear kq_c0 kq_c1 kq_c2
  refine (size_any _ q z _ hz HE.out HN.out (OQq.out _ bb1) (HS.out.below bb1)).mono ?_
  rintro e w2 ⟨uz, rfl, oz, b2⟩
  obtain ⟨Az, cz, Bz, dz, rfl⟩ := ownQ_form oz
  have HOZ := Lib.hid oz
  clear oz
  have bb2 := Below.next bb1 b2
  replace kq := kq.below b2
  have bz := Below.refl w2.heap.size w2
  go_wp2_with fail
  refine ((implIntOf_any 1 _ (by decide) (by decide)).mono fun _ _ h => NewS.newV h).mono ?_
  rintro e w3 ⟨ua, Sa, rfl, oa, la, b3⟩
  obtain ⟨Aa, ca, rfl⟩ := ownS_form oa.here
  have bb3 := Below.next bb2 b3
  replace kq := kq.below b3
  replace bz := Below.next bz b3
  go_wp2_with fail
  refine ((implRatInt_any _ (ofZ 1) _ (szS_50 (ofZ_ok 1)) oa.here (HS.out.below bb3)).mono fun _ _ h => postQb_is HU.out h).mono ?_
  rintro e w4 ⟨uf, Sf, rfl, of, lf, b4⟩
  obtain ⟨Af, cf, Bf, df, rfl⟩ := ownQ_form of.here
  have bb4 := Below.next bb3 b4
  replace kq := kq.below b4
  replace oa := oa.below b4
  replace bz := Below.next bz b4
  go_wp2_with fail
  refine (must_any _ _ _ _ _ _ _ _).mono ?_
  rintro e w5 ⟨rfl, b5⟩
  have bb5 := Below.next bb4 b5
  replace kq := kq.below b5
  replace oa := oa.below b5
  replace of := of.below b5
  replace bz := Below.next bz b5
  go_wp2_with fail
  refine ((implRatCmp_any _ _ z U _ hzz HZU.out (OwnQ.below HOZ.out bz) of.here (HS.out.below bb5)).mono fun _ _ h => postn_eq HC.out h).mono ?_
  rintro e w6 ⟨rfl, b6⟩
  have bb6 := Below.next bb5 b6
  replace kq := kq.below b6
  replace oa := oa.below b6
  replace of := of.below b6
  clear oa of kq bz
  go_wp2
  go_ret
  exact ⟨rfl, bb6⟩
end Go.Proofs.YthfkdofnoomhaaaGreatDoor

namespace Go.Proofs.YthfkdofnoomhaaaGreatDoor
open Go.RowKit

/-- what one round of FnRound wants to know -/
theorem round_facts {r : QI} {m : Int} (h : Bd r 3) (h0 : 0 ≤ m) (h1 : m ≤ 6) : ∃ (x : SI) (b q t z : QI), Hid (RoundAll r m x b q t z) ∧ Hid (restS r m = x ∧ restQ r m = q ∧ restB r m = true) ∧ Hid (roundR r m = (x, true)) := by
  obtain ⟨x, b, q, t, z, HA⟩ := round_all (m := m) h
  have hm : modeB m = true := decide_eq_true ⟨h0, h1⟩
  obtain ⟨r1, r2, r3, r4⟩ := rest_all h.ok hm
  refine ⟨x, b, q, t, z, Lib.hid HA, Lib.hid ⟨r3.trans HA.ex, ?_, r2⟩, Lib.hid (by rw [r1, HA.ex])⟩
  rw [r4, HA.ex, HA.eb]
  show (subQ r b).1 = q
  rw [HA.eq]
theorem postSQb_is {a x : SI} {b y : QI} {c k : Bool} (h : a = x ∧ b = y ∧ c = k) {w w' : World} {n : Ending} (e : PostSQb a b c w n w') : PostSQb x y k w n w' := by obtain ⟨rfl, rfl, rfl⟩ := h; exact e
theorem cmpS_same {x : SI} (h : okS x = true) : cmpS x x = 0 := by rw [cmpS_val h h, (cmpI_facts _ _).1]
set_option maxHeartbeats 8000000 in
set_option maxRecDepth 100000 in
theorem lawRound_small (v : Value) (bs : List Nat) (w : World) (hb : ∀ b ∈ bs, b < 256) (hn : bs.length ≤ 1048576) (hr : Row w 0 w.heap.size v (bytesV bs)) (hs : Sen w) :
    Calls Tryz.prog 10 #[v] w fun e w' => e = .returned (.bool true) ∧ Below w.heap.size w w' := by
  have HB := Lib.hid hb
  clear hb
  have hr0 := hr
  obtain ⟨A0, c0, rfl, _⟩ := hr
  have hlen : (bytesV bs).length = bs.length := by simp [bytesV]
  rw [hlen] at hr0 ⊢
  clear hlen
  have HRB := Lib.hid hr0
  have HS := Lib.hid hs
  clear hr0 hs
  go_enter Tryz.func10, Tryz.ntmps10
  go_wp2_with fail
  refine (makeNear_any _ bs _ HB.out hn HRB.out).mono ?_
  rintro e v1 ⟨u, r, Sr, rfl, hbd, o_r, lr, bv⟩
  obtain ⟨Pr, er, Br, dr, rfl⟩ := ownQ_form o_r.here
  have HBD := Lib.hid hbd
  have al := below_al (Below.refl v1.heap.size v1) (.cells #[.bool r.1.1, .slice Pr r.1.2.length er, .slice Br r.2.length dr] 34)
  have kr := box_new v1 #[.bool r.1.1, .slice Pr r.1.2.length er, .slice Br r.2.length dr] 34
  replace o_r := o_r.below al
  have bb := Below.next bv al
  clear hbd lr bv al
  go_wp2
  go_loopw [4] (fun i wx => ∃ k : Int, 0 ≤ k ∧ k ≤ 7 ∧ i = .int .i64 k ∧ At [v1.heap.size] (BoxAt v1.heap.size #[.bool r.1.1, .slice Pr r.1.2.length er, .slice Br r.2.length dr] 34) wx ∧ At Sr (OwnQ (.agg #[.bool r.1.1, .slice Pr r.1.2.length er, .slice Br r.2.length dr]) r) wx ∧ Below w.heap.size w wx) (fun i _ => 7 - (intOf i).toNat)
  case atStart => exact ⟨0, by omega, by omega, rfl, kr, o_r, bb⟩
  case round =>
    clear kr o_r bb
    obtain ⟨k, hk0, hk, rfl, kr, o_r, bbr⟩ := hrel
    by_cases hlt : k ≤ 6
    · obtain ⟨x, b, q, t, z, HA, HR, HX⟩ := round_facts HBD.out hk0 hlt
      have hzr := HA.out.sz.1
      have hzq := HA.out.sz.2.2.1
      have kr_c0 := kr.here.cell 0 _ rfl
      have kr_c1 := kr.here.cell 1 _ rfl
      have kr_c2 := kr.here.cell 2 _ rfl
      go_wp2_with fail
      clear kr_c0 kr_c1 kr_c2
      refine ((implRatRest_any _ r k _ hzr o_r.here (HS.out.below bbr)).mono fun _ _ h => postSQb_is HR.out h).mono ?_
      rintro e w1 ⟨ux, uq, Sx, Sq, rfl, o_x, o_q, _, _, _, b1⟩
      obtain ⟨Px, ex, rfl⟩ := ownS_form o_x.here
      obtain ⟨Pq, eq, Bq, dq, rfl⟩ := ownQ_form o_q.here
      have bb1 := Below.next bbr b1
      replace kr := kr.below b1
      replace o_r := o_r.below b1
      have kx := box_new w1 #[.bool x.1, .slice Px x.2.length ex] 28
      have alx := below_al (Below.refl w1.heap.size w1) (.cells #[.bool x.1, .slice Px x.2.length ex] 28)
      have bbx := Below.next bb1 alx
      replace kr := kr.below alx
      replace o_r := o_r.below alx
      replace o_x := o_x.below alx
      replace o_q := o_q.below alx
      have kq := box_new (w1.alloc (.cells #[.bool x.1, .slice Px x.2.length ex] 28)) #[.bool q.1.1, .slice Pq q.1.2.length eq, .slice Bq q.2.length dq] 34
      rw [show (w1.alloc (.cells #[.bool x.1, .slice Px x.2.length ex] 28)).heap.size = w1.heap.size + 1 by simp] at kq
      have alq := below_al (Below.refl (w1.alloc (.cells #[.bool x.1, .slice Px x.2.length ex] 28)).heap.size (w1.alloc (.cells #[.bool x.1, .slice Px x.2.length ex] 28))) (.cells #[.bool q.1.1, .slice Pq q.1.2.length eq, .slice Bq q.2.length dq] 34)
      have bbq := Below.next bbx alq
      replace kr := kr.below alq
      replace o_r := o_r.below alq
      replace o_x := o_x.below alq
      replace o_q := o_q.below alq
      replace kx := kx.below alq
      have kr_c0 := kr.here.cell 0 _ rfl
      have kr_c1 := kr.here.cell 1 _ rfl
      have kr_c2 := kr.here.cell 2 _ rfl
      go_wp2_with fail
      clear kr_c0 kr_c1 kr_c2
      refine ((implRatRound_any _ r k _ hzr o_r.here (HS.out.below bbq)).mono fun _ _ h => postSb_is HX.out h).mono ?_
      rintro e w2 ⟨uy, Sy, rfl, o_y, _, b2⟩
      obtain ⟨Py, ey, rfl⟩ := ownS_form o_y.here
      have bb2 := Below.next bbq b2
      replace kr := kr.below b2
      replace o_r := o_r.below b2
      replace o_x := o_x.below b2
      replace o_q := o_q.below b2
      replace kx := kx.below b2
      replace kq := kq.below b2
      have ky := box_new (w2) #[.bool x.1, .slice Py x.2.length ey] 28
      have aly := below_al (Below.refl (w2).heap.size (w2)) (.cells #[.bool x.1, .slice Py x.2.length ey] 28)
      have bby := Below.next bb2 aly
      replace kr := kr.below aly
      replace o_r := o_r.below aly
      replace o_x := o_x.below aly
      replace o_q := o_q.below aly
      replace kx := kx.below aly
      replace kq := kq.below aly
      replace o_y := o_y.below aly
      have kx_c0 := kx.here.cell 0 _ rfl
      have kx_c1 := kx.here.cell 1 _ rfl
      go_wp2_with fail
      clear kx_c0 kx_c1
      refine ((implRatInt_any _ x _ HA.out.lx o_x.here (HS.out.below bby)).mono fun _ _ h => postQb_is HA.out.eb h).mono ?_
      rintro e w3 ⟨ub, Sb, rfl, o_b, _, b3⟩
      obtain ⟨Pb, eb, Bb, db, rfl⟩ := ownQ_form o_b.here
      have bb3 := Below.next bby b3
      replace kr := kr.below b3
      replace o_r := o_r.below b3
      replace o_x := o_x.below b3
      replace o_q := o_q.below b3
      replace kx := kx.below b3
      replace kq := kq.below b3
      replace o_y := o_y.below b3
      replace ky := ky.below b3
      have kb := box_new (w3) #[.bool b.1.1, .slice Pb b.1.2.length eb, .slice Bb b.2.length db] 34
      have alb := below_al (Below.refl (w3).heap.size (w3)) (.cells #[.bool b.1.1, .slice Pb b.1.2.length eb, .slice Bb b.2.length db] 34)
      have bbb := Below.next bb3 alb
      replace kr := kr.below alb
      replace o_r := o_r.below alb
      replace o_x := o_x.below alb
      replace o_q := o_q.below alb
      replace kx := kx.below alb
      replace kq := kq.below alb
      replace o_y := o_y.below alb
      replace ky := ky.below alb
      replace o_b := o_b.below alb
      have kb_c0 := kb.here.cell 0 _ rfl
      have kb_c1 := kb.here.cell 1 _ rfl
      have kb_c2 := kb.here.cell 2 _ rfl
      have kq_c0 := kq.here.cell 0 _ rfl
      have kq_c1 := kq.here.cell 1 _ rfl
      have kq_c2 := kq.here.cell 2 _ rfl
      go_wp2_with fail
      clear kb_c0 kb_c1 kb_c2 kq_c0 kq_c1 kq_c2
      refine ((implRatAdd_any _ _ b q _ HA.out.sz.2.1 hzq o_b.here o_q.here (HS.out.below bbb)).mono fun _ _ h => postQb_is HA.out.et h).mono ?_
      rintro e w4 ⟨ut, St, rfl, o_t, _, b4⟩
      obtain ⟨Pt, et, Bt, dt, rfl⟩ := ownQ_form o_t.here
      have bb4 := Below.next bbb b4
      replace kr := kr.below b4
      replace o_r := o_r.below b4
      replace o_x := o_x.below b4
      replace o_q := o_q.below b4
      replace kx := kx.below b4
      replace kq := kq.below b4
      replace o_y := o_y.below b4
      replace ky := ky.below b4
      replace o_b := o_b.below b4
      replace kb := kb.below b4
      have kt := box_new (w4) #[.bool t.1.1, .slice Pt t.1.2.length et, .slice Bt t.2.length dt] 34
      have alt := below_al (Below.refl (w4).heap.size (w4)) (.cells #[.bool t.1.1, .slice Pt t.1.2.length et, .slice Bt t.2.length dt] 34)
      have bbt := Below.next bb4 alt
      replace kr := kr.below alt
      replace o_r := o_r.below alt
      replace o_x := o_x.below alt
      replace o_q := o_q.below alt
      replace kx := kx.below alt
      replace kq := kq.below alt
      replace o_y := o_y.below alt
      replace ky := ky.below alt
      replace o_b := o_b.below alt
      replace kb := kb.below alt
      replace o_t := o_t.below alt
      clear kb o_b
      have kx_c0 := kx.here.cell 0 _ rfl
      have kx_c1 := kx.here.cell 1 _ rfl
      have ky_c0 := ky.here.cell 0 _ rfl
      have ky_c1 := ky.here.cell 1 _ rfl
      go_wp2_with fail
      clear kx_c0 kx_c1 ky_c0 ky_c1
      refine ((implIntCmp_any _ _ x x _ (by have := HA.out.lx; unfold szS szI at this; omega) (by have := HA.out.lx; unfold szS szI at this; omega) o_x.here o_y.here).mono fun _ _ h => postn_eq (cmpS_same HA.out.ok) h).mono ?_
      rintro e w5 ⟨rfl, b5⟩
      have bb5 := Below.next bbt b5
      replace kr := kr.below b5
      replace o_r := o_r.below b5
      replace o_x := o_x.below b5
      replace o_q := o_q.below b5
      replace kx := kx.below b5
      replace kq := kq.below b5
      replace o_y := o_y.below b5
      replace ky := ky.below b5
      replace o_t := o_t.below b5
      replace kt := kt.below b5
      clear kx o_x ky o_y
      have kt_c0 := kt.here.cell 0 _ rfl
      have kt_c1 := kt.here.cell 1 _ rfl
      have kt_c2 := kt.here.cell 2 _ rfl
      have kr_c0 := kr.here.cell 0 _ rfl
      have kr_c1 := kr.here.cell 1 _ rfl
      have kr_c2 := kr.here.cell 2 _ rfl
      go_wp2_with fail
      clear kt_c0 kt_c1 kt_c2 kr_c0 kr_c1 kr_c2
      refine ((implRatCmp_any _ _ t r _ HA.out.sz.2.2.2.1 hzr o_t.here o_r.here (HS.out.below bb5)).mono fun _ _ h => postn_eq HA.out.tr h).mono ?_
      rintro e w6 ⟨rfl, b6⟩
      have bb6 := Below.next bb5 b6
      replace kr := kr.below b6
      replace o_r := o_r.below b6
      replace o_q := o_q.below b6
      replace kq := kq.below b6
      replace o_t := o_t.below b6
      replace kt := kt.below b6
      clear kt o_t
      have kq_c0 := kq.here.cell 0 _ rfl
      have kq_c1 := kq.here.cell 1 _ rfl
      have kq_c2 := kq.here.cell 2 _ rfl
      go_wp2_with fail
      clear kq_c0 kq_c1 kq_c2
      refine (small_any _ q z _ hzq HA.out.sz.2.2.2.2 HA.out.okq HA.out.ez HA.out.zz HA.out.z1 o_q.here (HS.out.below bb6)).mono ?_
      rintro e w7 ⟨rfl, b7⟩
      have bb7 := Below.next bb6 b7
      replace kr := kr.below b7
      replace o_r := o_r.below b7
      replace o_q := o_q.below b7
      replace kq := kq.below b7
      obtain ⟨c, hc⟩ : ∃ c, cmpQ q oneQ = c := ⟨_, rfl⟩
      have HC := Lib.hid hc
      have HWB := Lib.hid (show wholeB r = (c == 0) by rw [HA.out.wh, hc, Bool.eq_iff_iff, decide_eq_true_eq, beq_iff_eq])
      clear hc
      have HWH := Lib.hid (show ∀ W, Chg [] w7 W → Calls Tryz.prog 55 #[.agg #[.bool r.1.1, .slice Pr r.1.2.length er, .slice Br r.2.length dr]] W (Postb (c == 0) W) from fun W hc => by have h := implRatWhole_any _ r W hzr (o_r.chg hc (fun i hi hm => by simp at hm)).here (HS.out.below (below_chg bb7 hc bb7.size (fun i hi => by simp at hi))); rw [HWB.out] at h; exact h)
      have HSG := Lib.hid (show ∀ W, Chg [] w7 W → Calls Tryz.prog 56 #[.agg #[.bool q.1.1, .slice Pq q.1.2.length eq, .slice Bq q.2.length dq]] W (Postn c W) from fun W hc => (implRatSign_any _ q W hzq (o_q.chg hc (fun i hi hm => by simp at hm)).here (HS.out.below (below_chg bb7 hc bb7.size (fun i hi => by simp at hi)))).mono fun _ _ h => postn_eq HC.out h)
      have kr_c0 := kr.here.cell 0 _ rfl
      have kr_c1 := kr.here.cell 1 _ rfl
      have kr_c2 := kr.here.cell 2 _ rfl
      have kq_c0 := kq.here.cell 0 _ rfl
      have kq_c1 := kq.here.cell 1 _ rfl
      have kq_c2 := kq.here.cell 2 _ rfl
      go_wp2_with fail
      have HC0 := Lib.hid (show Chg [] w7 w7.drew from (Chg.refl _ _).drew1)
      have HCr := Lib.hid (show Chg [] w7 w7 from Chg.refl _ _)
      have KL := Lib.hid (show ∀ W, Chg [] w7 W → W.cell? ⟨v1.heap.size, 0, none⟩ = some (.bool r.1.1) ∧ W.cell? ⟨v1.heap.size, 1, none⟩ = some (.slice Pr r.1.2.length er) ∧ W.cell? ⟨v1.heap.size, 2, none⟩ = some (.slice Br r.2.length dr) ∧ W.cell? ⟨w1.heap.size + 1, 0, none⟩ = some (.bool q.1.1) ∧ W.cell? ⟨w1.heap.size + 1, 1, none⟩ = some (.slice Pq q.1.2.length eq) ∧ W.cell? ⟨w1.heap.size + 1, 2, none⟩ = some (.slice Bq q.2.length dq) ∧ Hid (Chg [] w7 W) from fun W hc => ⟨(kr.chg hc (fun i hi hm => by simp at hm)).here.cell 0 _ rfl, (kr.chg hc (fun i hi hm => by simp at hm)).here.cell 1 _ rfl, (kr.chg hc (fun i hi hm => by simp at hm)).here.cell 2 _ rfl, (kq.chg hc (fun i hi hm => by simp at hm)).here.cell 0 _ rfl, (kq.chg hc (fun i hi hm => by simp at hm)).here.cell 1 _ rfl, (kq.chg hc (fun i hi hm => by simp at hm)).here.cell 2 _ rfl, Lib.hid hc⟩)
      have BBF := Lib.hid (show ∀ W, Chg [] w7 W → Below w.heap.size w W from fun W hc => below_chg bb7 hc bb7.size (fun i hi => by simp at hi))
      clear kr_c0 kr_c1 kr_c2 kq_c0 kq_c1 kq_c2
      go_region_held3 (fun W => W.cell? ⟨v1.heap.size, 0, none⟩ = some (.bool r.1.1) ∧ W.cell? ⟨v1.heap.size, 1, none⟩ = some (.slice Pr r.1.2.length er) ∧ W.cell? ⟨v1.heap.size, 2, none⟩ = some (.slice Br r.2.length dr) ∧ W.cell? ⟨w1.heap.size + 1, 0, none⟩ = some (.bool q.1.1) ∧ W.cell? ⟨w1.heap.size + 1, 1, none⟩ = some (.slice Pq q.1.2.length eq) ∧ W.cell? ⟨w1.heap.size + 1, 2, none⟩ = some (.slice Bq q.2.length dq) ∧ Hid (Chg [] w7 W))
        ((refine KL.out _ ?_; (first | exact HC9.out | exact HC8.out | exact HCr.out | exact HC0.out | exact HC9.out.drew1 | exact HC8.out.drew1 | exact HCr.out.drew1 | exact HC0.out.drew1 | exact HC9.out.trans (Chg.of_below (below_al (Below.refl _ _) _)) | exact HC8.out.trans (Chg.of_below (below_al (Below.refl _ _) _)) | exact HCr.out.trans (Chg.of_below (below_al (Below.refl _ _) _)) | exact HC0.out.trans (Chg.of_below (below_al (Below.refl _ _) _)) | fail)))
        (first
          | (go_at_call 55; (have hBB := (‹_ ∧ _ ∧ _ ∧ _ ∧ _ ∧ _ ∧ Hid (Chg [] w7 _)›).2.2.2.2.2.2); (with_reducible refine (HWH.out _ hBB.out).mono ?_); rintro e w8 ⟨rfl, b8⟩; have HC8 := Lib.hid (hBB.out.trans (Chg.of_below b8)); have HBZ8 := Lib.hid hBB.out.size; clear hBB)
          | (go_at_call 56; (have hBB := (‹_ ∧ _ ∧ _ ∧ _ ∧ _ ∧ _ ∧ Hid (Chg [] w7 _)›).2.2.2.2.2.2); (with_reducible refine (HSG.out _ hBB.out).mono ?_); rintro e w9 ⟨rfl, b9⟩; have HC9 := Lib.hid (hBB.out.trans (Chg.of_below b9)); have HBZ9 := Lib.hid hBB.out.size; clear hBB))
      have bb9 := BBF.out _ HC9.out
      replace kr := kr.chg HC9.out (fun i hi hm => by simp at hm)
      replace kq := kq.chg HC9.out (fun i hi hm => by simp at hm)
      have hkk := Below.refl w.heap.size w
      clear hkk
      replace o_r := o_r.chg HC9.out (fun i hi hm => by simp at hm)
      replace o_q := o_q.chg HC9.out (fun i hi hm => by simp at hm)
      by_cases h4 : 4 ≤ k
      · have HZH := Lib.hid (HA.out.zh h4 hlt)
        obtain ⟨c2, hc2⟩ : ∃ c2, cmpQ z halfQ = c2 := ⟨_, rfl⟩
        have HC2 := Lib.hid hc2
        have hle : ¬ 0 < c2 := by have := HZH.out; rw [hc2] at this; omega
        clear hc2
        have kq_c0 := kq.here.cell 0 _ rfl
        have kq_c1 := kq.here.cell 1 _ rfl
        have kq_c2 := kq.here.cell 2 _ rfl
        go_wp2_with fail
        clear kq_c0 kq_c1 kq_c2
        refine (size_any _ q z _ hzq HA.out.ez HA.out.zz o_q.here (HS.out.below bb9)).mono ?_
        rintro e w10 ⟨uz, rfl, oz, b10⟩
        obtain ⟨Pz, ez, Bz, dz, rfl⟩ := ownQ_form oz
        have HOZ := Lib.hid oz
        clear oz
        have bb10 := Below.next bb9 b10
        replace kr := kr.below b10
        replace o_r := o_r.below b10
        replace o_q := o_q.below b10
        replace kq := kq.below b10
        go_wp2_with fail
        refine (half_any _ (HS.out.below bb10)).mono ?_
        rintro e w11 ⟨uh, Sh, rfl, o_h, _, b11⟩
        obtain ⟨Ph, eh, Bh, dh, rfl⟩ := ownQ_form o_h.here
        have bb11 := Below.next bb10 b11
        replace kr := kr.below b11
        replace o_r := o_r.below b11
        replace o_q := o_q.below b11
        replace kq := kq.below b11
        go_wp2_with fail
        refine ((implRatCmp_any _ _ z halfQ _ HA.out.sz.2.2.2.2 halfQ_is.2.2.2.2 (OwnQ.below HOZ.out b11) o_h.here (HS.out.below bb11)).mono fun _ _ h => postn_eq HC2.out h).mono ?_
        rintro e w12 ⟨rfl, b12⟩
        have bb12 := Below.next bb11 b12
        replace kr := kr.below b12
        replace o_r := o_r.below b12
        replace o_q := o_q.below b12
        replace kq := kq.below b12
        replace o_h := o_h.below b12
        clear o_h kq o_q
        go_wp2
        go_roundw
        case rel => exact ⟨k + 1, by omega, by omega, by go_num, kr, o_r, bb12⟩
        case measure => simp [intOf]; omega
      · skip
        go_wp2
        go_roundw
        case rel => exact ⟨k + 1, by omega, by omega, by go_num, kr, o_r, bb9⟩
        case measure => simp [intOf]; omega
    · obtain rfl : k = 7 := by omega
      go_wp2
      go_ret
      exact ⟨rfl, bbr⟩
theorem lawRound (v : Value) (bs : List Nat) (w : World) (hb : ∀ b ∈ bs, b < 256) (hm : bs.length ≤ 9223372036854775807) (hr : Row w 0 w.heap.size v (bytesV bs)) (hs : Sen w) :
    Calls Tryz.prog 10 #[v] w fun e w' => e = .returned (.bool true) ∧ Below w.heap.size w w' := by
  by_cases hn : bs.length ≤ 1048576
  · exact lawRound_small v bs w hb hn hr hs
  · obtain ⟨A0, c0, rfl, _⟩ := hr
    have hlen : (bytesV bs).length = bs.length := by simp [bytesV]
    rw [hlen]
    go_enter Tryz.func10, Tryz.ntmps10
    go_wp2
    go_ret
    exact ⟨rfl, Below.refl _ _⟩
end Go.Proofs.YthfkdofnoomhaaaGreatDoor
