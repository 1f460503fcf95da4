/-
  The law FnRat, walked over the contracts of package impl.
-/
import Derived.Test.YtkkdlgiilhngcaaGreatDoorDrawRatJ
import Derived.Deep.RegionHeld3
import Derived.Deep.DeepCutAuto
import Derived.IntWalk
import Derived.Test.YtkkdlgiilhngcaaGreatDoorJ10
namespace Go.Proofs.YtkkdlgiilhngcaaGreatDoor
open Go.RowKit

theorem qadd_c {a b r : QI} {k : Bool} (ha : szQ a ≤ 1048576) (hb : szQ b ≤ 1048576) (h : addQ a b = (r, k)) : Hid (∀ (ua ub : Value) (W : World), OwnQ ua a W → OwnQ ub b W → Sen W → Calls Tryz.prog 8 #[ua, ub] W (PostQb r k W)) :=
  Lib.hid fun ua ub W h1 h2 h3 => (implRatAdd_any ua ub a b W ha hb h1 h2 h3).mono fun _ _ k => postQb_eq h k
theorem qmul_c {a b r : QI} {k : Bool} (ha : szQ a ≤ 1048576) (hb : szQ b ≤ 1048576) (h : mulQ a b = (r, k)) : Hid (∀ (ua ub : Value) (W : World), OwnQ ua a W → OwnQ ub b W → Sen W → Calls Tryz.prog 9 #[ua, ub] W (PostQb r k W)) :=
  Lib.hid fun ua ub W h1 h2 h3 => (implRatMul_any ua ub a b W ha hb h1 h2 h3).mono fun _ _ k => postQb_eq h k
theorem qsub_c {a b r : QI} {k : Bool} (ha : szQ a ≤ 1048576) (hb : szQ b ≤ 1048576) (h : subQ a b = (r, k)) : Hid (∀ (ua ub : Value) (W : World), OwnQ ua a W → OwnQ ub b W → Sen W → Calls Tryz.prog 11 #[ua, ub] W (PostQb r k W)) :=
  Lib.hid fun ua ub W h1 h2 h3 => (implRatSub_any ua ub a b W ha hb h1 h2 h3).mono fun _ _ k => postQb_eq h k
theorem qdiv_c {a b r : QI} {k : Bool} (ha : szQ a ≤ 1048576) (hb : szQ b ≤ 1048576) (h : divQ a b = (r, k)) : Hid (∀ (ua ub : Value) (W : World), OwnQ ua a W → OwnQ ub b W → Sen W → Calls Tryz.prog 14 #[ua, ub] W (PostQb r k W)) :=
  Lib.hid fun ua ub W h1 h2 h3 => (implRatDiv_any ua ub a b W ha hb h1 h2 h3).mono fun _ _ k => postQb_eq h k
theorem qcmp_c {a b : QI} {c : Int} (ha : szQ a ≤ 1048576) (hb : szQ b ≤ 1048576) (h : cmpQ a b = c) : Hid (∀ (ua ub : Value) (W : World), OwnQ ua a W → OwnQ ub b W → Sen W → Calls Tryz.prog 10 #[ua, ub] W (Postn c W)) :=
  Lib.hid fun ua ub W h1 h2 h3 => by rw [← h]; exact implRatCmp_any ua ub a b W ha hb h1 h2 h3
theorem qsign_c {a : QI} {c : Int} (ha : szQ a ≤ 1048576) (h : cmpQ a oneQ = c) : Hid (∀ (ua : Value) (W : World), OwnQ ua a W → Sen W → Calls Tryz.prog 15 #[ua] W (Postn c W)) :=
  Lib.hid fun ua W h1 h3 => by rw [← h]; exact implRatSign_any ua a W ha h1 h3
set_option maxHeartbeats 400000 in
set_option maxRecDepth 100000 in
theorem must_any (n : Bool) (P B : Option Addr) (l c m d : Nat) (w : World) : Calls Tryz.prog 16 #[.agg #[.bool n, .slice P l c, .slice B m d], .bool true] w fun e w' => e = .returned (.agg #[.bool n, .slice P l c, .slice B m d]) ∧ Below w.heap.size w w' := by
  have bb0 : Below w.heap.size w ((w.alloc (.cells #[.bool n, .slice P l c, .slice B m d] 27)).alloc (.cells #[.bool false, .slice none 0 0, .slice none 0 0] 27)) := below_al (below_al (Below.refl _ _) _) _
  have kr := (box_new w #[.bool n, .slice P l c, .slice B m d] 27).below (below_al (Below.refl _ _) (.cells #[.bool false, .slice none 0 0, .slice none 0 0] 27))
  have kr0 := kr.here.cell 0 _ rfl
  have kr1 := kr.here.cell 1 _ rfl
  have kr2 := kr.here.cell 2 _ rfl
  clear kr
  go_enter Tryz.func16, Tryz.ntmps16
  go_wp2
  refine bodyPost_ret (v := .agg #[.bool n, .slice P l c, .slice B m d]) (by simp [results, Tryz.results16, go_sem]) rfl ?_
  exact ⟨rfl, below_al (below_al (Below.refl _ _) _) _⟩
theorem cmpQ_range (r s : QI) : -1 ≤ cmpQ r s ∧ cmpQ r s ≤ 1 := by
  unfold cmpQ
  split
  · exact cmpI_range _ _
  · omega

def RAT_ : TypeId := 27
set_option maxHeartbeats 8000000 in
set_option maxRecDepth 100000 in
theorem lawRat_small (v : Value) (bs : List Nat) (w : World) (hb : ∀ b ∈ bs, b < 256) (hn : bs.length ≤ 1048576) (hr : Row w 0 w.heap.size v (bytesV bs)) (ht : Tab w) (hs : Sen w) :
    Calls Tryz.prog 3 #[v] w fun e w' => e = .returned (.bool true) ∧ Below w.heap.size w w' := by
  have HB := Lib.hid hb
  clear hb
  have hr0 := hr
  obtain ⟨A0, c0, rfl, _⟩ := hr
  have hlen : (bytesV bs).length = bs.length := by simp [bytesV]
  rw [hlen] at hr0 ⊢
  clear hlen
  have HRB := Lib.hid (show ∀ W, Below w.heap.size w W → Row W 0 W.heap.size (.slice A0 bs.length c0) (bytesV bs) from fun W h => (hr0.below h (Nat.le_refl _)).wide (Nat.le_refl _) h.size)
  have HT := Lib.hid (show ∀ W, Below w.heap.size w W → Tab W from fun W h => ht.below h)
  have HS := Lib.hid (show ∀ W, Below w.heap.size w W → Sen W from fun W h => hs.below h)
  clear hr0 ht hs
  go_enter Tryz.func3, Tryz.ntmps3
  go_upto_region 3 with fail
  go_cut [3, 4, 5] (fun s1 s2 s3 wx => ∃ (gr gs gt : Nat) (cr cs ct : Array Value) (r s t : QI) (Sr Ss St : List Nat), s1 = .pointer (some ⟨gr, 0, none⟩) ∧ s2 = .pointer (some ⟨gs, 0, none⟩) ∧ s3 = .pointer (some ⟨gt, 0, none⟩) ∧ Hid (Bd r 2 ∧ Bd s 2 ∧ Bd t 2) ∧ At [gr] (BoxAt gr cr 27) wx ∧ At [gs] (BoxAt gs cs 27) wx ∧ At [gt] (BoxAt gt ct 27) wx ∧ At Sr (OwnQ (.agg cr) r) wx ∧ At Ss (OwnQ (.agg cs) s) wx ∧ At St (OwnQ (.agg ct) t) wx ∧ Below w.heap.size w wx)
  case first =>
    go_wp2_with fail
    refine (makeRats_any _ bs _ HB.out hn (HRB.out _ (Below.refl _ _))).mono ?_
    rintro e w1 ⟨u0, u1, u2, r, s, t, Sr, Ss, St, rfl, hbr, hbs, hbt, o_r, o_s, o_t, b1⟩
    obtain ⟨Ar, cr, Br, dr, rfl⟩ := ownQ_form o_r.here
    obtain ⟨As, cs, Bs, ds, rfl⟩ := ownQ_form o_s.here
    obtain ⟨At_, ct, Bt, dt, rfl⟩ := ownQ_form o_t.here
    have HBD := Lib.hid (show Bd r 2 ∧ Bd s 2 ∧ Bd t 2 from ⟨hbr, hbs, hbt⟩)
    clear hbr hbs hbt
    go_wp2_with fail
    go_meet
    have l1 := below_al (Below.refl w1.heap.size w1) (.cells #[.bool r.1.1, .slice Ar r.1.2.length cr, .slice Br r.2.length dr] 27)
    have k1 := box_new w1 #[.bool r.1.1, .slice Ar r.1.2.length cr, .slice Br r.2.length dr] 27
    have l2 := below_al (Below.refl _ (w1.alloc (.cells #[.bool r.1.1, .slice Ar r.1.2.length cr, .slice Br r.2.length dr] 27))) (.cells #[.bool s.1.1, .slice As s.1.2.length cs, .slice Bs s.2.length ds] 27)
    have k2 := box_new (w1.alloc (.cells #[.bool r.1.1, .slice Ar r.1.2.length cr, .slice Br r.2.length dr] 27)) #[.bool s.1.1, .slice As s.1.2.length cs, .slice Bs s.2.length ds] 27
    have l3 := below_al (Below.refl _ ((w1.alloc (.cells #[.bool r.1.1, .slice Ar r.1.2.length cr, .slice Br r.2.length dr] 27)).alloc (.cells #[.bool s.1.1, .slice As s.1.2.length cs, .slice Bs s.2.length ds] 27))) (.cells #[.bool t.1.1, .slice At_ t.1.2.length ct, .slice Bt t.2.length dt] 27)
    have k3 := box_new ((w1.alloc (.cells #[.bool r.1.1, .slice Ar r.1.2.length cr, .slice Br r.2.length dr] 27)).alloc (.cells #[.bool s.1.1, .slice As s.1.2.length cs, .slice Bs s.2.length ds] 27)) #[.bool t.1.1, .slice At_ t.1.2.length ct, .slice Bt t.2.length dt] 27
    rw [show (w1.alloc (.cells #[.bool r.1.1, .slice Ar r.1.2.length cr, .slice Br r.2.length dr] 27)).heap.size = w1.heap.size + 1 by simp] at k2
    rw [show ((w1.alloc (.cells #[.bool r.1.1, .slice Ar r.1.2.length cr, .slice Br r.2.length dr] 27)).alloc (.cells #[.bool s.1.1, .slice As s.1.2.length cs, .slice Bs s.2.length ds] 27)).heap.size = w1.heap.size + 1 + 1 by simp] at k3
    exact ⟨_, _, _, _, _, _, r, s, t, Sr, Ss, St, rfl, rfl, rfl, HBD, (k1.below l2).below l3, k2.below l3, k3, ((o_r.below l1).below l2).below l3, ((o_s.below l1).below l2).below l3, ((o_t.below l1).below l2).below l3, Below.next (Below.next (Below.next b1 l1) l2) l3⟩
  rename World => w1
  obtain ⟨gr, gs, gt, csr, css, cst, r, s, t, Sr, Ss, St, rfl, rfl, rfl, HBD, kr, ks, kt, o_r, o_s, o_t, bb1⟩ := hcut
  obtain ⟨Pr, cr, Br, dr, er⟩ := ownQ_form o_r.here
  injection er with er
  subst er
  obtain ⟨Ps, cs, Bs, ds, es⟩ := ownQ_form o_s.here
  injection es with es
  subst es
  obtain ⟨Pt, ct, Bt, dt, et⟩ := ownQ_form o_t.here
  injection et with et
  subst et
  obtain ⟨a, b, p, q, c, d, x, HA⟩ := rat_all HBD.out.1 HBD.out.2.1 HBD.out.2.2
  obtain ⟨z, hz⟩ : ∃ z, cmpQ s r = z := ⟨_, rfl⟩
  obtain ⟨y, hy⟩ : ∃ y, cmpQ r s = y := ⟨_, rfl⟩
  obtain ⟨m, hm⟩ : ∃ m, cmpQ x oneQ = m := ⟨_, rfl⟩
  obtain ⟨n, hnn⟩ : ∃ n, cmpQ t oneQ = n := ⟨_, rfl⟩
  have hzr : -1 ≤ z ∧ z ≤ 1 := by rw [← hz]; exact cmpQ_range s r
  have HNR := Lib.hid (show -1 ≤ n ∧ n ≤ 1 by rw [← hnn]; exact cmpQ_range t oneQ)
  have HYZ := Lib.hid (show IntKind.i64.wrap (-z) = y by have h := HA.rs; rw [hz, hy] at h; rw [h]; exact IntWalk.i64_in _ (by omega))
  have HORD := Lib.hid (show decide (y ≤ 0) = decide (0 ≤ m) by have h := HA.ord; rw [hy, hm] at h; rw [decide_eq_decide]; exact h)
  obtain ⟨z1, z2, z3, z4, z5, z6, z7, z8, z9, z10⟩ := HA.sz
  have C_a := qadd_c z1 z2 HA.ea
  have C_b := qmul_c z4 z3 HA.eb
  have C_p := qmul_c z1 z3 HA.ep
  have C_q := qmul_c z2 z3 HA.eq
  have C_c := qadd_c z6 z7 HA.ec
  have C_d := qsub_c z4 z2 HA.ed
  have C_x := qsub_c z2 z1 HA.ex
  have C_bc := qcmp_c z5 z8 HA.bc
  have C_rs := qcmp_c z1 z2 hy
  have C_sr := qcmp_c z2 z1 hz
  have C_dr := qcmp_c z9 z1 HA.dr
  have C_rr := qcmp_c z1 z1 HA.rr
  have C_m := qsign_c z10 hm
  have C_n := qsign_c z3 hnn
  have C_tx := Lib.hid (show ∀ (u : Value) (W : World), OwnQ u r W → Sen W → Tab W → Calls Tryz.prog 13 #[u] W (PostT (ratTextB r) W) from fun u W h1 h2 h3 => implRatText_any u r W z1 h1 h2 h3)
  have C_rd := Lib.hid (show ∀ (W : World), Sen W → Tab W → Calls Tryz.prog 12 #[.string (ratTextB r)] W (PostQb r true W) from fun W h2 h3 => by
    have h := implTextRat_any (ratTextB r) W (ratText_size r) h2 h3
    rw [HA.tr, HA.tb] at h
    exact h)
  have DV := Lib.hid (show (n = 0 ∧ divQ p t = (zeroQ, false)) ∨ (∃ e, n ≠ 0 ∧ divQ p t = (e, true) ∧ cmpQ e r = 0 ∧ szQ e ≤ 1048576) by have h := HA.dv; rw [hnn] at h; exact h)
  have Z3 := Lib.hid z3
  have Z6 := Lib.hid z6
  have Z1 := Lib.hid z1
  clear HA hz hy hm hnn z1 z2 z3 z4 z5 z6 z7 z8 z9 z10 HBD hzr
  have kr_c0 := kr.here.cell 0 _ rfl
  have kr_c1 := kr.here.cell 1 _ rfl
  have kr_c2 := kr.here.cell 2 _ rfl
  have ks_c0 := ks.here.cell 0 _ rfl
  have ks_c1 := ks.here.cell 1 _ rfl
  have ks_c2 := ks.here.cell 2 _ rfl
  go_upto_region 4 with fail
  go_cut [6, 7] (fun s1 s2 wx => NewLocV 27 (fun v => OwnQ v a) w1 s1 wx ∧ s2 = .bool true)
  case first => as_aux_lemma =>
    go_wp2_with fail
    refine (C_a.out _ _ _ o_r.here o_s.here (HS.out _ bb1)).mono ?_
    rintro e wf ⟨uf, Sf, rfl, of, lf, bf⟩
    obtain ⟨Af, cf, Bf, df, rfl⟩ := ownQ_form of.here
    go_wp2_with fail
    go_meet
    exact ⟨newLocV_last of lf (Nat.le_refl _) bf, rfl⟩
  rename World => w2
  clear kr_c0 kr_c1 kr_c2 ks_c0 ks_c1 ks_c2
  obtain ⟨⟨ga, csa, Sa, rfl, ka, o_a, n_a, l_a, b2⟩, rfl⟩ := hcut
  clear n_a l_a
  obtain ⟨Pa, ca, Ba, da, ea⟩ := ownQ_form o_a.here
  injection ea with ea
  subst ea
  have bb2 := Below.next bb1 b2
  replace kr := kr.below b2
  replace ks := ks.below b2
  replace kt := kt.below b2
  replace o_r := o_r.below b2
  replace o_s := o_s.below b2
  replace o_t := o_t.below b2
  have ka_c0 := ka.here.cell 0 _ rfl
  have ka_c1 := ka.here.cell 1 _ rfl
  have ka_c2 := ka.here.cell 2 _ rfl
  have kt_c0 := kt.here.cell 0 _ rfl
  have kt_c1 := kt.here.cell 1 _ rfl
  have kt_c2 := kt.here.cell 2 _ rfl
  go_upto_region 5 with fail
  go_cut [8, 9] (fun s1 s2 wx => NewLocV 27 (fun v => OwnQ v b) w2 s1 wx ∧ s2 = .bool true)
  case first => as_aux_lemma =>
    go_wp2_with fail
    refine (C_b.out _ _ _ o_a.here o_t.here (HS.out _ bb2)).mono ?_
    rintro e wf ⟨uf, Sf, rfl, of, lf, bf⟩
    obtain ⟨Af, cf, Bf, df, rfl⟩ := ownQ_form of.here
    go_wp2_with fail
    go_meet
    exact ⟨newLocV_last of lf (Nat.le_refl _) bf, rfl⟩
  rename World => w3
  clear ka_c0 ka_c1 ka_c2 kt_c0 kt_c1 kt_c2
  obtain ⟨⟨gb, csb, Sb, rfl, kb, o_b, n_b, l_b, b3⟩, rfl⟩ := hcut
  clear n_b l_b
  obtain ⟨Pb, cb, Bb, db, eb⟩ := ownQ_form o_b.here
  injection eb with eb
  subst eb
  have bb3 := Below.next bb2 b3
  replace kr := kr.below b3
  replace ks := ks.below b3
  replace kt := kt.below b3
  replace o_r := o_r.below b3
  replace o_s := o_s.below b3
  replace o_t := o_t.below b3
  replace ka := ka.below b3
  replace o_a := o_a.below b3
  have kr_c0 := kr.here.cell 0 _ rfl
  have kr_c1 := kr.here.cell 1 _ rfl
  have kr_c2 := kr.here.cell 2 _ rfl
  have kt_c0 := kt.here.cell 0 _ rfl
  have kt_c1 := kt.here.cell 1 _ rfl
  have kt_c2 := kt.here.cell 2 _ rfl
  go_upto_region 6 with fail
  go_cut [10, 11] (fun s1 s2 wx => NewLocV 27 (fun v => OwnQ v p) w3 s1 wx ∧ s2 = .bool true)
  case first => as_aux_lemma =>
    go_wp2_with fail
    refine (C_p.out _ _ _ o_r.here o_t.here (HS.out _ bb3)).mono ?_
    rintro e wf ⟨uf, Sf, rfl, of, lf, bf⟩
    obtain ⟨Af, cf, Bf, df, rfl⟩ := ownQ_form of.here
    go_wp2_with fail
    go_meet
    exact ⟨newLocV_last of lf (Nat.le_refl _) bf, rfl⟩
  rename World => w4
  clear kr_c0 kr_c1 kr_c2 kt_c0 kt_c1 kt_c2
  obtain ⟨⟨gp, csp, Sp, rfl, kp, o_p, n_p, l_p, b4⟩, rfl⟩ := hcut
  clear n_p l_p
  obtain ⟨Pp, cp, Bp, dp, ep⟩ := ownQ_form o_p.here
  injection ep with ep
  subst ep
  have bb4 := Below.next bb3 b4
  replace kr := kr.below b4
  replace ks := ks.below b4
  replace kt := kt.below b4
  replace o_r := o_r.below b4
  replace o_s := o_s.below b4
  replace o_t := o_t.below b4
  replace ka := ka.below b4
  replace o_a := o_a.below b4
  replace kb := kb.below b4
  replace o_b := o_b.below b4
  have ks_c0 := ks.here.cell 0 _ rfl
  have ks_c1 := ks.here.cell 1 _ rfl
  have ks_c2 := ks.here.cell 2 _ rfl
  have kt_c0 := kt.here.cell 0 _ rfl
  have kt_c1 := kt.here.cell 1 _ rfl
  have kt_c2 := kt.here.cell 2 _ rfl
  go_upto_region 7 with fail
  go_cut [12, 13] (fun s1 s2 wx => NewLocV 27 (fun v => OwnQ v q) w4 s1 wx ∧ s2 = .bool true)
  case first => as_aux_lemma =>
    go_wp2_with fail
    refine (C_q.out _ _ _ o_s.here o_t.here (HS.out _ bb4)).mono ?_
    rintro e wf ⟨uf, Sf, rfl, of, lf, bf⟩
    obtain ⟨Af, cf, Bf, df, rfl⟩ := ownQ_form of.here
    go_wp2_with fail
    go_meet
    exact ⟨newLocV_last of lf (Nat.le_refl _) bf, rfl⟩
  rename World => w5
  clear ks_c0 ks_c1 ks_c2 kt_c0 kt_c1 kt_c2
  obtain ⟨⟨gq, csq, Sq, rfl, kq, o_q, n_q, l_q, b5⟩, rfl⟩ := hcut
  clear n_q l_q
  obtain ⟨Pq, cq, Bq, dq, eq⟩ := ownQ_form o_q.here
  injection eq with eq
  subst eq
  have bb5 := Below.next bb4 b5
  replace kr := kr.below b5
  replace ks := ks.below b5
  replace kt := kt.below b5
  replace o_r := o_r.below b5
  replace o_s := o_s.below b5
  replace o_t := o_t.below b5
  replace ka := ka.below b5
  replace o_a := o_a.below b5
  replace kb := kb.below b5
  replace o_b := o_b.below b5
  replace kp := kp.below b5
  replace o_p := o_p.below b5
  have kp_c0 := kp.here.cell 0 _ rfl
  have kp_c1 := kp.here.cell 1 _ rfl
  have kp_c2 := kp.here.cell 2 _ rfl
  have kq_c0 := kq.here.cell 0 _ rfl
  have kq_c1 := kq.here.cell 1 _ rfl
  have kq_c2 := kq.here.cell 2 _ rfl
  go_upto_region 8 with fail
  go_cut [14, 15] (fun s1 s2 wx => NewLocV 27 (fun v => OwnQ v c) w5 s1 wx ∧ s2 = .bool true)
  case first => as_aux_lemma =>
    go_wp2_with fail
    refine (C_c.out _ _ _ o_p.here o_q.here (HS.out _ bb5)).mono ?_
    rintro e wf ⟨uf, Sf, rfl, of, lf, bf⟩
    obtain ⟨Af, cf, Bf, df, rfl⟩ := ownQ_form of.here
    go_wp2_with fail
    go_meet
    exact ⟨newLocV_last of lf (Nat.le_refl _) bf, rfl⟩
  rename World => w6
  clear kp_c0 kp_c1 kp_c2 kq_c0 kq_c1 kq_c2
  obtain ⟨⟨gc, csc, Sc, rfl, kc, o_c, n_c, l_c, b6⟩, rfl⟩ := hcut
  clear n_c l_c
  obtain ⟨Pc, cc, Bc, dc, ec⟩ := ownQ_form o_c.here
  injection ec with ec
  subst ec
  have bb6 := Below.next bb5 b6
  replace kr := kr.below b6
  replace ks := ks.below b6
  replace kt := kt.below b6
  replace o_r := o_r.below b6
  replace o_s := o_s.below b6
  replace o_t := o_t.below b6
  replace ka := ka.below b6
  replace o_a := o_a.below b6
  replace kb := kb.below b6
  replace o_b := o_b.below b6
  replace kp := kp.below b6
  replace o_p := o_p.below b6
  replace kq := kq.below b6
  replace o_q := o_q.below b6
  have HB0 := Lib.hid (show Below w6.heap.size w6 w6.drew from (Below.refl _ _).drew)
  have KL := Lib.hid (show ∀ W, Below w6.heap.size w6 W → W.cell? ⟨gr, 0, none⟩ = some (.bool r.1.1) ∧ W.cell? ⟨gr, 1, none⟩ = some (.slice Pr r.1.2.length cr) ∧ W.cell? ⟨gr, 2, none⟩ = some (.slice Br r.2.length dr) ∧ W.cell? ⟨gs, 0, none⟩ = some (.bool s.1.1) ∧ W.cell? ⟨gs, 1, none⟩ = some (.slice Ps s.1.2.length cs) ∧ W.cell? ⟨gs, 2, none⟩ = some (.slice Bs s.2.length ds) ∧ W.cell? ⟨gb, 0, none⟩ = some (.bool b.1.1) ∧ W.cell? ⟨gb, 1, none⟩ = some (.slice Pb b.1.2.length cb) ∧ W.cell? ⟨gb, 2, none⟩ = some (.slice Bb b.2.length db) ∧ W.cell? ⟨gc, 0, none⟩ = some (.bool c.1.1) ∧ W.cell? ⟨gc, 1, none⟩ = some (.slice Pc c.1.2.length cc) ∧ W.cell? ⟨gc, 2, none⟩ = some (.slice Bc c.2.length dc) ∧ Hid (Below w6.heap.size w6 W) from
    fun W hb => ⟨(kr.below hb).here.cell 0 _ rfl, (kr.below hb).here.cell 1 _ rfl, (kr.below hb).here.cell 2 _ rfl, (ks.below hb).here.cell 0 _ rfl, (ks.below hb).here.cell 1 _ rfl, (ks.below hb).here.cell 2 _ rfl, (kb.below hb).here.cell 0 _ rfl, (kb.below hb).here.cell 1 _ rfl, (kb.below hb).here.cell 2 _ rfl, (kc.below hb).here.cell 0 _ rfl, (kc.below hb).here.cell 1 _ rfl, (kc.below hb).here.cell 2 _ rfl, Lib.hid hb⟩)
  have BBF := Lib.hid (show ∀ W, Below w6.heap.size w6 W → Below w.heap.size w W from fun W hb => Below.next bb6 hb)
  have OFr := Lib.hid (show ∀ W, Below w6.heap.size w6 W → OwnQ (.agg #[.bool r.1.1, .slice Pr r.1.2.length cr, .slice Br r.2.length dr]) r W from fun W hb => (o_r.below hb).here)
  have OFs := Lib.hid (show ∀ W, Below w6.heap.size w6 W → OwnQ (.agg #[.bool s.1.1, .slice Ps s.1.2.length cs, .slice Bs s.2.length ds]) s W from fun W hb => (o_s.below hb).here)
  have OFb := Lib.hid (show ∀ W, Below w6.heap.size w6 W → OwnQ (.agg #[.bool b.1.1, .slice Pb b.1.2.length cb, .slice Bb b.2.length db]) b W from fun W hb => (o_b.below hb).here)
  have OFc := Lib.hid (show ∀ W, Below w6.heap.size w6 W → OwnQ (.agg #[.bool c.1.1, .slice Pc c.1.2.length cc, .slice Bc c.2.length dc]) c W from fun W hb => (o_c.below hb).here)
  have kr_c0 := kr.here.cell 0 _ rfl
  have kr_c1 := kr.here.cell 1 _ rfl
  have kr_c2 := kr.here.cell 2 _ rfl
  have ks_c0 := ks.here.cell 0 _ rfl
  have ks_c1 := ks.here.cell 1 _ rfl
  have ks_c2 := ks.here.cell 2 _ rfl
  have kb_c0 := kb.here.cell 0 _ rfl
  have kb_c1 := kb.here.cell 1 _ rfl
  have kb_c2 := kb.here.cell 2 _ rfl
  have kc_c0 := kc.here.cell 0 _ rfl
  have kc_c1 := kc.here.cell 1 _ rfl
  have kc_c2 := kc.here.cell 2 _ rfl
  go_upto_region 9 with fail
  go_cut [94] (fun s1 wx => s1 = .bool false ∧ Below w6.heap.size w6 wx)
  case first => as_aux_lemma =>
    clear kr_c0 kr_c1 kr_c2 ks_c0 ks_c1 ks_c2 kb_c0 kb_c1 kb_c2 kc_c0 kc_c1 kc_c2
    have hyz := HYZ.out
    go_region_held3 (fun W => W.cell? ⟨gr, 0, none⟩ = some (.bool r.1.1) ∧ W.cell? ⟨gr, 1, none⟩ = some (.slice Pr r.1.2.length cr) ∧ W.cell? ⟨gr, 2, none⟩ = some (.slice Br r.2.length dr) ∧ W.cell? ⟨gs, 0, none⟩ = some (.bool s.1.1) ∧ W.cell? ⟨gs, 1, none⟩ = some (.slice Ps s.1.2.length cs) ∧ W.cell? ⟨gs, 2, none⟩ = some (.slice Bs s.2.length ds) ∧ W.cell? ⟨gb, 0, none⟩ = some (.bool b.1.1) ∧ W.cell? ⟨gb, 1, none⟩ = some (.slice Pb b.1.2.length cb) ∧ W.cell? ⟨gb, 2, none⟩ = some (.slice Bb b.2.length db) ∧ W.cell? ⟨gc, 0, none⟩ = some (.bool c.1.1) ∧ W.cell? ⟨gc, 1, none⟩ = some (.slice Pc c.1.2.length cc) ∧ W.cell? ⟨gc, 2, none⟩ = some (.slice Bc c.2.length dc) ∧ Hid (Below w6.heap.size w6 W))
      ((refine KL.out _ ?_; (first | exact HB_c3.out | exact below_al HB_c3.out _ | exact HB_c2.out | exact below_al HB_c2.out _ | exact HB_c1.out | exact below_al HB_c1.out _ | exact HB0.out | fail)))
      (first
        | (go_at_call 10; (have hBB := (‹_ ∧ _ ∧ _ ∧ _ ∧ _ ∧ _ ∧ _ ∧ _ ∧ _ ∧ _ ∧ _ ∧ _ ∧ Hid (Below w6.heap.size w6 _)›).2.2.2.2.2.2.2.2.2.2.2.2); (with_reducible refine (C_bc.out _ _ _ (OFb.out _ hBB.out) (OFc.out _ hBB.out) (HS.out _ (BBF.out _ hBB.out))).mono ?_); rintro e w_c1 ⟨rfl, b_c1⟩; have HB_c1 := Lib.hid (Below.next hBB.out b_c1); clear hBB b_c1)
        | (go_at_call 10; (have hBB := (‹_ ∧ _ ∧ _ ∧ _ ∧ _ ∧ _ ∧ _ ∧ _ ∧ _ ∧ _ ∧ _ ∧ _ ∧ Hid (Below w6.heap.size w6 _)›).2.2.2.2.2.2.2.2.2.2.2.2); (with_reducible refine (C_rs.out _ _ _ (OFr.out _ hBB.out) (OFs.out _ hBB.out) (HS.out _ (BBF.out _ hBB.out))).mono ?_); rintro e w_c2 ⟨rfl, b_c2⟩; have HB_c2 := Lib.hid (Below.next hBB.out b_c2); clear hBB b_c2)
        | (go_at_call 10; (have hBB := (‹_ ∧ _ ∧ _ ∧ _ ∧ _ ∧ _ ∧ _ ∧ _ ∧ _ ∧ _ ∧ _ ∧ _ ∧ Hid (Below w6.heap.size w6 _)›).2.2.2.2.2.2.2.2.2.2.2.2); (with_reducible refine (C_sr.out _ _ _ (OFs.out _ hBB.out) (OFr.out _ hBB.out) (HS.out _ (BBF.out _ hBB.out))).mono ?_); rintro e w_c3 ⟨rfl, b_c3⟩; have HB_c3 := Lib.hid (Below.next hBB.out b_c3); clear hBB b_c3))
    all_goals (go_wp2_with fail; go_meet; exact ⟨rfl, HB_c3.out⟩)
  rename World => w7
  obtain ⟨rfl, b7⟩ := hcut
  have bb7 := Below.next bb6 b7
  clear kr_c0 kr_c1 kr_c2 ks_c0 ks_c1 ks_c2 kb_c0 kb_c1 kb_c2 kc_c0 kc_c1 kc_c2
  clear HB0 KL BBF OFr OFs OFb OFc
  replace kr := kr.below b7
  replace ks := ks.below b7
  replace kt := kt.below b7
  replace o_r := o_r.below b7
  replace o_s := o_s.below b7
  replace o_t := o_t.below b7
  replace ka := ka.below b7
  replace o_a := o_a.below b7
  replace kb := kb.below b7
  replace o_b := o_b.below b7
  replace kp := kp.below b7
  replace o_p := o_p.below b7
  replace kq := kq.below b7
  replace o_q := o_q.below b7
  replace kc := kc.below b7
  replace o_c := o_c.below b7
  clear kb kc o_b o_c kq o_q C_a C_b C_p C_q C_c C_bc C_sr
  have ka_c0 := ka.here.cell 0 _ rfl
  have ka_c1 := ka.here.cell 1 _ rfl
  have ka_c2 := ka.here.cell 2 _ rfl
  have ks_c0 := ks.here.cell 0 _ rfl
  have ks_c1 := ks.here.cell 1 _ rfl
  have ks_c2 := ks.here.cell 2 _ rfl
  go_upto_region 11 with fail
  go_cut [16, 17] (fun s1 s2 wx => NewLocV 27 (fun v => OwnQ v d) w7 s1 wx ∧ s2 = .bool true)
  case first => as_aux_lemma =>
    go_wp2_with fail
    refine (C_d.out _ _ _ o_a.here o_s.here (HS.out _ bb7)).mono ?_
    rintro e wf ⟨uf, Sf, rfl, of, lf, bf⟩
    obtain ⟨Af, cf, Bf, df, rfl⟩ := ownQ_form of.here
    go_wp2_with fail
    go_meet
    exact ⟨newLocV_last of lf (Nat.le_refl _) bf, rfl⟩
  rename World => w8
  clear ka_c0 ka_c1 ka_c2 ks_c0 ks_c1 ks_c2
  obtain ⟨⟨gd, csd, Sd, rfl, kd, o_d, n_d, l_d, b8⟩, rfl⟩ := hcut
  clear n_d l_d
  obtain ⟨Pd, cd, Bd, dd, ed⟩ := ownQ_form o_d.here
  injection ed with ed
  subst ed
  have bb8 := Below.next bb7 b8
  replace kr := kr.below b8
  replace ks := ks.below b8
  replace kt := kt.below b8
  replace o_r := o_r.below b8
  replace o_s := o_s.below b8
  replace o_t := o_t.below b8
  replace ka := ka.below b8
  replace o_a := o_a.below b8
  replace kp := kp.below b8
  replace o_p := o_p.below b8
  have kr_c0 := kr.here.cell 0 _ rfl
  have kr_c1 := kr.here.cell 1 _ rfl
  have kr_c2 := kr.here.cell 2 _ rfl
  go_upto_region 12 with fail
  go_cut [18, 19] (fun s1 s2 wx => NewLocV 27 (fun v => OwnQ v r) w8 s1 wx ∧ s2 = .bool true)
  case first => as_aux_lemma =>
    go_wp2_with fail
    refine (C_tx.out _ _ o_r.here (HS.out _ bb8) (HT.out _ bb8)).mono ?_
    rintro e wt ⟨rfl, bt⟩
    go_wp2_with fail
    refine (C_rd.out _ (HS.out _ (Below.next bb8 bt)) (HT.out _ (Below.next bb8 bt))).mono ?_
    rintro e wf ⟨uf, Sf, rfl, of, lf, bf⟩
    obtain ⟨Af, cf, Bf, df, rfl⟩ := ownQ_form of.here
    go_wp2_with fail
    go_meet
    exact ⟨newLocV_last of lf bt.size (Below.next bt bf), rfl⟩
  rename World => w9
  clear kr_c0 kr_c1 kr_c2
  obtain ⟨⟨gx, csx, Sx, rfl, kx, o_x, n_x, l_x, b9⟩, rfl⟩ := hcut
  clear n_x l_x
  obtain ⟨Px, cx, Bx, dx, ex⟩ := ownQ_form o_x.here
  injection ex with ex
  subst ex
  have bb9 := Below.next bb8 b9
  replace kr := kr.below b9
  replace ks := ks.below b9
  replace kt := kt.below b9
  replace o_r := o_r.below b9
  replace o_s := o_s.below b9
  replace o_t := o_t.below b9
  replace ka := ka.below b9
  replace o_a := o_a.below b9
  replace kp := kp.below b9
  replace o_p := o_p.below b9
  replace kd := kd.below b9
  replace o_d := o_d.below b9
  have kd_c0 := kd.here.cell 0 _ rfl
  have kd_c1 := kd.here.cell 1 _ rfl
  have kd_c2 := kd.here.cell 2 _ rfl
  have kr_c0 := kr.here.cell 0 _ rfl
  have kr_c1 := kr.here.cell 1 _ rfl
  have kr_c2 := kr.here.cell 2 _ rfl
  have kx_c0 := kx.here.cell 0 _ rfl
  have kx_c1 := kx.here.cell 1 _ rfl
  have kx_c2 := kx.here.cell 2 _ rfl
  go_wp2_with fail
  clear kd_c0 kd_c1 kd_c2 kr_c0 kr_c1 kr_c2 kx_c0 kx_c1 kx_c2
  refine (C_dr.out _ _ _ o_d.here o_r.here (HS.out _ bb9)).mono ?_
  rintro e w10 ⟨rfl, b10⟩
  have bb10 := Below.next bb9 b10
  replace kr := kr.below b10
  replace ks := ks.below b10
  replace kt := kt.below b10
  replace o_r := o_r.below b10
  replace o_s := o_s.below b10
  replace o_t := o_t.below b10
  replace ka := ka.below b10
  replace o_a := o_a.below b10
  replace kp := kp.below b10
  replace o_p := o_p.below b10
  replace kd := kd.below b10
  replace o_d := o_d.below b10
  replace kx := kx.below b10
  replace o_x := o_x.below b10
  have kd_c0 := kd.here.cell 0 _ rfl
  have kd_c1 := kd.here.cell 1 _ rfl
  have kd_c2 := kd.here.cell 2 _ rfl
  have kr_c0 := kr.here.cell 0 _ rfl
  have kr_c1 := kr.here.cell 1 _ rfl
  have kr_c2 := kr.here.cell 2 _ rfl
  have kx_c0 := kx.here.cell 0 _ rfl
  have kx_c1 := kx.here.cell 1 _ rfl
  have kx_c2 := kx.here.cell 2 _ rfl
  go_wp2_with fail
  clear kd_c0 kd_c1 kd_c2 kr_c0 kr_c1 kr_c2 kx_c0 kx_c1 kx_c2
  refine (C_rr.out _ _ _ o_x.here o_r.here (HS.out _ bb10)).mono ?_
  rintro e w11 ⟨rfl, b11⟩
  have bb11 := Below.next bb10 b11
  replace kr := kr.below b11
  replace ks := ks.below b11
  replace kt := kt.below b11
  replace o_r := o_r.below b11
  replace o_s := o_s.below b11
  replace o_t := o_t.below b11
  replace ka := ka.below b11
  replace o_a := o_a.below b11
  replace kp := kp.below b11
  replace o_p := o_p.below b11
  replace kd := kd.below b11
  replace o_d := o_d.below b11
  replace kx := kx.below b11
  replace o_x := o_x.below b11
  clear kd o_d kx o_x ka o_a C_d C_dr C_rr C_tx C_rd
  rcases DV.out with ⟨hn0, hdv⟩ | ⟨e, hn0, hdv, her, hze⟩
  · subst hn0
    have C_e := qdiv_c Z6.out Z3.out hdv
    clear hdv HNR DV
    have kp_c0 := kp.here.cell 0 _ rfl
    have kp_c1 := kp.here.cell 1 _ rfl
    have kp_c2 := kp.here.cell 2 _ rfl
    have kt_c0 := kt.here.cell 0 _ rfl
    have kt_c1 := kt.here.cell 1 _ rfl
    have kt_c2 := kt.here.cell 2 _ rfl
    go_upto_region 15 with fail
    go_cut [20, 21] (fun s1 s2 wx => NewLocV 27 (fun v => OwnQ v zeroQ) w11 s1 wx ∧ s2 = .bool false)
    case first => as_aux_lemma =>
      go_wp2_with fail
      refine (C_e.out _ _ _ o_p.here o_t.here (HS.out _ bb11)).mono ?_
      rintro e wf ⟨uf, Sf, rfl, of, lf, bf⟩
      obtain ⟨Af, cf, Bf, df, rfl⟩ := ownQ_form of.here
      go_wp2_with fail
      go_meet
      exact ⟨newLocV_last of lf (Nat.le_refl _) bf, rfl⟩
    rename World => w12
    clear kp_c0 kp_c1 kp_c2 kt_c0 kt_c1 kt_c2
    obtain ⟨⟨ge, cse, Se, rfl, ke, o_e, n_e, l_e, b12⟩, rfl⟩ := hcut
    clear n_e l_e
    obtain ⟨Pe, ce, Be, de, ee⟩ := ownQ_form o_e.here
    injection ee with ee
    subst ee
    have bb12 := Below.next bb11 b12
    replace kr := kr.below b12
    replace ks := ks.below b12
    replace kt := kt.below b12
    replace o_r := o_r.below b12
    replace o_s := o_s.below b12
    replace o_t := o_t.below b12
    replace kp := kp.below b12
    replace o_p := o_p.below b12
    have HB0 := Lib.hid (show Below w12.heap.size w12 w12.drew from (Below.refl _ _).drew)
    have KL := Lib.hid (show ∀ W, Below w12.heap.size w12 W → W.cell? ⟨gr, 0, none⟩ = some (.bool r.1.1) ∧ W.cell? ⟨gr, 1, none⟩ = some (.slice Pr r.1.2.length cr) ∧ W.cell? ⟨gr, 2, none⟩ = some (.slice Br r.2.length dr) ∧ W.cell? ⟨gs, 0, none⟩ = some (.bool s.1.1) ∧ W.cell? ⟨gs, 1, none⟩ = some (.slice Ps s.1.2.length cs) ∧ W.cell? ⟨gs, 2, none⟩ = some (.slice Bs s.2.length ds) ∧ W.cell? ⟨gt, 0, none⟩ = some (.bool t.1.1) ∧ W.cell? ⟨gt, 1, none⟩ = some (.slice Pt t.1.2.length ct) ∧ W.cell? ⟨gt, 2, none⟩ = some (.slice Bt t.2.length dt) ∧ W.cell? ⟨ge, 0, none⟩ = some (.bool zeroQ.1.1) ∧ W.cell? ⟨ge, 1, none⟩ = some (.slice Pe zeroQ.1.2.length ce) ∧ W.cell? ⟨ge, 2, none⟩ = some (.slice Be zeroQ.2.length de) ∧ Hid (Below w12.heap.size w12 W) from
      fun W hb => ⟨(kr.below hb).here.cell 0 _ rfl, (kr.below hb).here.cell 1 _ rfl, (kr.below hb).here.cell 2 _ rfl, (ks.below hb).here.cell 0 _ rfl, (ks.below hb).here.cell 1 _ rfl, (ks.below hb).here.cell 2 _ rfl, (kt.below hb).here.cell 0 _ rfl, (kt.below hb).here.cell 1 _ rfl, (kt.below hb).here.cell 2 _ rfl, (ke.below hb).here.cell 0 _ rfl, (ke.below hb).here.cell 1 _ rfl, (ke.below hb).here.cell 2 _ rfl, Lib.hid hb⟩)
    have BBF := Lib.hid (show ∀ W, Below w12.heap.size w12 W → Below w.heap.size w W from fun W hb => Below.next bb12 hb)
    have OFr := Lib.hid (show ∀ W, Below w12.heap.size w12 W → OwnQ (.agg #[.bool r.1.1, .slice Pr r.1.2.length cr, .slice Br r.2.length dr]) r W from fun W hb => (o_r.below hb).here)
    have OFs := Lib.hid (show ∀ W, Below w12.heap.size w12 W → OwnQ (.agg #[.bool s.1.1, .slice Ps s.1.2.length cs, .slice Bs s.2.length ds]) s W from fun W hb => (o_s.below hb).here)
    have OFt := Lib.hid (show ∀ W, Below w12.heap.size w12 W → OwnQ (.agg #[.bool t.1.1, .slice Pt t.1.2.length ct, .slice Bt t.2.length dt]) t W from fun W hb => (o_t.below hb).here)
    have OFe := Lib.hid (show ∀ W, Below w12.heap.size w12 W → OwnQ (.agg #[.bool zeroQ.1.1, .slice Pe zeroQ.1.2.length ce, .slice Be zeroQ.2.length de]) zeroQ W from fun W hb => (o_e.below hb).here)
    have kr_c0 := kr.here.cell 0 _ rfl
    have kr_c1 := kr.here.cell 1 _ rfl
    have kr_c2 := kr.here.cell 2 _ rfl
    have ks_c0 := ks.here.cell 0 _ rfl
    have ks_c1 := ks.here.cell 1 _ rfl
    have ks_c2 := ks.here.cell 2 _ rfl
    have kt_c0 := kt.here.cell 0 _ rfl
    have kt_c1 := kt.here.cell 1 _ rfl
    have kt_c2 := kt.here.cell 2 _ rfl
    have ke_c0 := ke.here.cell 0 _ rfl
    have ke_c1 := ke.here.cell 1 _ rfl
    have ke_c2 := ke.here.cell 2 _ rfl
    go_upto_region 16 with fail
    go_cut [2] (fun s1 wx => s1 = .bool true ∧ Below w12.heap.size w12 wx)
    case first => as_aux_lemma =>
      clear kr_c0 kr_c1 kr_c2 ks_c0 ks_c1 ks_c2 kt_c0 kt_c1 kt_c2 ke_c0 ke_c1 ke_c2
      have hord := HORD.out
      refine wp_region_held_drew (S := fun W => W.cell? ⟨gr, 0, none⟩ = some (.bool r.1.1) ∧ W.cell? ⟨gr, 1, none⟩ = some (.slice Pr r.1.2.length cr) ∧ W.cell? ⟨gr, 2, none⟩ = some (.slice Br r.2.length dr) ∧ W.cell? ⟨gs, 0, none⟩ = some (.bool s.1.1) ∧ W.cell? ⟨gs, 1, none⟩ = some (.slice Ps s.1.2.length cs) ∧ W.cell? ⟨gs, 2, none⟩ = some (.slice Bs s.2.length ds) ∧ W.cell? ⟨gt, 0, none⟩ = some (.bool t.1.1) ∧ W.cell? ⟨gt, 1, none⟩ = some (.slice Pt t.1.2.length ct) ∧ W.cell? ⟨gt, 2, none⟩ = some (.slice Bt t.2.length dt) ∧ W.cell? ⟨ge, 0, none⟩ = some (.bool zeroQ.1.1) ∧ W.cell? ⟨ge, 1, none⟩ = some (.slice Pe zeroQ.1.2.length ce) ∧ W.cell? ⟨ge, 2, none⟩ = some (.slice Be zeroQ.2.length de) ∧ Hid (Below w12.heap.size w12 W)) (by kernel_rfl) ?_ (fun hHeld => ?_)
      · ((refine KL.out _ ?_; (first | exact HB_m1.out | exact below_al HB_m1.out _ | exact HB_u1.out | exact below_al HB_u1.out _ | exact HB_v1.out | exact below_al HB_v1.out _ | exact HB_y1.out | exact below_al HB_y1.out _ | exact HB_n1.out | exact below_al HB_n1.out _ | exact HB0.out | fail)))
      refine wpAnyH_take (i := 0) (v := ?_) rfl (by kernel_rfl) (by kernel_rfl) (by kernel_rfl) (fun _ _ _ h => h) (Or.inl ⟨by kernel_rfl, ?_⟩) (by assumption) ?_
      rotate_left
      · (intro w hSw; (try dsimp only at hSw); go_simp; (try with_reducible rfl))
      (try simp only [Act.put, List.getElem_toArray, List.getElem_cons_zero, List.setIfInBounds_toArray, List.set_cons_zero, List.set_cons_succ])
      refine wpAnyH_take (i := 1) (v := ?_) rfl (by kernel_rfl) (by kernel_rfl) (by kernel_rfl) (fun _ _ _ h => h) (Or.inl ⟨by kernel_rfl, ?_⟩) (by assumption) ?_
      rotate_left
      · (intro w hSw; (try dsimp only at hSw); go_simp; (try with_reducible rfl))
      (try simp only [Act.put, List.getElem_toArray, List.getElem_cons_zero, List.getElem_cons_succ, List.setIfInBounds_toArray, List.set_cons_zero, List.set_cons_succ])
      refine wpAnyH_ready (rs := [2]) (by kernel_rfl) (by simp) ?_
      refine AllReadyH.cons rfl (fun K hK => ?_) AllReadyH.nil
      go_simp
      (go_at_call 15; (have hBB := (‹_ ∧ _ ∧ _ ∧ _ ∧ _ ∧ _ ∧ _ ∧ _ ∧ _ ∧ _ ∧ _ ∧ _ ∧ Hid (Below w12.heap.size w12 _)›).2.2.2.2.2.2.2.2.2.2.2.2); (with_reducible refine (C_n.out _ _ (OFt.out _ hBB.out) (HS.out _ (BBF.out _ hBB.out))).mono ?_); rintro e w_n1 ⟨rfl, b_n1⟩; have HB_n1 := Lib.hid (Below.next hBB.out b_n1); (try (first | replace o_v1 := At.below o_v1 b_n1 | replace o_v1 := At.below (At.below o_v1 (below_al (Below.refl _ _) _)) b_n1)); clear hBB b_n1)
      refine hK.out _ _ ?_ (fun hHeld => ?_)
      · ((refine KL.out _ ?_; (first | exact HB_m1.out | exact below_al HB_m1.out _ | exact HB_u1.out | exact below_al HB_u1.out _ | exact HB_v1.out | exact below_al HB_v1.out _ | exact HB_y1.out | exact below_al HB_y1.out _ | exact HB_n1.out | exact below_al HB_n1.out _ | exact HB0.out | fail)))
      clear hK K
      (try simp only [Act.put, List.getElem_toArray, List.getElem_cons_zero, List.getElem_cons_succ, List.setIfInBounds_toArray, List.set_cons_zero, List.set_cons_succ])
      refine wpAnyH_take (i := 3) (v := ?_) rfl (by kernel_rfl) (by kernel_rfl) (by kernel_rfl) (fun _ _ _ h => h) (Or.inl ⟨by kernel_rfl, ?_⟩) (by assumption) ?_
      rotate_left
      · (intro w hSw; (try dsimp only at hSw); go_simp; (try with_reducible rfl))
      (try simp only [Act.put, List.getElem_toArray, List.getElem_cons_zero, List.getElem_cons_succ, List.setIfInBounds_toArray, List.set_cons_zero, List.set_cons_succ])
      refine wpAnyH_take (i := 4) (v := ?_) rfl (by kernel_rfl) (by kernel_rfl) (by kernel_rfl) (fun _ _ _ h => h) (Or.inl ⟨by kernel_rfl, ?_⟩) (by assumption) ?_
      rotate_left
      · (intro w hSw; (try dsimp only at hSw); go_simp; (try with_reducible rfl))
      (try simp only [Act.put, List.getElem_toArray, List.getElem_cons_zero, List.getElem_cons_succ, List.setIfInBounds_toArray, List.set_cons_zero, List.set_cons_succ])
      refine wpAnyH_take (i := 5) (v := ?_) rfl (by kernel_rfl) (by kernel_rfl) (by kernel_rfl) (fun _ _ _ h => h) (Or.inl ⟨by kernel_rfl, ?_⟩) (by assumption) ?_
      rotate_left
      · (intro w hSw; (try dsimp only at hSw); go_simp; (try with_reducible rfl))
      (try simp only [Act.put, List.getElem_toArray, List.getElem_cons_zero, List.getElem_cons_succ, List.setIfInBounds_toArray, List.set_cons_zero, List.set_cons_succ])
      refine wpAnyH_take (i := 6) (v := ?_) rfl (by kernel_rfl) (by kernel_rfl) (by kernel_rfl) (fun _ _ _ h => h) (Or.inl ⟨by kernel_rfl, ?_⟩) (by assumption) ?_
      rotate_left
      · (intro w hSw; (try dsimp only at hSw); go_simp; (try with_reducible rfl))
      (try simp only [Act.put, List.getElem_toArray, List.getElem_cons_zero, List.getElem_cons_succ, List.setIfInBounds_toArray, List.set_cons_zero, List.set_cons_succ])
      refine wpAnyH_take (i := 7) (v := ?_) rfl (by kernel_rfl) (by kernel_rfl) (by kernel_rfl) (fun _ _ _ h => h) (Or.inl ⟨by kernel_rfl, ?_⟩) (by assumption) ?_
      rotate_left
      · (intro w hSw; (try dsimp only at hSw); go_simp; (try with_reducible rfl))
      (try simp only [Act.put, List.getElem_toArray, List.getElem_cons_zero, List.getElem_cons_succ, List.setIfInBounds_toArray, List.set_cons_zero, List.set_cons_succ])
      refine wpAnyH_take (i := 8) (v := ?_) rfl (by kernel_rfl) (by kernel_rfl) (by kernel_rfl) (fun _ _ _ h => h) (Or.inl ⟨by kernel_rfl, ?_⟩) (by assumption) ?_
      rotate_left
      · (intro w hSw; (try dsimp only at hSw); go_simp; (try with_reducible rfl))
      (try simp only [Act.put, List.getElem_toArray, List.getElem_cons_zero, List.getElem_cons_succ, List.setIfInBounds_toArray, List.set_cons_zero, List.set_cons_succ])
      refine wpAnyH_take (i := 9) (v := undef) rfl (by kernel_rfl) (by kernel_rfl) (by kernel_rfl) (fun _ _ _ h => h) (Or.inr ⟨by kernel_rfl, rfl⟩) (by assumption) ?_
      (try simp only [Act.put, List.getElem_toArray, List.getElem_cons_zero, List.getElem_cons_succ, List.setIfInBounds_toArray, List.set_cons_zero, List.set_cons_succ])
      refine wpAnyH_take (i := 10) (v := undef) rfl (by kernel_rfl) (by kernel_rfl) (by kernel_rfl) (fun _ _ _ h => h) (Or.inr ⟨by kernel_rfl, rfl⟩) (by assumption) ?_
      (try simp only [Act.put, List.getElem_toArray, List.getElem_cons_zero, List.getElem_cons_succ, List.setIfInBounds_toArray, List.set_cons_zero, List.set_cons_succ])
      refine wpAnyH_ready (rs := [11]) (by kernel_rfl) (by simp) ?_
      refine AllReadyH.cons rfl (fun K hK => ?_) AllReadyH.nil
      go_simp
      refine hK.out _ _ ?_ (fun hHeld => ?_)
      · ((refine KL.out _ ?_; (first | exact HB_m1.out | exact below_al HB_m1.out _ | exact HB_u1.out | exact below_al HB_u1.out _ | exact HB_v1.out | exact below_al HB_v1.out _ | exact HB_y1.out | exact below_al HB_y1.out _ | exact HB_n1.out | exact below_al HB_n1.out _ | exact HB0.out | fail)))
      clear hK K
      (try simp only [Act.put, List.getElem_toArray, List.getElem_cons_zero, List.getElem_cons_succ, List.setIfInBounds_toArray, List.set_cons_zero, List.set_cons_succ])
      refine wpAnyH_take (i := 12) (v := undef) rfl (by kernel_rfl) (by kernel_rfl) (by kernel_rfl) (fun _ _ _ h => h) (Or.inr ⟨by kernel_rfl, rfl⟩) (by assumption) ?_
      (try simp only [Act.put, List.getElem_toArray, List.getElem_cons_zero, List.getElem_cons_succ, List.setIfInBounds_toArray, List.set_cons_zero, List.set_cons_succ])
      refine wpAnyH_take (i := 13) (v := ?_) rfl (by kernel_rfl) (by kernel_rfl) (by kernel_rfl) (fun _ _ _ h => h) (Or.inl ⟨by kernel_rfl, ?_⟩) (by assumption) ?_
      rotate_left
      · (intro w hSw; (try dsimp only at hSw); go_simp; (try with_reducible rfl))
      (try simp only [Act.put, List.getElem_toArray, List.getElem_cons_zero, List.getElem_cons_succ, List.setIfInBounds_toArray, List.set_cons_zero, List.set_cons_succ])
      refine wpAnyH_take (i := 14) (v := ?_) rfl (by kernel_rfl) (by kernel_rfl) (by kernel_rfl) (fun _ _ _ h => h) (Or.inl ⟨by kernel_rfl, ?_⟩) (by assumption) ?_
      rotate_left
      · (intro w hSw; (try dsimp only at hSw); go_simp; (try with_reducible rfl))
      (try simp only [Act.put, List.getElem_toArray, List.getElem_cons_zero, List.getElem_cons_succ, List.setIfInBounds_toArray, List.set_cons_zero, List.set_cons_succ])
      refine wpAnyH_take (i := 15) (v := ?_) rfl (by kernel_rfl) (by kernel_rfl) (by kernel_rfl) (fun _ _ _ h => h) (Or.inl ⟨by kernel_rfl, ?_⟩) (by assumption) ?_
      rotate_left
      · (intro w hSw; (try dsimp only at hSw); go_simp; (try with_reducible rfl))
      (try simp only [Act.put, List.getElem_toArray, List.getElem_cons_zero, List.getElem_cons_succ, List.setIfInBounds_toArray, List.set_cons_zero, List.set_cons_succ])
      refine wpAnyH_take (i := 16) (v := ?_) rfl (by kernel_rfl) (by kernel_rfl) (by kernel_rfl) (fun _ _ _ h => h) (Or.inl ⟨by kernel_rfl, ?_⟩) (by assumption) ?_
      rotate_left
      · (intro w hSw; (try dsimp only at hSw); go_simp; (try with_reducible rfl))
      (try simp only [Act.put, List.getElem_toArray, List.getElem_cons_zero, List.getElem_cons_succ, List.setIfInBounds_toArray, List.set_cons_zero, List.set_cons_succ])
      refine wpAnyH_take (i := 17) (v := ?_) rfl (by kernel_rfl) (by kernel_rfl) (by kernel_rfl) (fun _ _ _ h => h) (Or.inl ⟨by kernel_rfl, ?_⟩) (by assumption) ?_
      rotate_left
      · (intro w hSw; (try dsimp only at hSw); go_simp; (try with_reducible rfl))
      (try simp only [Act.put, List.getElem_toArray, List.getElem_cons_zero, List.getElem_cons_succ, List.setIfInBounds_toArray, List.set_cons_zero, List.set_cons_succ])
      refine wpAnyH_take (i := 20) (v := ?_) rfl (by kernel_rfl) (by kernel_rfl) (by kernel_rfl) (fun _ _ _ h => h) (Or.inl ⟨by kernel_rfl, ?_⟩) (by assumption) ?_
      rotate_left
      · (intro w hSw; (try dsimp only at hSw); go_simp; (try with_reducible rfl))
      (try simp only [Act.put, List.getElem_toArray, List.getElem_cons_zero, List.getElem_cons_succ, List.setIfInBounds_toArray, List.set_cons_zero, List.set_cons_succ])
      refine wpAnyH_take (i := 21) (v := ?_) rfl (by kernel_rfl) (by kernel_rfl) (by kernel_rfl) (fun _ _ _ h => h) (Or.inl ⟨by kernel_rfl, ?_⟩) (by assumption) ?_
      rotate_left
      · (intro w hSw; (try dsimp only at hSw); go_simp; (try with_reducible rfl))
      (try simp only [Act.put, List.getElem_toArray, List.getElem_cons_zero, List.getElem_cons_succ, List.setIfInBounds_toArray, List.set_cons_zero, List.set_cons_succ])
      refine wpAnyH_ready (rs := [18]) (by kernel_rfl) (by simp) ?_
      refine AllReadyH.cons rfl (fun K hK => ?_) AllReadyH.nil
      go_simp
      (go_at_call 10; (have hBB := (‹_ ∧ _ ∧ _ ∧ _ ∧ _ ∧ _ ∧ _ ∧ _ ∧ _ ∧ _ ∧ _ ∧ _ ∧ Hid (Below w12.heap.size w12 _)›).2.2.2.2.2.2.2.2.2.2.2.2); (with_reducible refine (C_rs.out _ _ _ (OFr.out _ hBB.out) (OFs.out _ hBB.out) (HS.out _ (BBF.out _ hBB.out))).mono ?_); rintro e w_y1 ⟨rfl, b_y1⟩; have HB_y1 := Lib.hid (Below.next hBB.out b_y1); (try (first | replace o_v1 := At.below o_v1 b_y1 | replace o_v1 := At.below (At.below o_v1 (below_al (Below.refl _ _) _)) b_y1)); clear hBB b_y1)
      refine hK.out _ _ ?_ (fun hHeld => ?_)
      · ((refine KL.out _ ?_; (first | exact HB_m1.out | exact below_al HB_m1.out _ | exact HB_u1.out | exact below_al HB_u1.out _ | exact HB_v1.out | exact below_al HB_v1.out _ | exact HB_y1.out | exact below_al HB_y1.out _ | exact HB_n1.out | exact below_al HB_n1.out _ | exact HB0.out | fail)))
      clear hK K
      (try simp only [Act.put, List.getElem_toArray, List.getElem_cons_zero, List.getElem_cons_succ, List.setIfInBounds_toArray, List.set_cons_zero, List.set_cons_succ])
      refine wpAnyH_take (i := 19) (v := ?_) rfl (by kernel_rfl) (by kernel_rfl) (by kernel_rfl) (fun _ _ _ h => h) (Or.inl ⟨by kernel_rfl, ?_⟩) (by assumption) ?_
      rotate_left
      · (intro w hSw; (try dsimp only at hSw); go_simp; (try with_reducible rfl))
      (try simp only [Act.put, List.getElem_toArray, List.getElem_cons_zero, List.getElem_cons_succ, List.setIfInBounds_toArray, List.set_cons_zero, List.set_cons_succ])
      refine wpAnyH_ready (rs := [22]) (by kernel_rfl) (by simp) ?_
      refine AllReadyH.cons rfl (fun K hK => ?_) AllReadyH.nil
      go_simp
      (go_at_call 11; (have hBB := (‹_ ∧ _ ∧ _ ∧ _ ∧ _ ∧ _ ∧ _ ∧ _ ∧ _ ∧ _ ∧ _ ∧ _ ∧ Hid (Below w12.heap.size w12 _)›).2.2.2.2.2.2.2.2.2.2.2.2); (with_reducible refine (C_x.out _ _ _ (OFs.out _ hBB.out) (OFr.out _ hBB.out) (HS.out _ (BBF.out _ hBB.out))).mono ?_); rintro e w_v1 ⟨u_v1, S_v1, rfl, o_v1, l_v1, b_v1⟩; have HB_v1 := Lib.hid (Below.next hBB.out b_v1); obtain ⟨Pv1, cv1, Bv1, dv1, rfl⟩ := ownQ_form o_v1.here; clear l_v1; clear hBB b_v1)
      refine hK.out _ _ ?_ (fun hHeld => ?_)
      · ((refine KL.out _ ?_; (first | exact HB_m1.out | exact below_al HB_m1.out _ | exact HB_u1.out | exact below_al HB_u1.out _ | exact HB_v1.out | exact below_al HB_v1.out _ | exact HB_y1.out | exact below_al HB_y1.out _ | exact HB_n1.out | exact below_al HB_n1.out _ | exact HB0.out | fail)))
      clear hK K
      (try simp only [Act.put, List.getElem_toArray, List.getElem_cons_zero, List.getElem_cons_succ, List.setIfInBounds_toArray, List.set_cons_zero, List.set_cons_succ])
      refine wpAnyH_take (i := 23) (v := ?_) rfl (by kernel_rfl) (by kernel_rfl) (by kernel_rfl) (fun _ _ _ h => h) (Or.inl ⟨by kernel_rfl, ?_⟩) (by assumption) ?_
      rotate_left
      · (intro w hSw; (try dsimp only at hSw); go_simp; (try with_reducible rfl))
      (try simp only [Act.put, List.getElem_toArray, List.getElem_cons_zero, List.getElem_cons_succ, List.setIfInBounds_toArray, List.set_cons_zero, List.set_cons_succ])
      refine wpAnyH_take (i := 24) (v := ?_) rfl (by kernel_rfl) (by kernel_rfl) (by kernel_rfl) (fun _ _ _ h => h) (Or.inl ⟨by kernel_rfl, ?_⟩) (by assumption) ?_
      rotate_left
      · (intro w hSw; (try dsimp only at hSw); go_simp; (try with_reducible rfl))
      (try simp only [Act.put, List.getElem_toArray, List.getElem_cons_zero, List.getElem_cons_succ, List.setIfInBounds_toArray, List.set_cons_zero, List.set_cons_succ])
      refine wpAnyH_ready (rs := [25]) (by kernel_rfl) (by simp) ?_
      refine AllReadyH.cons rfl (fun K hK => ?_) AllReadyH.nil
      go_simp
      (go_at_call 16; (have hBB := (‹_ ∧ _ ∧ _ ∧ _ ∧ _ ∧ _ ∧ _ ∧ _ ∧ _ ∧ _ ∧ _ ∧ _ ∧ Hid (Below w12.heap.size w12 _)›).2.2.2.2.2.2.2.2.2.2.2.2); (with_reducible refine (must_any _ _ _ _ _ _ _ _).mono ?_); rintro e w_u1 ⟨rfl, b_u1⟩; have HB_u1 := Lib.hid (Below.next hBB.out b_u1); (try (first | replace o_v1 := At.below o_v1 b_u1 | replace o_v1 := At.below (At.below o_v1 (below_al (Below.refl _ _) _)) b_u1)); clear hBB b_u1)
      refine hK.out _ _ ?_ (fun hHeld => ?_)
      · ((refine KL.out _ ?_; (first | exact HB_m1.out | exact below_al HB_m1.out _ | exact HB_u1.out | exact below_al HB_u1.out _ | exact HB_v1.out | exact below_al HB_v1.out _ | exact HB_y1.out | exact below_al HB_y1.out _ | exact HB_n1.out | exact below_al HB_n1.out _ | exact HB0.out | fail)))
      clear hK K
      (try simp only [Act.put, List.getElem_toArray, List.getElem_cons_zero, List.getElem_cons_succ, List.setIfInBounds_toArray, List.set_cons_zero, List.set_cons_succ])
      refine wpAnyH_ready (rs := [26]) (by kernel_rfl) (by simp) ?_
      refine AllReadyH.cons rfl (fun K hK => ?_) AllReadyH.nil
      go_simp
      (go_at_call 15; (have hBB := (‹_ ∧ _ ∧ _ ∧ _ ∧ _ ∧ _ ∧ _ ∧ _ ∧ _ ∧ _ ∧ _ ∧ _ ∧ Hid (Below w12.heap.size w12 _)›).2.2.2.2.2.2.2.2.2.2.2.2); (with_reducible refine (C_m.out _ _ (At.here o_v1) (HS.out _ (BBF.out _ hBB.out))).mono ?_); rintro e w_m1 ⟨rfl, b_m1⟩; have HB_m1 := Lib.hid (Below.next hBB.out b_m1); (try (first | replace o_v1 := At.below o_v1 b_m1 | replace o_v1 := At.below (At.below o_v1 (below_al (Below.refl _ _) _)) b_m1)); clear hBB b_m1)
      refine hK.out _ _ ?_ (fun hHeld => ?_)
      · ((refine KL.out _ ?_; (first | exact HB_m1.out | exact below_al HB_m1.out _ | exact HB_u1.out | exact below_al HB_u1.out _ | exact HB_v1.out | exact below_al HB_v1.out _ | exact HB_y1.out | exact below_al HB_y1.out _ | exact HB_n1.out | exact below_al HB_n1.out _ | exact HB0.out | fail)))
      clear hK K
      (try simp only [Act.put, List.getElem_toArray, List.getElem_cons_zero, List.getElem_cons_succ, List.setIfInBounds_toArray, List.set_cons_zero, List.set_cons_succ])
      refine wpAnyH_take (i := 27) (v := ?_) rfl (by kernel_rfl) (by kernel_rfl) (by kernel_rfl) (fun _ _ _ h => h) (Or.inl ⟨by kernel_rfl, ?_⟩) (by assumption) ?_
      rotate_left
      · (intro w hSw; (try dsimp only at hSw); go_simp; (try with_reducible rfl))
      (try simp only [Act.put, List.getElem_toArray, List.getElem_cons_zero, List.getElem_cons_succ, List.setIfInBounds_toArray, List.set_cons_zero, List.set_cons_succ])
      refine wpAnyH_take (i := 28) (v := ?_) rfl (by kernel_rfl) (by kernel_rfl) (by kernel_rfl) (fun _ _ _ h => h) (Or.inl ⟨by kernel_rfl, ?_⟩) (by assumption) ?_
      rotate_left
      · (intro w hSw; (try dsimp only at hSw); go_simp; (try with_reducible rfl))
      (try simp only [Act.put, List.getElem_toArray, List.getElem_cons_zero, List.getElem_cons_succ, List.setIfInBounds_toArray, List.set_cons_zero, List.set_cons_succ])
      refine wpAnyH_take (i := 29) (v := ?_) rfl (by kernel_rfl) (by kernel_rfl) (by kernel_rfl) (fun _ _ _ h => h) (Or.inl ⟨by kernel_rfl, ?_⟩) (by assumption) ?_
      rotate_left
      · (intro w hSw; (try dsimp only at hSw); go_simp; (try with_reducible rfl))
      (try simp only [Act.put, List.getElem_toArray, List.getElem_cons_zero, List.getElem_cons_succ, List.setIfInBounds_toArray, List.set_cons_zero, List.set_cons_succ])
      refine wpAnyH_take (i := 30) (v := ?_) rfl (by kernel_rfl) (by kernel_rfl) (by kernel_rfl) (fun _ _ _ h => h) (Or.inl ⟨by kernel_rfl, ?_⟩) (by assumption) ?_
      rotate_left
      · (intro w hSw; (try dsimp only at hSw); go_simp; (try with_reducible rfl))
      (try simp only [Act.put, List.getElem_toArray, List.getElem_cons_zero, List.getElem_cons_succ, List.setIfInBounds_toArray, List.set_cons_zero, List.set_cons_succ])
      refine wpAnyH_done (by kernel_rfl) ?_ _
      all_goals (go_wp2_with fail; go_meet; exact ⟨rfl, HB_m1.out⟩)
    rename World => w13
    obtain ⟨rfl, b13⟩ := hcut
    have bb13 := Below.next bb12 b13
    clear kr_c0 kr_c1 kr_c2 ks_c0 ks_c1 ks_c2 kt_c0 kt_c1 kt_c2 ke_c0 ke_c1 ke_c2
    clear HB0 KL BBF OFr OFs OFt OFe
    replace kr := kr.below b13
    replace ks := ks.below b13
    replace kt := kt.below b13
    replace o_r := o_r.below b13
    replace o_s := o_s.below b13
    replace o_t := o_t.below b13
    replace kp := kp.below b13
    replace o_p := o_p.below b13
    replace ke := ke.below b13
    replace o_e := o_e.below b13
    go_wp2
    go_ret
    exact ⟨rfl, bb13⟩
  · rcases (show n = 1 ∨ n = -1 by have := HNR.out; omega) with rfl | rfl
    · clear hn0
      have C_e := qdiv_c Z6.out Z3.out hdv
      have C_er := qcmp_c hze Z1.out her
      clear hdv HNR DV
      have kp_c0 := kp.here.cell 0 _ rfl
      have kp_c1 := kp.here.cell 1 _ rfl
      have kp_c2 := kp.here.cell 2 _ rfl
      have kt_c0 := kt.here.cell 0 _ rfl
      have kt_c1 := kt.here.cell 1 _ rfl
      have kt_c2 := kt.here.cell 2 _ rfl
      go_upto_region 15 with fail
      go_cut [20, 21] (fun s1 s2 wx => NewLocV 27 (fun v => OwnQ v e) w11 s1 wx ∧ s2 = .bool true)
      case first => as_aux_lemma =>
        go_wp2_with fail
        refine (C_e.out _ _ _ o_p.here o_t.here (HS.out _ bb11)).mono ?_
        rintro e wf ⟨uf, Sf, rfl, of, lf, bf⟩
        obtain ⟨Af, cf, Bf, df, rfl⟩ := ownQ_form of.here
        go_wp2_with fail
        go_meet
        exact ⟨newLocV_last of lf (Nat.le_refl _) bf, rfl⟩
      rename World => w12
      clear kp_c0 kp_c1 kp_c2 kt_c0 kt_c1 kt_c2
      obtain ⟨⟨ge, cse, Se, rfl, ke, o_e, n_e, l_e, b12⟩, rfl⟩ := hcut
      clear n_e l_e
      obtain ⟨Pe, ce, Be, de, ee⟩ := ownQ_form o_e.here
      injection ee with ee
      subst ee
      have bb12 := Below.next bb11 b12
      replace kr := kr.below b12
      replace ks := ks.below b12
      replace kt := kt.below b12
      replace o_r := o_r.below b12
      replace o_s := o_s.below b12
      replace o_t := o_t.below b12
      replace kp := kp.below b12
      replace o_p := o_p.below b12
      have HB0 := Lib.hid (show Below w12.heap.size w12 w12.drew from (Below.refl _ _).drew)
      have KL := Lib.hid (show ∀ W, Below w12.heap.size w12 W → W.cell? ⟨gr, 0, none⟩ = some (.bool r.1.1) ∧ W.cell? ⟨gr, 1, none⟩ = some (.slice Pr r.1.2.length cr) ∧ W.cell? ⟨gr, 2, none⟩ = some (.slice Br r.2.length dr) ∧ W.cell? ⟨gs, 0, none⟩ = some (.bool s.1.1) ∧ W.cell? ⟨gs, 1, none⟩ = some (.slice Ps s.1.2.length cs) ∧ W.cell? ⟨gs, 2, none⟩ = some (.slice Bs s.2.length ds) ∧ W.cell? ⟨gt, 0, none⟩ = some (.bool t.1.1) ∧ W.cell? ⟨gt, 1, none⟩ = some (.slice Pt t.1.2.length ct) ∧ W.cell? ⟨gt, 2, none⟩ = some (.slice Bt t.2.length dt) ∧ W.cell? ⟨ge, 0, none⟩ = some (.bool e.1.1) ∧ W.cell? ⟨ge, 1, none⟩ = some (.slice Pe e.1.2.length ce) ∧ W.cell? ⟨ge, 2, none⟩ = some (.slice Be e.2.length de) ∧ Hid (Below w12.heap.size w12 W) from
        fun W hb => ⟨(kr.below hb).here.cell 0 _ rfl, (kr.below hb).here.cell 1 _ rfl, (kr.below hb).here.cell 2 _ rfl, (ks.below hb).here.cell 0 _ rfl, (ks.below hb).here.cell 1 _ rfl, (ks.below hb).here.cell 2 _ rfl, (kt.below hb).here.cell 0 _ rfl, (kt.below hb).here.cell 1 _ rfl, (kt.below hb).here.cell 2 _ rfl, (ke.below hb).here.cell 0 _ rfl, (ke.below hb).here.cell 1 _ rfl, (ke.below hb).here.cell 2 _ rfl, Lib.hid hb⟩)
      have BBF := Lib.hid (show ∀ W, Below w12.heap.size w12 W → Below w.heap.size w W from fun W hb => Below.next bb12 hb)
      have OFr := Lib.hid (show ∀ W, Below w12.heap.size w12 W → OwnQ (.agg #[.bool r.1.1, .slice Pr r.1.2.length cr, .slice Br r.2.length dr]) r W from fun W hb => (o_r.below hb).here)
      have OFs := Lib.hid (show ∀ W, Below w12.heap.size w12 W → OwnQ (.agg #[.bool s.1.1, .slice Ps s.1.2.length cs, .slice Bs s.2.length ds]) s W from fun W hb => (o_s.below hb).here)
      have OFt := Lib.hid (show ∀ W, Below w12.heap.size w12 W → OwnQ (.agg #[.bool t.1.1, .slice Pt t.1.2.length ct, .slice Bt t.2.length dt]) t W from fun W hb => (o_t.below hb).here)
      have OFe := Lib.hid (show ∀ W, Below w12.heap.size w12 W → OwnQ (.agg #[.bool e.1.1, .slice Pe e.1.2.length ce, .slice Be e.2.length de]) e W from fun W hb => (o_e.below hb).here)
      have kr_c0 := kr.here.cell 0 _ rfl
      have kr_c1 := kr.here.cell 1 _ rfl
      have kr_c2 := kr.here.cell 2 _ rfl
      have ks_c0 := ks.here.cell 0 _ rfl
      have ks_c1 := ks.here.cell 1 _ rfl
      have ks_c2 := ks.here.cell 2 _ rfl
      have kt_c0 := kt.here.cell 0 _ rfl
      have kt_c1 := kt.here.cell 1 _ rfl
      have kt_c2 := kt.here.cell 2 _ rfl
      have ke_c0 := ke.here.cell 0 _ rfl
      have ke_c1 := ke.here.cell 1 _ rfl
      have ke_c2 := ke.here.cell 2 _ rfl
      go_upto_region 16 with fail
      go_cut [2] (fun s1 wx => s1 = .bool true ∧ Below w12.heap.size w12 wx)
      case first => as_aux_lemma =>
        clear kr_c0 kr_c1 kr_c2 ks_c0 ks_c1 ks_c2 kt_c0 kt_c1 kt_c2 ke_c0 ke_c1 ke_c2
        have hord := HORD.out
        go_region_held3 (fun W => W.cell? ⟨gr, 0, none⟩ = some (.bool r.1.1) ∧ W.cell? ⟨gr, 1, none⟩ = some (.slice Pr r.1.2.length cr) ∧ W.cell? ⟨gr, 2, none⟩ = some (.slice Br r.2.length dr) ∧ W.cell? ⟨gs, 0, none⟩ = some (.bool s.1.1) ∧ W.cell? ⟨gs, 1, none⟩ = some (.slice Ps s.1.2.length cs) ∧ W.cell? ⟨gs, 2, none⟩ = some (.slice Bs s.2.length ds) ∧ W.cell? ⟨gt, 0, none⟩ = some (.bool t.1.1) ∧ W.cell? ⟨gt, 1, none⟩ = some (.slice Pt t.1.2.length ct) ∧ W.cell? ⟨gt, 2, none⟩ = some (.slice Bt t.2.length dt) ∧ W.cell? ⟨ge, 0, none⟩ = some (.bool e.1.1) ∧ W.cell? ⟨ge, 1, none⟩ = some (.slice Pe e.1.2.length ce) ∧ W.cell? ⟨ge, 2, none⟩ = some (.slice Be e.2.length de) ∧ Hid (Below w12.heap.size w12 W))
          ((refine KL.out _ ?_; (first | exact HB_m1.out | exact below_al HB_m1.out _ | exact HB_u1.out | exact below_al HB_u1.out _ | exact HB_v1.out | exact below_al HB_v1.out _ | exact HB_y1.out | exact below_al HB_y1.out _ | exact HB_e1.out | exact below_al HB_e1.out _ | exact HB_n1.out | exact below_al HB_n1.out _ | exact HB0.out | fail)))
          (first
            | (go_at_call 15; (have hBB := (‹_ ∧ _ ∧ _ ∧ _ ∧ _ ∧ _ ∧ _ ∧ _ ∧ _ ∧ _ ∧ _ ∧ _ ∧ Hid (Below w12.heap.size w12 _)›).2.2.2.2.2.2.2.2.2.2.2.2); (with_reducible refine (C_n.out _ _ (OFt.out _ hBB.out) (HS.out _ (BBF.out _ hBB.out))).mono ?_); rintro e w_n1 ⟨rfl, b_n1⟩; have HB_n1 := Lib.hid (Below.next hBB.out b_n1); (try (first | replace o_v1 := At.below o_v1 b_n1 | replace o_v1 := At.below (At.below o_v1 (below_al (Below.refl _ _) _)) b_n1)); clear hBB b_n1)
            | (go_at_call 10; (have hBB := (‹_ ∧ _ ∧ _ ∧ _ ∧ _ ∧ _ ∧ _ ∧ _ ∧ _ ∧ _ ∧ _ ∧ _ ∧ Hid (Below w12.heap.size w12 _)›).2.2.2.2.2.2.2.2.2.2.2.2); (with_reducible refine (C_er.out _ _ _ (OFe.out _ hBB.out) (OFr.out _ hBB.out) (HS.out _ (BBF.out _ hBB.out))).mono ?_); rintro e w_e1 ⟨rfl, b_e1⟩; have HB_e1 := Lib.hid (Below.next hBB.out b_e1); (try (first | replace o_v1 := At.below o_v1 b_e1 | replace o_v1 := At.below (At.below o_v1 (below_al (Below.refl _ _) _)) b_e1)); clear hBB b_e1)
            | (go_at_call 10; (have hBB := (‹_ ∧ _ ∧ _ ∧ _ ∧ _ ∧ _ ∧ _ ∧ _ ∧ _ ∧ _ ∧ _ ∧ _ ∧ Hid (Below w12.heap.size w12 _)›).2.2.2.2.2.2.2.2.2.2.2.2); (with_reducible refine (C_rs.out _ _ _ (OFr.out _ hBB.out) (OFs.out _ hBB.out) (HS.out _ (BBF.out _ hBB.out))).mono ?_); rintro e w_y1 ⟨rfl, b_y1⟩; have HB_y1 := Lib.hid (Below.next hBB.out b_y1); (try (first | replace o_v1 := At.below o_v1 b_y1 | replace o_v1 := At.below (At.below o_v1 (below_al (Below.refl _ _) _)) b_y1)); clear hBB b_y1)
            | (go_at_call 11; (have hBB := (‹_ ∧ _ ∧ _ ∧ _ ∧ _ ∧ _ ∧ _ ∧ _ ∧ _ ∧ _ ∧ _ ∧ _ ∧ Hid (Below w12.heap.size w12 _)›).2.2.2.2.2.2.2.2.2.2.2.2); (with_reducible refine (C_x.out _ _ _ (OFs.out _ hBB.out) (OFr.out _ hBB.out) (HS.out _ (BBF.out _ hBB.out))).mono ?_); rintro e w_v1 ⟨u_v1, S_v1, rfl, o_v1, l_v1, b_v1⟩; have HB_v1 := Lib.hid (Below.next hBB.out b_v1); obtain ⟨Pv1, cv1, Bv1, dv1, rfl⟩ := ownQ_form o_v1.here; clear l_v1; clear hBB b_v1)
            | (go_at_call 16; (have hBB := (‹_ ∧ _ ∧ _ ∧ _ ∧ _ ∧ _ ∧ _ ∧ _ ∧ _ ∧ _ ∧ _ ∧ _ ∧ Hid (Below w12.heap.size w12 _)›).2.2.2.2.2.2.2.2.2.2.2.2); (with_reducible refine (must_any _ _ _ _ _ _ _ _).mono ?_); rintro e w_u1 ⟨rfl, b_u1⟩; have HB_u1 := Lib.hid (Below.next hBB.out b_u1); (try (first | replace o_v1 := At.below o_v1 b_u1 | replace o_v1 := At.below (At.below o_v1 (below_al (Below.refl _ _) _)) b_u1)); clear hBB b_u1)
            | (go_at_call 15; (have hBB := (‹_ ∧ _ ∧ _ ∧ _ ∧ _ ∧ _ ∧ _ ∧ _ ∧ _ ∧ _ ∧ _ ∧ _ ∧ Hid (Below w12.heap.size w12 _)›).2.2.2.2.2.2.2.2.2.2.2.2); (with_reducible refine (C_m.out _ _ (At.here o_v1) (HS.out _ (BBF.out _ hBB.out))).mono ?_); rintro e w_m1 ⟨rfl, b_m1⟩; have HB_m1 := Lib.hid (Below.next hBB.out b_m1); (try (first | replace o_v1 := At.below o_v1 b_m1 | replace o_v1 := At.below (At.below o_v1 (below_al (Below.refl _ _) _)) b_m1)); clear hBB b_m1))
        all_goals (go_wp2_with fail; go_meet; exact ⟨rfl, HB_m1.out⟩)
      rename World => w13
      obtain ⟨rfl, b13⟩ := hcut
      have bb13 := Below.next bb12 b13
      clear kr_c0 kr_c1 kr_c2 ks_c0 ks_c1 ks_c2 kt_c0 kt_c1 kt_c2 ke_c0 ke_c1 ke_c2
      clear HB0 KL BBF OFr OFs OFt OFe
      replace kr := kr.below b13
      replace ks := ks.below b13
      replace kt := kt.below b13
      replace o_r := o_r.below b13
      replace o_s := o_s.below b13
      replace o_t := o_t.below b13
      replace kp := kp.below b13
      replace o_p := o_p.below b13
      replace ke := ke.below b13
      replace o_e := o_e.below b13
      go_wp2
      go_ret
      exact ⟨rfl, bb13⟩
    · clear hn0
      have C_e := qdiv_c Z6.out Z3.out hdv
      have C_er := qcmp_c hze Z1.out her
      clear hdv HNR DV
      have kp_c0 := kp.here.cell 0 _ rfl
      have kp_c1 := kp.here.cell 1 _ rfl
      have kp_c2 := kp.here.cell 2 _ rfl
      have kt_c0 := kt.here.cell 0 _ rfl
      have kt_c1 := kt.here.cell 1 _ rfl
      have kt_c2 := kt.here.cell 2 _ rfl
      go_upto_region 15 with fail
      go_cut [20, 21] (fun s1 s2 wx => NewLocV 27 (fun v => OwnQ v e) w11 s1 wx ∧ s2 = .bool true)
      case first => as_aux_lemma =>
        go_wp2_with fail
        refine (C_e.out _ _ _ o_p.here o_t.here (HS.out _ bb11)).mono ?_
        rintro e wf ⟨uf, Sf, rfl, of, lf, bf⟩
        obtain ⟨Af, cf, Bf, df, rfl⟩ := ownQ_form of.here
        go_wp2_with fail
        go_meet
        exact ⟨newLocV_last of lf (Nat.le_refl _) bf, rfl⟩
      rename World => w12
      clear kp_c0 kp_c1 kp_c2 kt_c0 kt_c1 kt_c2
      obtain ⟨⟨ge, cse, Se, rfl, ke, o_e, n_e, l_e, b12⟩, rfl⟩ := hcut
      clear n_e l_e
      obtain ⟨Pe, ce, Be, de, ee⟩ := ownQ_form o_e.here
      injection ee with ee
      subst ee
      have bb12 := Below.next bb11 b12
      replace kr := kr.below b12
      replace ks := ks.below b12
      replace kt := kt.below b12
      replace o_r := o_r.below b12
      replace o_s := o_s.below b12
      replace o_t := o_t.below b12
      replace kp := kp.below b12
      replace o_p := o_p.below b12
      have HB0 := Lib.hid (show Below w12.heap.size w12 w12.drew from (Below.refl _ _).drew)
      have KL := Lib.hid (show ∀ W, Below w12.heap.size w12 W → W.cell? ⟨gr, 0, none⟩ = some (.bool r.1.1) ∧ W.cell? ⟨gr, 1, none⟩ = some (.slice Pr r.1.2.length cr) ∧ W.cell? ⟨gr, 2, none⟩ = some (.slice Br r.2.length dr) ∧ W.cell? ⟨gs, 0, none⟩ = some (.bool s.1.1) ∧ W.cell? ⟨gs, 1, none⟩ = some (.slice Ps s.1.2.length cs) ∧ W.cell? ⟨gs, 2, none⟩ = some (.slice Bs s.2.length ds) ∧ W.cell? ⟨gt, 0, none⟩ = some (.bool t.1.1) ∧ W.cell? ⟨gt, 1, none⟩ = some (.slice Pt t.1.2.length ct) ∧ W.cell? ⟨gt, 2, none⟩ = some (.slice Bt t.2.length dt) ∧ W.cell? ⟨ge, 0, none⟩ = some (.bool e.1.1) ∧ W.cell? ⟨ge, 1, none⟩ = some (.slice Pe e.1.2.length ce) ∧ W.cell? ⟨ge, 2, none⟩ = some (.slice Be e.2.length de) ∧ Hid (Below w12.heap.size w12 W) from
        fun W hb => ⟨(kr.below hb).here.cell 0 _ rfl, (kr.below hb).here.cell 1 _ rfl, (kr.below hb).here.cell 2 _ rfl, (ks.below hb).here.cell 0 _ rfl, (ks.below hb).here.cell 1 _ rfl, (ks.below hb).here.cell 2 _ rfl, (kt.below hb).here.cell 0 _ rfl, (kt.below hb).here.cell 1 _ rfl, (kt.below hb).here.cell 2 _ rfl, (ke.below hb).here.cell 0 _ rfl, (ke.below hb).here.cell 1 _ rfl, (ke.below hb).here.cell 2 _ rfl, Lib.hid hb⟩)
      have BBF := Lib.hid (show ∀ W, Below w12.heap.size w12 W → Below w.heap.size w W from fun W hb => Below.next bb12 hb)
      have OFr := Lib.hid (show ∀ W, Below w12.heap.size w12 W → OwnQ (.agg #[.bool r.1.1, .slice Pr r.1.2.length cr, .slice Br r.2.length dr]) r W from fun W hb => (o_r.below hb).here)
      have OFs := Lib.hid (show ∀ W, Below w12.heap.size w12 W → OwnQ (.agg #[.bool s.1.1, .slice Ps s.1.2.length cs, .slice Bs s.2.length ds]) s W from fun W hb => (o_s.below hb).here)
      have OFt := Lib.hid (show ∀ W, Below w12.heap.size w12 W → OwnQ (.agg #[.bool t.1.1, .slice Pt t.1.2.length ct, .slice Bt t.2.length dt]) t W from fun W hb => (o_t.below hb).here)
      have OFe := Lib.hid (show ∀ W, Below w12.heap.size w12 W → OwnQ (.agg #[.bool e.1.1, .slice Pe e.1.2.length ce, .slice Be e.2.length de]) e W from fun W hb => (o_e.below hb).here)
      have kr_c0 := kr.here.cell 0 _ rfl
      have kr_c1 := kr.here.cell 1 _ rfl
      have kr_c2 := kr.here.cell 2 _ rfl
      have ks_c0 := ks.here.cell 0 _ rfl
      have ks_c1 := ks.here.cell 1 _ rfl
      have ks_c2 := ks.here.cell 2 _ rfl
      have kt_c0 := kt.here.cell 0 _ rfl
      have kt_c1 := kt.here.cell 1 _ rfl
      have kt_c2 := kt.here.cell 2 _ rfl
      have ke_c0 := ke.here.cell 0 _ rfl
      have ke_c1 := ke.here.cell 1 _ rfl
      have ke_c2 := ke.here.cell 2 _ rfl
      go_upto_region 16 with fail
      go_cut [2] (fun s1 wx => s1 = .bool true ∧ Below w12.heap.size w12 wx)
      case first => as_aux_lemma =>
        clear kr_c0 kr_c1 kr_c2 ks_c0 ks_c1 ks_c2 kt_c0 kt_c1 kt_c2 ke_c0 ke_c1 ke_c2
        have hord := HORD.out
        go_region_held3 (fun W => W.cell? ⟨gr, 0, none⟩ = some (.bool r.1.1) ∧ W.cell? ⟨gr, 1, none⟩ = some (.slice Pr r.1.2.length cr) ∧ W.cell? ⟨gr, 2, none⟩ = some (.slice Br r.2.length dr) ∧ W.cell? ⟨gs, 0, none⟩ = some (.bool s.1.1) ∧ W.cell? ⟨gs, 1, none⟩ = some (.slice Ps s.1.2.length cs) ∧ W.cell? ⟨gs, 2, none⟩ = some (.slice Bs s.2.length ds) ∧ W.cell? ⟨gt, 0, none⟩ = some (.bool t.1.1) ∧ W.cell? ⟨gt, 1, none⟩ = some (.slice Pt t.1.2.length ct) ∧ W.cell? ⟨gt, 2, none⟩ = some (.slice Bt t.2.length dt) ∧ W.cell? ⟨ge, 0, none⟩ = some (.bool e.1.1) ∧ W.cell? ⟨ge, 1, none⟩ = some (.slice Pe e.1.2.length ce) ∧ W.cell? ⟨ge, 2, none⟩ = some (.slice Be e.2.length de) ∧ Hid (Below w12.heap.size w12 W))
          ((refine KL.out _ ?_; (first | exact HB_m1.out | exact below_al HB_m1.out _ | exact HB_u1.out | exact below_al HB_u1.out _ | exact HB_v1.out | exact below_al HB_v1.out _ | exact HB_y1.out | exact below_al HB_y1.out _ | exact HB_e1.out | exact below_al HB_e1.out _ | exact HB_n1.out | exact below_al HB_n1.out _ | exact HB0.out | fail)))
          (first
            | (go_at_call 15; (have hBB := (‹_ ∧ _ ∧ _ ∧ _ ∧ _ ∧ _ ∧ _ ∧ _ ∧ _ ∧ _ ∧ _ ∧ _ ∧ Hid (Below w12.heap.size w12 _)›).2.2.2.2.2.2.2.2.2.2.2.2); (with_reducible refine (C_n.out _ _ (OFt.out _ hBB.out) (HS.out _ (BBF.out _ hBB.out))).mono ?_); rintro e w_n1 ⟨rfl, b_n1⟩; have HB_n1 := Lib.hid (Below.next hBB.out b_n1); (try (first | replace o_v1 := At.below o_v1 b_n1 | replace o_v1 := At.below (At.below o_v1 (below_al (Below.refl _ _) _)) b_n1)); clear hBB b_n1)
            | (go_at_call 10; (have hBB := (‹_ ∧ _ ∧ _ ∧ _ ∧ _ ∧ _ ∧ _ ∧ _ ∧ _ ∧ _ ∧ _ ∧ _ ∧ Hid (Below w12.heap.size w12 _)›).2.2.2.2.2.2.2.2.2.2.2.2); (with_reducible refine (C_er.out _ _ _ (OFe.out _ hBB.out) (OFr.out _ hBB.out) (HS.out _ (BBF.out _ hBB.out))).mono ?_); rintro e w_e1 ⟨rfl, b_e1⟩; have HB_e1 := Lib.hid (Below.next hBB.out b_e1); (try (first | replace o_v1 := At.below o_v1 b_e1 | replace o_v1 := At.below (At.below o_v1 (below_al (Below.refl _ _) _)) b_e1)); clear hBB b_e1)
            | (go_at_call 10; (have hBB := (‹_ ∧ _ ∧ _ ∧ _ ∧ _ ∧ _ ∧ _ ∧ _ ∧ _ ∧ _ ∧ _ ∧ _ ∧ Hid (Below w12.heap.size w12 _)›).2.2.2.2.2.2.2.2.2.2.2.2); (with_reducible refine (C_rs.out _ _ _ (OFr.out _ hBB.out) (OFs.out _ hBB.out) (HS.out _ (BBF.out _ hBB.out))).mono ?_); rintro e w_y1 ⟨rfl, b_y1⟩; have HB_y1 := Lib.hid (Below.next hBB.out b_y1); (try (first | replace o_v1 := At.below o_v1 b_y1 | replace o_v1 := At.below (At.below o_v1 (below_al (Below.refl _ _) _)) b_y1)); clear hBB b_y1)
            | (go_at_call 11; (have hBB := (‹_ ∧ _ ∧ _ ∧ _ ∧ _ ∧ _ ∧ _ ∧ _ ∧ _ ∧ _ ∧ _ ∧ _ ∧ Hid (Below w12.heap.size w12 _)›).2.2.2.2.2.2.2.2.2.2.2.2); (with_reducible refine (C_x.out _ _ _ (OFs.out _ hBB.out) (OFr.out _ hBB.out) (HS.out _ (BBF.out _ hBB.out))).mono ?_); rintro e w_v1 ⟨u_v1, S_v1, rfl, o_v1, l_v1, b_v1⟩; have HB_v1 := Lib.hid (Below.next hBB.out b_v1); obtain ⟨Pv1, cv1, Bv1, dv1, rfl⟩ := ownQ_form o_v1.here; clear l_v1; clear hBB b_v1)
            | (go_at_call 16; (have hBB := (‹_ ∧ _ ∧ _ ∧ _ ∧ _ ∧ _ ∧ _ ∧ _ ∧ _ ∧ _ ∧ _ ∧ _ ∧ Hid (Below w12.heap.size w12 _)›).2.2.2.2.2.2.2.2.2.2.2.2); (with_reducible refine (must_any _ _ _ _ _ _ _ _).mono ?_); rintro e w_u1 ⟨rfl, b_u1⟩; have HB_u1 := Lib.hid (Below.next hBB.out b_u1); (try (first | replace o_v1 := At.below o_v1 b_u1 | replace o_v1 := At.below (At.below o_v1 (below_al (Below.refl _ _) _)) b_u1)); clear hBB b_u1)
            | (go_at_call 15; (have hBB := (‹_ ∧ _ ∧ _ ∧ _ ∧ _ ∧ _ ∧ _ ∧ _ ∧ _ ∧ _ ∧ _ ∧ _ ∧ Hid (Below w12.heap.size w12 _)›).2.2.2.2.2.2.2.2.2.2.2.2); (with_reducible refine (C_m.out _ _ (At.here o_v1) (HS.out _ (BBF.out _ hBB.out))).mono ?_); rintro e w_m1 ⟨rfl, b_m1⟩; have HB_m1 := Lib.hid (Below.next hBB.out b_m1); (try (first | replace o_v1 := At.below o_v1 b_m1 | replace o_v1 := At.below (At.below o_v1 (below_al (Below.refl _ _) _)) b_m1)); clear hBB b_m1))
        all_goals (go_wp2_with fail; go_meet; exact ⟨rfl, HB_m1.out⟩)
      rename World => w13
      obtain ⟨rfl, b13⟩ := hcut
      have bb13 := Below.next bb12 b13
      clear kr_c0 kr_c1 kr_c2 ks_c0 ks_c1 ks_c2 kt_c0 kt_c1 kt_c2 ke_c0 ke_c1 ke_c2
      clear HB0 KL BBF OFr OFs OFt OFe
      replace kr := kr.below b13
      replace ks := ks.below b13
      replace kt := kt.below b13
      replace o_r := o_r.below b13
      replace o_s := o_s.below b13
      replace o_t := o_t.below b13
      replace kp := kp.below b13
      replace o_p := o_p.below b13
      replace ke := ke.below b13
      replace o_e := o_e.below b13
      go_wp2
      go_ret
      exact ⟨rfl, bb13⟩
theorem lawRat (v : Value) (bs : List Nat) (w : World) (hb : ∀ b ∈ bs, b < 256) (hm : bs.length ≤ 9223372036854775807) (hr : Row w 0 w.heap.size v (bytesV bs)) (ht : Tab w) (hs : Sen w) :
    Calls Tryz.prog 3 #[v] w fun e w' => e = .returned (.bool true) ∧ Below w.heap.size w w' := by
  by_cases hn : bs.length ≤ 1048576
  · exact lawRat_small v bs w hb hn hr ht hs
  · obtain ⟨A0, c0, rfl, _⟩ := hr
    have hlen : (bytesV bs).length = bs.length := by simp [bytesV]
    rw [hlen]
    go_enter Tryz.func3, Tryz.ntmps3
    go_wp2
    go_ret
    exact ⟨rfl, Below.refl _ _⟩
end Go.Proofs.YtkkdlgiilhngcaaGreatDoor
