/-
  The law FnDec, walked over the contracts of package impl.
-/
import Derived.Test.YtbfolegllhpkjaaGreatDoorFnDecBaseJ
import Derived.Test.YtbfolegllhpkjaaGreatDoorTwoBox
import Derived.Deep.RegionHeld3
import Derived.Deep.DeepCutAuto
import Derived.IntWalk
namespace Go.Proofs.YtbfolegllhpkjaaGreatDoor
open Go.RowKit

theorem addQ_szD (x y : QI) : szQ (addQ x y).1 ≤ 1048576 := by unfold addQ; split; exact lowQ_sz _ _ _; decide
theorem mulQ_szD (x y : QI) : szQ (mulQ x y).1 ≤ 1048576 := by unfold mulQ; split; exact lowQ_sz _ _ _; decide
set_option maxHeartbeats 400000 in
set_option maxRecDepth 100000 in
theorem must_anyD (n : Bool) (P B : Option Addr) (l c m d : Nat) (w : World) : Calls Tryz.prog 15 #[.agg #[.bool n, .slice P l c, .slice B m d], .bool true] w fun e w' => e = .returned (.agg #[.bool n, .slice P l c, .slice B m d]) ∧ Below w.heap.size w w' := by
  have bb0 : Below w.heap.size w ((w.alloc (.cells #[.bool n, .slice P l c, .slice B m d] 37)).alloc (.cells #[.bool false, .slice none 0 0, .slice none 0 0] 37)) := below_al (below_al (Below.refl _ _) _) _
  have kr := (box_new w #[.bool n, .slice P l c, .slice B m d] 37).below (below_al (Below.refl _ _) (.cells #[.bool false, .slice none 0 0, .slice none 0 0] 37))
  have kr0 := kr.here.cell 0 _ rfl
  have kr1 := kr.here.cell 1 _ rfl
  have kr2 := kr.here.cell 2 _ rfl
  clear kr
  go_enter Tryz.func15, Tryz.ntmps15
  go_wp2
  refine bodyPost_ret (v := .agg #[.bool n, .slice P l c, .slice B m d]) (by simp [results, Tryz.results15, go_sem]) rfl ?_
  exact ⟨rfl, below_al (below_al (Below.refl _ _) _) _⟩
set_option maxHeartbeats 40000000 in
set_option maxRecDepth 100000 in
theorem lawDec_small (v : Value) (bs : List Nat) (w : World) (hb : ∀ b ∈ bs, b < 256) (hn : bs.length ≤ 1048576) (hr : Row w 0 w.heap.size v (bytesV bs)) (ht : Tab w) (hs : Sen w) :
    Calls Tryz.prog 3 #[v] w fun e w' => e = .returned (.bool true) ∧ Below w.heap.size w w' := by
  have HB := Lib.hid hb
  clear hb
  have hr0 := hr
  obtain ⟨A0, c0, rfl, _⟩ := hr
  have hlen : (bytesV bs).length = bs.length := by simp [bytesV]
  rw [hlen] at hr0 ⊢
  clear hlen
  have HRB := Lib.hid (show ∀ W, Below w.heap.size w W → Row W 0 W.heap.size (.slice A0 bs.length c0) (bytesV bs) from fun W h => (hr0.below h (Nat.le_refl _)).wide (Nat.le_refl _) h.size)
  have HT := Lib.hid (show ∀ W, Below w.heap.size w W → Tab W from fun W h => ht.below h)
  have HS := Lib.hid (show ∀ W, Below w.heap.size w W → Sen W from fun W h => hs.below h)
  clear hr0 ht hs
  go_enter Tryz.func3, Tryz.ntmps3
  go_upto_region 3 with fail
  go_cut [3, 4] (fun s1 s2 wx => ∃ (gd gf : Nat) (cd cf : Array Value) (d f : DI) (Sd Sf : List Nat), s1 = .pointer (some ⟨gd, 0, none⟩) ∧ s2 = .pointer (some ⟨gf, 0, none⟩) ∧ Hid (ShortD d ∧ ShortD f) ∧ At [gd] (BoxAt gd cd 27) wx ∧ At [gf] (BoxAt gf cf 27) wx ∧ At Sd (OwnD (.agg cd) d) wx ∧ At Sf (OwnD (.agg cf) f) wx ∧ Below w.heap.size w wx)
  case first =>
    go_wp2_with fail
    refine (makeDecs_any _ bs _ HB.out hn (HRB.out _ (Below.refl _ _))).mono ?_
    rintro e w1 ⟨u0, u1, d, f, Sd, Sf, rfl, hbd, hbf, o_d, o_f, b1⟩
    obtain ⟨Pd, cd, rfl⟩ := ownD_form o_d.here
    obtain ⟨Pf, cf, rfl⟩ := ownD_form o_f.here
    have HBD := Lib.hid (show ShortD d ∧ ShortD f from ⟨hbd, hbf⟩)
    clear hbd hbf
    go_wp2_with fail
    go_meet
    have l1 := below_al (Below.refl w1.heap.size w1) (.cells #[.bool d.1.1, .slice Pd d.1.2.length cd, .int .i64 d.2] 27)
    have k1 := box_new w1 #[.bool d.1.1, .slice Pd d.1.2.length cd, .int .i64 d.2] 27
    have l2 := below_al (Below.refl _ (w1.alloc (.cells #[.bool d.1.1, .slice Pd d.1.2.length cd, .int .i64 d.2] 27))) (.cells #[.bool f.1.1, .slice Pf f.1.2.length cf, .int .i64 f.2] 27)
    have k2 := box_new (w1.alloc (.cells #[.bool d.1.1, .slice Pd d.1.2.length cd, .int .i64 d.2] 27)) #[.bool f.1.1, .slice Pf f.1.2.length cf, .int .i64 f.2] 27
    rw [show (w1.alloc (.cells #[.bool d.1.1, .slice Pd d.1.2.length cd, .int .i64 d.2] 27)).heap.size = w1.heap.size + 1 by simp] at k2
    exact ⟨_, _, _, _, d, f, Sd, Sf, rfl, rfl, HBD, k1.below l2, k2, (o_d.below l1).below l2, (o_f.below l1).below l2, Below.next (Below.next b1 l1) l2⟩
  rename World => w1
  obtain ⟨gd, gf, csd, csf, d, f, Sd, Sf, rfl, rfl, HBD, kd, kf, o_d, o_f, bb1⟩ := hcut
  obtain ⟨Pd, cd, qd⟩ := ownD_form o_d.here
  injection qd with qd
  subst qd
  obtain ⟨Pf, cf, qf⟩ := ownD_form o_f.here
  injection qf with qf
  subst qf
  obtain ⟨s, m, HA⟩ := dec_all HBD.out.1 HBD.out.2
  have ld : d.1.2.length ≤ 1048576 := by have := (partsD HA.okd).len; omega
  have lf : f.1.2.length ≤ 1048576 := by have := (partsD HA.oke).len; omega
  have ls : s.1.2.length ≤ 1048576 := by have := (partsD HA.oks).len; omega
  have lm : m.1.2.length ≤ 1048576 := by have := (partsD HA.okm).len; omega
  have ll : (lowD d).1.2.length ≤ 1048576 := by have := (partsD HA.lo).len; omega
  have lt : (subD s f).1.1.2.length ≤ 1048576 := by have := (partsD HA.okt).len; omega
  have q1 := ratD_sz d
  have q2 := ratD_sz f
  have q3 := ratD_sz s
  have q4 := ratD_sz m
  have q5 := addQ_szD (ratD d) (ratD f)
  have q6 := mulQ_szD (ratD d) (ratD f)
  have htr : trD (textD d) = (d, true) := trD_text HA.okd
  have hts : (textD d).size ≤ 1048576 := by have := textD_size d; omega
  have eal := HA.loat
  have ecl := HA.locmp
  have ecs := HA.self
  have eas := HA.es
  have eam := HA.em
  have eat := HA.et
  have ect := HA.tcmp
  have eqa := HA.ea
  have eqm := HA.ep
  have ecq := HA.scmp
  have ecm := HA.mcmp
  have ecd := HA.decmp
  have hlo := HA.lohi
  clear HA HBD
  have hDL : ∀ (u : Value) (W : World), OwnD u d W → Sen W → Calls Tryz.prog 7 #[u] W (NewV (fun v => OwnD v (lowD d)) W) := fun u W h1 h2 => implDecLow_any u d W ld h1 h2
  have hRD : ∀ (u : Value) (W : World), OwnD u d W → Sen W → Calls Tryz.prog 10 #[u] W (NewV (fun v => OwnQ v (ratD d)) W) := fun u W h1 h2 => implDecRat_any u d W ld h1 h2
  have hRE : ∀ (u : Value) (W : World), OwnD u f W → Sen W → Calls Tryz.prog 10 #[u] W (NewV (fun v => OwnQ v (ratD f)) W) := fun u W h1 h2 => implDecRat_any u f W lf h1 h2
  have hRS : ∀ (u : Value) (W : World), OwnD u s W → Sen W → Calls Tryz.prog 10 #[u] W (NewV (fun v => OwnQ v (ratD s)) W) := fun u W h1 h2 => implDecRat_any u s W ls h1 h2
  have hRM : ∀ (u : Value) (W : World), OwnD u m W → Sen W → Calls Tryz.prog 10 #[u] W (NewV (fun v => OwnQ v (ratD m)) W) := fun u W h1 h2 => implDecRat_any u m W lm h1 h2
  have hTX : ∀ (u : Value) (W : World), OwnD u d W → Tab W → Calls Tryz.prog 6 #[u] W (PostT (textD d) W) := fun u W h1 h2 => implDecText_any u d W ld h1 h2
  have hTR : ∀ (W : World), Tab W → Calls Tryz.prog 5 #[.string (textD d)] W (PostDb d true W) := fun W h2 => by have h := implTextDec_any (textD d) W hts h2; rw [htr] at h; exact h
  clear htr hts
  generalize lowD d = L at *
  generalize ratD d = RD at *
  generalize ratD f = RE at *
  generalize ratD s = RS at *
  generalize ratD m = RM at *
  generalize textD d = X at *
  generalize hT : (subD s f).1 = T at *
  generalize hA1 : (addQ RD RE).1 = A1 at *
  generalize hP1 : (mulQ RD RE).1 = P1 at *
  generalize hc : cmpD d f = c at *
  have C_tx := Lib.hid (show ∀ (u0 : Value) (W : World), OwnD u0 d W → Sen W → Tab W → Calls Tryz.prog 6 #[u0] W (PostT X W) from fun u0 W h0 hs ht => hTX u0 W h0 ht)
  have C_rd := Lib.hid (show ∀ (W : World), Sen W → Tab W → Calls Tryz.prog 5 #[.string X] W (PostDb d true W) from fun W hs ht => hTR W ht)
  have C_lo := Lib.hid (show ∀ (u0 : Value) (W : World), OwnD u0 d W → Sen W → Tab W → Calls Tryz.prog 7 #[u0] W (NewV (fun v => OwnD v L) W) from fun u0 W h0 hs ht => hDL u0 W h0 hs)
  have C_at := Lib.hid (show ∀ (u0 : Value) (W : World), OwnD u0 L W → Sen W → Tab W → Calls Tryz.prog 8 #[u0, .int .i64 d.2] W (PostDb d true W) from fun u0 W h0 hs ht => (implDecAt_any u0 L d.2 W ll h0 hs).mono fun _ _ h => postDb_is eal h)
  have C_xd := Lib.hid (show ∀ (u0 : Value) (u1 : Value) (W : World), OwnD u0 d W → OwnD u1 d W → Sen W → Tab W → Calls Tryz.prog 9 #[u0, u1] W (Postn 0 W) from fun u0 u1 W h0 h1 hs ht => (implDecCmp_any u0 u1 d d W ld ld h0 h1).mono fun _ _ h => postn_eqD ecs h)
  have C_ld := Lib.hid (show ∀ (u0 : Value) (u1 : Value) (W : World), OwnD u0 L W → OwnD u1 d W → Sen W → Tab W → Calls Tryz.prog 9 #[u0, u1] W (Postn 0 W) from fun u0 u1 W h0 h1 hs ht => (implDecCmp_any u0 u1 L d W ll ld h0 h1).mono fun _ _ h => postn_eqD ecl h)
  have C_td := Lib.hid (show ∀ (u0 : Value) (u1 : Value) (W : World), OwnD u0 T W → OwnD u1 d W → Sen W → Tab W → Calls Tryz.prog 9 #[u0, u1] W (Postn 0 W) from fun u0 u1 W h0 h1 hs ht => (implDecCmp_any u0 u1 T d W lt ld h0 h1).mono fun _ _ h => postn_eqD ect h)
  have C_df := Lib.hid (show ∀ (u0 : Value) (u1 : Value) (W : World), OwnD u0 d W → OwnD u1 f W → Sen W → Tab W → Calls Tryz.prog 9 #[u0, u1] W (Postn c W) from fun u0 u1 W h0 h1 hs ht => (implDecCmp_any u0 u1 d f W ld lf h0 h1).mono fun _ _ h => postn_eqD hc h)
  have C_s := Lib.hid (show ∀ (u0 : Value) (u1 : Value) (W : World), OwnD u0 d W → OwnD u1 f W → Sen W → Tab W → Calls Tryz.prog 11 #[u0, u1] W (PostDb s true W) from fun u0 u1 W h0 h1 hs ht => (implDecAdd_any u0 u1 d f W ld lf h0 h1).mono fun _ _ h => postDb_is eas h)
  have C_m := Lib.hid (show ∀ (u0 : Value) (u1 : Value) (W : World), OwnD u0 d W → OwnD u1 f W → Sen W → Tab W → Calls Tryz.prog 12 #[u0, u1] W (PostDb m true W) from fun u0 u1 W h0 h1 hs ht => (implDecMul_any u0 u1 d f W ld lf h0 h1).mono fun _ _ h => postDb_is eam h)
  have C_t := Lib.hid (show ∀ (u0 : Value) (u1 : Value) (W : World), OwnD u0 s W → OwnD u1 f W → Sen W → Tab W → Calls Tryz.prog 13 #[u0, u1] W (PostDb T true W) from fun u0 u1 W h0 h1 hs ht => (implDecSub_any u0 u1 s f W ls lf h0 h1).mono fun _ _ h => postDb_is eat h)
  have C_a := Lib.hid (show ∀ (u0 : Value) (W : World), OwnD u0 d W → Sen W → Tab W → Calls Tryz.prog 10 #[u0] W (NewV (fun v => OwnQ v RD) W) from fun u0 W h0 hs ht => hRD u0 W h0 hs)
  have C_b := Lib.hid (show ∀ (u0 : Value) (W : World), OwnD u0 f W → Sen W → Tab W → Calls Tryz.prog 10 #[u0] W (NewV (fun v => OwnQ v RE) W) from fun u0 W h0 hs ht => hRE u0 W h0 hs)
  have C_rs := Lib.hid (show ∀ (u0 : Value) (W : World), OwnD u0 s W → Sen W → Tab W → Calls Tryz.prog 10 #[u0] W (NewV (fun v => OwnQ v RS) W) from fun u0 W h0 hs ht => hRS u0 W h0 hs)
  have C_rm := Lib.hid (show ∀ (u0 : Value) (W : World), OwnD u0 m W → Sen W → Tab W → Calls Tryz.prog 10 #[u0] W (NewV (fun v => OwnQ v RM) W) from fun u0 W h0 hs ht => hRM u0 W h0 hs)
  have C_qa := Lib.hid (show ∀ (u0 : Value) (u1 : Value) (W : World), OwnQ u0 RD W → OwnQ u1 RE W → Sen W → Tab W → Calls Tryz.prog 16 #[u0, u1] W (PostQb A1 true W) from fun u0 u1 W h0 h1 hs ht => (implRatAdd_any u0 u1 RD RE W q1 q2 h0 h1 hs).mono fun _ _ h => postQb_isD eqa h)
  have C_qm := Lib.hid (show ∀ (u0 : Value) (u1 : Value) (W : World), OwnQ u0 RD W → OwnQ u1 RE W → Sen W → Tab W → Calls Tryz.prog 17 #[u0, u1] W (PostQb P1 true W) from fun u0 u1 W h0 h1 hs ht => (implRatMul_any u0 u1 RD RE W q1 q2 h0 h1 hs).mono fun _ _ h => postQb_isD eqm h)
  have C_cs := Lib.hid (show ∀ (u0 : Value) (u1 : Value) (W : World), OwnQ u0 RS W → OwnQ u1 A1 W → Sen W → Tab W → Calls Tryz.prog 14 #[u0, u1] W (Postn 0 W) from fun u0 u1 W h0 h1 hs ht => (implRatCmp_any u0 u1 RS A1 W q3 q5 h0 h1 hs).mono fun _ _ h => postn_eqD ecq h)
  have C_cm := Lib.hid (show ∀ (u0 : Value) (u1 : Value) (W : World), OwnQ u0 RM W → OwnQ u1 P1 W → Sen W → Tab W → Calls Tryz.prog 14 #[u0, u1] W (Postn 0 W) from fun u0 u1 W h0 h1 hs ht => (implRatCmp_any u0 u1 RM P1 W q4 q6 h0 h1 hs).mono fun _ _ h => postn_eqD ecm h)
  have C_cq := Lib.hid (show ∀ (u0 : Value) (u1 : Value) (W : World), OwnQ u0 RD W → OwnQ u1 RE W → Sen W → Tab W → Calls Tryz.prog 14 #[u0, u1] W (Postn c W) from fun u0 u1 W h0 h1 hs ht => (implRatCmp_any u0 u1 RD RE W q1 q2 h0 h1 hs).mono fun _ _ h => postn_eqD ecd.symm h)
  have HLS := Lib.hid hlo
  clear hDL hRD hRE hRS hRM hTX hTR eal ecl ecs eas eam eat ect eqa eqm ecq ecm ecd hlo hT hA1 hP1 hc q1 q2 q3 q4 q5 q6 ld lf ls lm ll lt
  have kd_c0 := kd.here.cell 0 _ rfl
  have kd_c1 := kd.here.cell 1 _ rfl
  have kd_c2 := kd.here.cell 2 _ rfl
  go_upto_region 4 with fail
  go_cut [5, 6] (fun s1 s2 wx => NewLocV 27 (fun v => OwnD v d) w1 s1 wx ∧ s2 = .bool true)
  case first => as_aux_lemma =>
    go_wp2_with fail
    refine (C_tx.out _ _ o_d.here (HS.out _ bb1) (HT.out _ bb1)).mono ?_
    rintro e wt ⟨rfl, bt⟩
    go_wp2_with fail
    refine (C_rd.out _ (HS.out _ (Below.next bb1 bt)) (HT.out _ (Below.next bb1 bt))).mono ?_
    rintro e wf ⟨uf, Sf_, rfl, of, lf, bf⟩
    obtain ⟨Pz, cz, rfl⟩ := ownD_form of.here
    go_wp2_with fail
    go_meet
    exact ⟨newLocV_last of lf bt.size (Below.next bt bf), rfl⟩
  rename World => w2
  clear kd_c0 kd_c1 kd_c2
  obtain ⟨⟨gx, csx, Sx, rfl, kx, o_x, n_x, l_x, b2⟩, rfl⟩ := hcut
  clear n_x l_x
  obtain ⟨Px, cx, qx⟩ := ownD_form o_x.here
  injection qx with qx
  subst qx
  have bb2 := Below.next bb1 b2
  replace kd := kd.below b2
  replace kf := kf.below b2
  replace o_d := o_d.below b2
  replace o_f := o_f.below b2
  have kd_c0 := kd.here.cell 0 _ rfl
  have kd_c1 := kd.here.cell 1 _ rfl
  have kd_c2 := kd.here.cell 2 _ rfl
  go_upto_region 5 with fail
  go_cut [7] (fun s1 wx => NewLocV 27 (fun v => OwnD v L) w2 s1 wx)
  case first => as_aux_lemma =>
    go_wp2_with fail
    refine (C_lo.out _ _ o_d.here (HS.out _ bb2) (HT.out _ bb2)).mono ?_
    rintro e wf ⟨uf, Sf_, rfl, of, lf, bf⟩
    obtain ⟨Pz, cz, rfl⟩ := ownD_form of.here
    go_wp2_with fail
    go_meet
    exact newLocV_last of lf (Nat.le_refl _) bf
  rename World => w3
  clear kd_c0 kd_c1 kd_c2
  obtain ⟨gl, csl, Sl, rfl, kl, o_l, n_l, l_l, b3⟩ := hcut
  clear n_l l_l
  obtain ⟨Pl, cl, ql⟩ := ownD_form o_l.here
  injection ql with ql
  subst ql
  have bb3 := Below.next bb2 b3
  replace kd := kd.below b3
  replace kf := kf.below b3
  replace o_d := o_d.below b3
  replace o_f := o_f.below b3
  replace kx := kx.below b3
  replace o_x := o_x.below b3
  have kl_c0 := kl.here.cell 0 _ rfl
  have kl_c1 := kl.here.cell 1 _ rfl
  have kl_c2 := kl.here.cell 2 _ rfl
  have kd_c0 := kd.here.cell 0 _ rfl
  have kd_c1 := kd.here.cell 1 _ rfl
  have kd_c2 := kd.here.cell 2 _ rfl
  go_upto_region 6 with fail
  go_cut [8, 9] (fun s1 s2 wx => NewLocV 27 (fun v => OwnD v d) w3 s1 wx ∧ s2 = .bool true)
  case first => as_aux_lemma =>
    go_wp2_with fail
    refine (C_at.out _ _ o_l.here (HS.out _ bb3) (HT.out _ bb3)).mono ?_
    rintro e wf ⟨uf, Sf_, rfl, of, lf, bf⟩
    obtain ⟨Pz, cz, rfl⟩ := ownD_form of.here
    go_wp2_with fail
    go_meet
    exact ⟨newLocV_last of lf (Nat.le_refl _) bf, rfl⟩
  rename World => w4
  clear kl_c0 kl_c1 kl_c2 kd_c0 kd_c1 kd_c2
  obtain ⟨⟨gy, csy, Sy, rfl, ky, o_y, n_y, l_y, b4⟩, rfl⟩ := hcut
  clear n_y l_y
  obtain ⟨Py, cy, qy⟩ := ownD_form o_y.here
  injection qy with qy
  subst qy
  have bb4 := Below.next bb3 b4
  replace kd := kd.below b4
  replace kf := kf.below b4
  replace o_d := o_d.below b4
  replace o_f := o_f.below b4
  replace kx := kx.below b4
  replace o_x := o_x.below b4
  replace kl := kl.below b4
  replace o_l := o_l.below b4
  have HB0 := Lib.hid (show Below w4.heap.size w4 w4.drew from (Below.refl _ _).drew)
  have KL := Lib.hid (show ∀ W, Below w4.heap.size w4 W → W.cell? ⟨gd, 0, none⟩ = some (.bool d.1.1) ∧ W.cell? ⟨gd, 1, none⟩ = some (.slice Pd d.1.2.length cd) ∧ W.cell? ⟨gd, 2, none⟩ = some (.int .i64 d.2) ∧ W.cell? ⟨gx, 0, none⟩ = some (.bool d.1.1) ∧ W.cell? ⟨gx, 1, none⟩ = some (.slice Px d.1.2.length cx) ∧ W.cell? ⟨gx, 2, none⟩ = some (.int .i64 d.2) ∧ W.cell? ⟨gy, 0, none⟩ = some (.bool d.1.1) ∧ W.cell? ⟨gy, 1, none⟩ = some (.slice Py d.1.2.length cy) ∧ W.cell? ⟨gy, 2, none⟩ = some (.int .i64 d.2) ∧ W.cell? ⟨gl, 0, none⟩ = some (.bool L.1.1) ∧ W.cell? ⟨gl, 1, none⟩ = some (.slice Pl L.1.2.length cl) ∧ W.cell? ⟨gl, 2, none⟩ = some (.int .i64 L.2) ∧ Hid (Below w4.heap.size w4 W) from
    fun W hb => ⟨(kd.below hb).here.cell 0 _ rfl, (kd.below hb).here.cell 1 _ rfl, (kd.below hb).here.cell 2 _ rfl, (kx.below hb).here.cell 0 _ rfl, (kx.below hb).here.cell 1 _ rfl, (kx.below hb).here.cell 2 _ rfl, (ky.below hb).here.cell 0 _ rfl, (ky.below hb).here.cell 1 _ rfl, (ky.below hb).here.cell 2 _ rfl, (kl.below hb).here.cell 0 _ rfl, (kl.below hb).here.cell 1 _ rfl, (kl.below hb).here.cell 2 _ rfl, Lib.hid hb⟩)
  have BBF := Lib.hid (show ∀ W, Below w4.heap.size w4 W → Below w.heap.size w W from fun W hb => Below.next bb4 hb)
  have OFd := Lib.hid (show ∀ W, Below w4.heap.size w4 W → OwnD (.agg #[.bool d.1.1, .slice Pd d.1.2.length cd, .int .i64 d.2]) d W from fun W hb => (o_d.below hb).here)
  have OFx := Lib.hid (show ∀ W, Below w4.heap.size w4 W → OwnD (.agg #[.bool d.1.1, .slice Px d.1.2.length cx, .int .i64 d.2]) d W from fun W hb => (o_x.below hb).here)
  have OFy := Lib.hid (show ∀ W, Below w4.heap.size w4 W → OwnD (.agg #[.bool d.1.1, .slice Py d.1.2.length cy, .int .i64 d.2]) d W from fun W hb => (o_y.below hb).here)
  have OFl := Lib.hid (show ∀ W, Below w4.heap.size w4 W → OwnD (.agg #[.bool L.1.1, .slice Pl L.1.2.length cl, .int .i64 L.2]) L W from fun W hb => (o_l.below hb).here)
  have kd_c0 := kd.here.cell 0 _ rfl
  have kd_c1 := kd.here.cell 1 _ rfl
  have kd_c2 := kd.here.cell 2 _ rfl
  have kx_c0 := kx.here.cell 0 _ rfl
  have kx_c1 := kx.here.cell 1 _ rfl
  have kx_c2 := kx.here.cell 2 _ rfl
  have ky_c0 := ky.here.cell 0 _ rfl
  have ky_c1 := ky.here.cell 1 _ rfl
  have ky_c2 := ky.here.cell 2 _ rfl
  have kl_c0 := kl.here.cell 0 _ rfl
  have kl_c1 := kl.here.cell 1 _ rfl
  have kl_c2 := kl.here.cell 2 _ rfl
  go_upto_region 7 with fail
  go_cut [79] (fun s1 wx => s1 = .bool false ∧ Below w4.heap.size w4 wx)
  case first => as_aux_lemma =>
    clear kd_c0 kd_c1 kd_c2 kx_c0 kx_c1 kx_c2 ky_c0 ky_c1 ky_c2 kl_c0 kl_c1 kl_c2
    have hls := HLS.out
    have hls2 : decide (d.2 < L.2) = false := decide_eq_false (by omega)
    clear hls
    go_region_held3 (fun W => W.cell? ⟨gd, 0, none⟩ = some (.bool d.1.1) ∧ W.cell? ⟨gd, 1, none⟩ = some (.slice Pd d.1.2.length cd) ∧ W.cell? ⟨gd, 2, none⟩ = some (.int .i64 d.2) ∧ W.cell? ⟨gx, 0, none⟩ = some (.bool d.1.1) ∧ W.cell? ⟨gx, 1, none⟩ = some (.slice Px d.1.2.length cx) ∧ W.cell? ⟨gx, 2, none⟩ = some (.int .i64 d.2) ∧ W.cell? ⟨gy, 0, none⟩ = some (.bool d.1.1) ∧ W.cell? ⟨gy, 1, none⟩ = some (.slice Py d.1.2.length cy) ∧ W.cell? ⟨gy, 2, none⟩ = some (.int .i64 d.2) ∧ W.cell? ⟨gl, 0, none⟩ = some (.bool L.1.1) ∧ W.cell? ⟨gl, 1, none⟩ = some (.slice Pl L.1.2.length cl) ∧ W.cell? ⟨gl, 2, none⟩ = some (.int .i64 L.2) ∧ Hid (Below w4.heap.size w4 W))
      ((refine KL.out _ ?_; (first | exact HB_c4.out | exact below_al HB_c4.out _ | exact HB_c3.out | exact below_al HB_c3.out _ | exact HB_c2.out | exact below_al HB_c2.out _ | exact HB_c1.out | exact below_al HB_c1.out _ | exact HB0.out | fail)))
      (first
        | (go_at_call 9; (have hBB := (‹_ ∧ _ ∧ _ ∧ _ ∧ _ ∧ _ ∧ _ ∧ _ ∧ _ ∧ _ ∧ _ ∧ _ ∧ Hid (Below w4.heap.size w4 _)›).2.2.2.2.2.2.2.2.2.2.2.2); (with_reducible refine (C_xd.out _ _ _ (OFx.out _ hBB.out) (OFd.out _ hBB.out) (HS.out _ (BBF.out _ hBB.out)) (HT.out _ (BBF.out _ hBB.out))).mono ?_); rintro e w_c1 ⟨rfl, b_c1⟩; have HB_c1 := Lib.hid (Below.next hBB.out b_c1); clear hBB b_c1)
        | (go_at_call 6; (have hBB := (‹_ ∧ _ ∧ _ ∧ _ ∧ _ ∧ _ ∧ _ ∧ _ ∧ _ ∧ _ ∧ _ ∧ _ ∧ Hid (Below w4.heap.size w4 _)›).2.2.2.2.2.2.2.2.2.2.2.2); (with_reducible refine (C_tx.out _ _ (OFy.out _ hBB.out) (HS.out _ (BBF.out _ hBB.out)) (HT.out _ (BBF.out _ hBB.out))).mono ?_); rintro e w_c2 ⟨rfl, b_c2⟩; have HB_c2 := Lib.hid (Below.next hBB.out b_c2); clear hBB b_c2)
        | (go_at_call 6; (have hBB := (‹_ ∧ _ ∧ _ ∧ _ ∧ _ ∧ _ ∧ _ ∧ _ ∧ _ ∧ _ ∧ _ ∧ _ ∧ Hid (Below w4.heap.size w4 _)›).2.2.2.2.2.2.2.2.2.2.2.2); (with_reducible refine (C_tx.out _ _ (OFd.out _ hBB.out) (HS.out _ (BBF.out _ hBB.out)) (HT.out _ (BBF.out _ hBB.out))).mono ?_); rintro e w_c3 ⟨rfl, b_c3⟩; have HB_c3 := Lib.hid (Below.next hBB.out b_c3); clear hBB b_c3)
        | (go_at_call 9; (have hBB := (‹_ ∧ _ ∧ _ ∧ _ ∧ _ ∧ _ ∧ _ ∧ _ ∧ _ ∧ _ ∧ _ ∧ _ ∧ Hid (Below w4.heap.size w4 _)›).2.2.2.2.2.2.2.2.2.2.2.2); (with_reducible refine (C_ld.out _ _ _ (OFl.out _ hBB.out) (OFd.out _ hBB.out) (HS.out _ (BBF.out _ hBB.out)) (HT.out _ (BBF.out _ hBB.out))).mono ?_); rintro e w_c4 ⟨rfl, b_c4⟩; have HB_c4 := Lib.hid (Below.next hBB.out b_c4); clear hBB b_c4))
    all_goals (go_wp2_with fail; go_meet; exact ⟨rfl, HB_c4.out⟩)
  rename World => w5
  obtain ⟨rfl, b5⟩ := hcut
  have bb5 := Below.next bb4 b5
  clear kd_c0 kd_c1 kd_c2 kx_c0 kx_c1 kx_c2 ky_c0 ky_c1 ky_c2 kl_c0 kl_c1 kl_c2
  clear HB0 KL BBF OFd OFx OFy OFl
  replace kd := kd.below b5
  replace kf := kf.below b5
  replace o_d := o_d.below b5
  replace o_f := o_f.below b5
  replace kx := kx.below b5
  replace o_x := o_x.below b5
  replace kl := kl.below b5
  replace o_l := o_l.below b5
  replace ky := ky.below b5
  replace o_y := o_y.below b5
  clear kx o_x kl o_l ky o_y C_tx C_rd C_lo C_at C_xd C_ld HLS
  have HB0 := Lib.hid (show Below w5.heap.size w5 w5.drew from (Below.refl _ _).drew)
  have KL := Lib.hid (show ∀ W, Below w5.heap.size w5 W → W.cell? ⟨gd, 0, none⟩ = some (.bool d.1.1) ∧ W.cell? ⟨gd, 1, none⟩ = some (.slice Pd d.1.2.length cd) ∧ W.cell? ⟨gd, 2, none⟩ = some (.int .i64 d.2) ∧ W.cell? ⟨gf, 0, none⟩ = some (.bool f.1.1) ∧ W.cell? ⟨gf, 1, none⟩ = some (.slice Pf f.1.2.length cf) ∧ W.cell? ⟨gf, 2, none⟩ = some (.int .i64 f.2) ∧ Hid (Below w5.heap.size w5 W) from
    fun W hb => ⟨(kd.below hb).here.cell 0 _ rfl, (kd.below hb).here.cell 1 _ rfl, (kd.below hb).here.cell 2 _ rfl, (kf.below hb).here.cell 0 _ rfl, (kf.below hb).here.cell 1 _ rfl, (kf.below hb).here.cell 2 _ rfl, Lib.hid hb⟩)
  have BBF := Lib.hid (show ∀ W, Below w5.heap.size w5 W → Below w.heap.size w W from fun W hb => Below.next bb5 hb)
  have OFd := Lib.hid (show ∀ W, Below w5.heap.size w5 W → OwnD (.agg #[.bool d.1.1, .slice Pd d.1.2.length cd, .int .i64 d.2]) d W from fun W hb => (o_d.below hb).here)
  have OFf := Lib.hid (show ∀ W, Below w5.heap.size w5 W → OwnD (.agg #[.bool f.1.1, .slice Pf f.1.2.length cf, .int .i64 f.2]) f W from fun W hb => (o_f.below hb).here)
  have kd_c0 := kd.here.cell 0 _ rfl
  have kd_c1 := kd.here.cell 1 _ rfl
  have kd_c2 := kd.here.cell 2 _ rfl
  have kf_c0 := kf.here.cell 0 _ rfl
  have kf_c1 := kf.here.cell 1 _ rfl
  have kf_c2 := kf.here.cell 2 _ rfl
  go_upto_region 9 with fail
  go_cut [10, 11] (fun s1 s2 wx => TwoLocV 37 (fun v => OwnQ v RD) (fun v => OwnQ v RE) w5 s1 s2 wx)
  case first => as_aux_lemma =>
    clear kd_c0 kd_c1 kd_c2 kf_c0 kf_c1 kf_c2
    have X0 := Lib.hid (show Bx (.bool false) (.slice none 0 0) (.slice none 0 0) 37 [] w5 w5.drew from Bx.nil_ HB0.out)
    go_region_held3 (fun W => W.cell? ⟨gd, 0, none⟩ = some (.bool d.1.1) ∧ W.cell? ⟨gd, 1, none⟩ = some (.slice Pd d.1.2.length cd) ∧ W.cell? ⟨gd, 2, none⟩ = some (.int .i64 d.2) ∧ W.cell? ⟨gf, 0, none⟩ = some (.bool f.1.1) ∧ W.cell? ⟨gf, 1, none⟩ = some (.slice Pf f.1.2.length cf) ∧ W.cell? ⟨gf, 2, none⟩ = some (.int .i64 f.2) ∧ Hid (Below w5.heap.size w5 W))
      ((refine KL.out _ ?_; (repeat (with_reducible refine Below.setCell ?_ (by first | exact Nat.le_refl _ | exact Nat.le_succ _ | (have := HB_b.out.size; have := HB_a.out.size; simp; omega) | (have := HB_a.out.size; simp; omega)) _)); (first | exact HB_b.out | exact below_al HB_b.out _ | exact below_al (below_al HB_b.out _) _ | exact HB_a.out | exact below_al HB_a.out _ | exact below_al (below_al HB_a.out _) _ | exact HB0.out | exact below_al HB0.out _ | exact below_al (below_al HB0.out _) _ | fail)))
      (first
        | (go_at_call 10; (have hBB := (‹_ ∧ _ ∧ _ ∧ _ ∧ _ ∧ _ ∧ Hid (Below w5.heap.size w5 _)›).2.2.2.2.2.2); (with_reducible refine (C_a.out _ _ (OFd.out _ hBB.out) (HS.out _ (BBF.out _ hBB.out)) (HT.out _ (BBF.out _ hBB.out))).mono ?_); rintro e w_a ⟨u_a, S_a, rfl, o_a, l_a, b_a⟩; have HB_a := Lib.hid (Below.next hBB.out b_a); obtain ⟨Pa, ca, Ba, ea, rfl⟩ := ownQ_form o_a.here; (first | (have x_a := Lib.hid (Bx.call (Bx.allocD2 X0.out) b_a); have p_a := Lib.hid (OwA.new o_a l_a (Bx.allocD2 X0.out))) | (have x_a := Lib.hid (Bx.call (Bx.allocD X0.out) b_a); have p_a := Lib.hid (OwA.new o_a l_a (Bx.allocD X0.out))) | (have x_a := Lib.hid (Bx.call (X0.out) b_a); have p_a := Lib.hid (OwA.new o_a l_a (X0.out)))); clear hBB o_a l_a b_a)
        | (go_at_call 10; (have hBB := (‹_ ∧ _ ∧ _ ∧ _ ∧ _ ∧ _ ∧ Hid (Below w5.heap.size w5 _)›).2.2.2.2.2.2); (with_reducible refine (C_b.out _ _ (OFf.out _ hBB.out) (HS.out _ (BBF.out _ hBB.out)) (HT.out _ (BBF.out _ hBB.out))).mono ?_); rintro e w_b ⟨u_b, S_b, rfl, o_b, l_b, b_b⟩; have HB_b := Lib.hid (Below.next hBB.out b_b); obtain ⟨Pb, cb, Bb, eb, rfl⟩ := ownQ_form o_b.here; (first | (have x_b := Bx.call (Bx.alloc2 x_a.out) b_b; have p_b := OwA.call (OwA.alloc2 p_a.out) b_b; have q_b := OwA.new o_b l_b (Bx.alloc2 x_a.out)) | (have x_b := Bx.call (Bx.alloc_ x_a.out) b_b; have p_b := OwA.call (OwA.alloc_ p_a.out) b_b; have q_b := OwA.new o_b l_b (Bx.alloc_ x_a.out)) | (have x_b := Bx.call (x_a.out) b_b; have p_b := OwA.call (p_a.out) b_b; have q_b := OwA.new o_b l_b (x_a.out))); (first | have F9 := TwoReady.fin2 x_b p_b q_b | (have F9 := TwoReady.fin1 x_b p_b q_b; have kx := x_b.old _ (List.mem_singleton.2 rfl); have kc0 := kx.1.1; have kf0 := kx.2.1; have kc1 := kx.1.2.1; have kf1 := kx.2.2.1; have kc2 := kx.1.2.2; have kf2 := kx.2.2.2; clear kx) | have F9 := TwoReady.fin0 x_b p_b q_b); obtain ⟨⟨y0, y1, y2, y3, y4, y5⟩, ⟨f0, f1, f2, f3, f4, f5⟩, e9, e8⟩ := F9.cells; have HF := Lib.hid F9; have HX := Lib.hid x_b; have HP := Lib.hid p_b; have HQ := Lib.hid q_b; clear F9 x_b p_b q_b o_b l_b b_b hBB))
    all_goals (go_wp2_with fail; go_meet; first | with_reducible exact two_laid (φ := fun v => OwnQ v RD) (ψ := fun v => OwnQ v RE) HF.out | with_reducible exact two_laid (φ := fun v => OwnQ v RD) (ψ := fun v => OwnQ v RE) HF.out.symm | with_reducible exact two_laid0 (φ := fun v => OwnQ v RD) (ψ := fun v => OwnQ v RE) HX.out HP.out HQ.out | with_reducible exact (two_laid0 (φ := fun v => OwnQ v RE) (ψ := fun v => OwnQ v RD) HX.out HQ.out HP.out).swap | with_reducible exact two_laid1 (φ := fun v => OwnQ v RD) (ψ := fun v => OwnQ v RE) HX.out HP.out HQ.out | with_reducible exact (two_laid1 (φ := fun v => OwnQ v RE) (ψ := fun v => OwnQ v RD) HX.out HQ.out HP.out).swap)
  rename World => w6
  clear kd_c0 kd_c1 kd_c2 kf_c0 kf_c1 kf_c2
  clear HB0 KL BBF OFd OFf C_a C_b
  obtain ⟨ga, gb, csa, csb, Sa, Sb, rfl, rfl, ka, kb, o_a, o_b, b6⟩ := hcut
  obtain ⟨Pa, ca, Ba, ea, qa⟩ := ownQ_form o_a.here
  injection qa with qa
  subst qa
  obtain ⟨Pb, cb, Bb, eb, qb⟩ := ownQ_form o_b.here
  injection qb with qb
  subst qb
  have bb6 := Below.next bb5 b6
  replace kd := kd.below b6
  replace kf := kf.below b6
  replace o_d := o_d.below b6
  replace o_f := o_f.below b6
  have kd_c0 := kd.here.cell 0 _ rfl
  have kd_c1 := kd.here.cell 1 _ rfl
  have kd_c2 := kd.here.cell 2 _ rfl
  have kf_c0 := kf.here.cell 0 _ rfl
  have kf_c1 := kf.here.cell 1 _ rfl
  have kf_c2 := kf.here.cell 2 _ rfl
  go_upto_region 10 with fail
  go_cut [12, 13] (fun s1 s2 wx => NewLocV 27 (fun v => OwnD v s) w6 s1 wx ∧ s2 = .bool true)
  case first => as_aux_lemma =>
    go_wp2_with fail
    refine (C_s.out _ _ _ o_d.here o_f.here (HS.out _ bb6) (HT.out _ bb6)).mono ?_
    rintro e wf ⟨uf, Sf_, rfl, of, lf, bf⟩
    obtain ⟨Pz, cz, rfl⟩ := ownD_form of.here
    go_wp2_with fail
    go_meet
    exact ⟨newLocV_last of lf (Nat.le_refl _) bf, rfl⟩
  rename World => w7
  clear kd_c0 kd_c1 kd_c2 kf_c0 kf_c1 kf_c2
  obtain ⟨⟨gs, css, Ss, rfl, ks, o_s, n_s, l_s, b7⟩, rfl⟩ := hcut
  clear n_s l_s
  obtain ⟨Ps, cs, qs⟩ := ownD_form o_s.here
  injection qs with qs
  subst qs
  have bb7 := Below.next bb6 b7
  replace kd := kd.below b7
  replace kf := kf.below b7
  replace o_d := o_d.below b7
  replace o_f := o_f.below b7
  replace ka := ka.below b7
  replace o_a := o_a.below b7
  replace kb := kb.below b7
  replace o_b := o_b.below b7
  have kd_c0 := kd.here.cell 0 _ rfl
  have kd_c1 := kd.here.cell 1 _ rfl
  have kd_c2 := kd.here.cell 2 _ rfl
  have kf_c0 := kf.here.cell 0 _ rfl
  have kf_c1 := kf.here.cell 1 _ rfl
  have kf_c2 := kf.here.cell 2 _ rfl
  go_upto_region 11 with fail
  go_cut [14, 15] (fun s1 s2 wx => NewLocV 27 (fun v => OwnD v m) w7 s1 wx ∧ s2 = .bool true)
  case first => as_aux_lemma =>
    go_wp2_with fail
    refine (C_m.out _ _ _ o_d.here o_f.here (HS.out _ bb7) (HT.out _ bb7)).mono ?_
    rintro e wf ⟨uf, Sf_, rfl, of, lf, bf⟩
    obtain ⟨Pz, cz, rfl⟩ := ownD_form of.here
    go_wp2_with fail
    go_meet
    exact ⟨newLocV_last of lf (Nat.le_refl _) bf, rfl⟩
  rename World => w8
  clear kd_c0 kd_c1 kd_c2 kf_c0 kf_c1 kf_c2
  obtain ⟨⟨gm, csm, Sm, rfl, km, o_m, n_m, l_m, b8⟩, rfl⟩ := hcut
  clear n_m l_m
  obtain ⟨Pm, cm, qm⟩ := ownD_form o_m.here
  injection qm with qm
  subst qm
  have bb8 := Below.next bb7 b8
  replace kd := kd.below b8
  replace kf := kf.below b8
  replace o_d := o_d.below b8
  replace o_f := o_f.below b8
  replace ka := ka.below b8
  replace o_a := o_a.below b8
  replace kb := kb.below b8
  replace o_b := o_b.below b8
  replace ks := ks.below b8
  replace o_s := o_s.below b8
  have ks_c0 := ks.here.cell 0 _ rfl
  have ks_c1 := ks.here.cell 1 _ rfl
  have ks_c2 := ks.here.cell 2 _ rfl
  have kf_c0 := kf.here.cell 0 _ rfl
  have kf_c1 := kf.here.cell 1 _ rfl
  have kf_c2 := kf.here.cell 2 _ rfl
  go_upto_region 12 with fail
  go_cut [16, 17] (fun s1 s2 wx => NewLocV 27 (fun v => OwnD v T) w8 s1 wx ∧ s2 = .bool true)
  case first => as_aux_lemma =>
    go_wp2_with fail
    refine (C_t.out _ _ _ o_s.here o_f.here (HS.out _ bb8) (HT.out _ bb8)).mono ?_
    rintro e wf ⟨uf, Sf_, rfl, of, lf, bf⟩
    obtain ⟨Pz, cz, rfl⟩ := ownD_form of.here
    go_wp2_with fail
    go_meet
    exact ⟨newLocV_last of lf (Nat.le_refl _) bf, rfl⟩
  rename World => w9
  clear ks_c0 ks_c1 ks_c2 kf_c0 kf_c1 kf_c2
  obtain ⟨⟨gt, cst, St, rfl, kt, o_t, n_t, l_t, b9⟩, rfl⟩ := hcut
  clear n_t l_t
  obtain ⟨Pt, ct, qt⟩ := ownD_form o_t.here
  injection qt with qt
  subst qt
  have bb9 := Below.next bb8 b9
  replace kd := kd.below b9
  replace kf := kf.below b9
  replace o_d := o_d.below b9
  replace o_f := o_f.below b9
  replace ka := ka.below b9
  replace o_a := o_a.below b9
  replace kb := kb.below b9
  replace o_b := o_b.below b9
  replace ks := ks.below b9
  replace o_s := o_s.below b9
  replace km := km.below b9
  replace o_m := o_m.below b9
  clear C_s C_m C_t
  have HB0 := Lib.hid (show Below w9.heap.size w9 w9.drew from (Below.refl _ _).drew)
  have KL := Lib.hid (show ∀ W, Below w9.heap.size w9 W → W.cell? ⟨gs, 0, none⟩ = some (.bool s.1.1) ∧ W.cell? ⟨gs, 1, none⟩ = some (.slice Ps s.1.2.length cs) ∧ W.cell? ⟨gs, 2, none⟩ = some (.int .i64 s.2) ∧ W.cell? ⟨ga, 0, none⟩ = some (.bool RD.1.1) ∧ W.cell? ⟨ga, 1, none⟩ = some (.slice Pa RD.1.2.length ca) ∧ W.cell? ⟨ga, 2, none⟩ = some (.slice Ba RD.2.length ea) ∧ W.cell? ⟨gb, 0, none⟩ = some (.bool RE.1.1) ∧ W.cell? ⟨gb, 1, none⟩ = some (.slice Pb RE.1.2.length cb) ∧ W.cell? ⟨gb, 2, none⟩ = some (.slice Bb RE.2.length eb) ∧ W.cell? ⟨gm, 0, none⟩ = some (.bool m.1.1) ∧ W.cell? ⟨gm, 1, none⟩ = some (.slice Pm m.1.2.length cm) ∧ W.cell? ⟨gm, 2, none⟩ = some (.int .i64 m.2) ∧ W.cell? ⟨gt, 0, none⟩ = some (.bool T.1.1) ∧ W.cell? ⟨gt, 1, none⟩ = some (.slice Pt T.1.2.length ct) ∧ W.cell? ⟨gt, 2, none⟩ = some (.int .i64 T.2) ∧ W.cell? ⟨gd, 0, none⟩ = some (.bool d.1.1) ∧ W.cell? ⟨gd, 1, none⟩ = some (.slice Pd d.1.2.length cd) ∧ W.cell? ⟨gd, 2, none⟩ = some (.int .i64 d.2) ∧ W.cell? ⟨gf, 0, none⟩ = some (.bool f.1.1) ∧ W.cell? ⟨gf, 1, none⟩ = some (.slice Pf f.1.2.length cf) ∧ W.cell? ⟨gf, 2, none⟩ = some (.int .i64 f.2) ∧ Hid (Below w9.heap.size w9 W) from
    fun W hb => ⟨(ks.below hb).here.cell 0 _ rfl, (ks.below hb).here.cell 1 _ rfl, (ks.below hb).here.cell 2 _ rfl, (ka.below hb).here.cell 0 _ rfl, (ka.below hb).here.cell 1 _ rfl, (ka.below hb).here.cell 2 _ rfl, (kb.below hb).here.cell 0 _ rfl, (kb.below hb).here.cell 1 _ rfl, (kb.below hb).here.cell 2 _ rfl, (km.below hb).here.cell 0 _ rfl, (km.below hb).here.cell 1 _ rfl, (km.below hb).here.cell 2 _ rfl, (kt.below hb).here.cell 0 _ rfl, (kt.below hb).here.cell 1 _ rfl, (kt.below hb).here.cell 2 _ rfl, (kd.below hb).here.cell 0 _ rfl, (kd.below hb).here.cell 1 _ rfl, (kd.below hb).here.cell 2 _ rfl, (kf.below hb).here.cell 0 _ rfl, (kf.below hb).here.cell 1 _ rfl, (kf.below hb).here.cell 2 _ rfl, Lib.hid hb⟩)
  have BBF := Lib.hid (show ∀ W, Below w9.heap.size w9 W → Below w.heap.size w W from fun W hb => Below.next bb9 hb)
  have OFs := Lib.hid (show ∀ W, Below w9.heap.size w9 W → OwnD (.agg #[.bool s.1.1, .slice Ps s.1.2.length cs, .int .i64 s.2]) s W from fun W hb => (o_s.below hb).here)
  have OFa := Lib.hid (show ∀ W, Below w9.heap.size w9 W → OwnQ (.agg #[.bool RD.1.1, .slice Pa RD.1.2.length ca, .slice Ba RD.2.length ea]) RD W from fun W hb => (o_a.below hb).here)
  have OFb := Lib.hid (show ∀ W, Below w9.heap.size w9 W → OwnQ (.agg #[.bool RE.1.1, .slice Pb RE.1.2.length cb, .slice Bb RE.2.length eb]) RE W from fun W hb => (o_b.below hb).here)
  have OFm := Lib.hid (show ∀ W, Below w9.heap.size w9 W → OwnD (.agg #[.bool m.1.1, .slice Pm m.1.2.length cm, .int .i64 m.2]) m W from fun W hb => (o_m.below hb).here)
  have OFt := Lib.hid (show ∀ W, Below w9.heap.size w9 W → OwnD (.agg #[.bool T.1.1, .slice Pt T.1.2.length ct, .int .i64 T.2]) T W from fun W hb => (o_t.below hb).here)
  have OFd := Lib.hid (show ∀ W, Below w9.heap.size w9 W → OwnD (.agg #[.bool d.1.1, .slice Pd d.1.2.length cd, .int .i64 d.2]) d W from fun W hb => (o_d.below hb).here)
  have OFf := Lib.hid (show ∀ W, Below w9.heap.size w9 W → OwnD (.agg #[.bool f.1.1, .slice Pf f.1.2.length cf, .int .i64 f.2]) f W from fun W hb => (o_f.below hb).here)
  have ks_c0 := ks.here.cell 0 _ rfl
  have ks_c1 := ks.here.cell 1 _ rfl
  have ks_c2 := ks.here.cell 2 _ rfl
  have ka_c0 := ka.here.cell 0 _ rfl
  have ka_c1 := ka.here.cell 1 _ rfl
  have ka_c2 := ka.here.cell 2 _ rfl
  have kb_c0 := kb.here.cell 0 _ rfl
  have kb_c1 := kb.here.cell 1 _ rfl
  have kb_c2 := kb.here.cell 2 _ rfl
  have km_c0 := km.here.cell 0 _ rfl
  have km_c1 := km.here.cell 1 _ rfl
  have km_c2 := km.here.cell 2 _ rfl
  have kt_c0 := kt.here.cell 0 _ rfl
  have kt_c1 := kt.here.cell 1 _ rfl
  have kt_c2 := kt.here.cell 2 _ rfl
  have kd_c0 := kd.here.cell 0 _ rfl
  have kd_c1 := kd.here.cell 1 _ rfl
  have kd_c2 := kd.here.cell 2 _ rfl
  have kf_c0 := kf.here.cell 0 _ rfl
  have kf_c1 := kf.here.cell 1 _ rfl
  have kf_c2 := kf.here.cell 2 _ rfl
  go_upto_region 13 with fail
  go_cut [2] (fun s1 wx => s1 = .bool true ∧ Below w9.heap.size w9 wx)
  case first => as_aux_lemma =>
    clear ks_c0 ks_c1 ks_c2 ka_c0 ka_c1 ka_c2 kb_c0 kb_c1 kb_c2 km_c0 km_c1 km_c2 kt_c0 kt_c1 kt_c2 kd_c0 kd_c1 kd_c2 kf_c0 kf_c1 kf_c2
    go_region_held3 (fun W => W.cell? ⟨gs, 0, none⟩ = some (.bool s.1.1) ∧ W.cell? ⟨gs, 1, none⟩ = some (.slice Ps s.1.2.length cs) ∧ W.cell? ⟨gs, 2, none⟩ = some (.int .i64 s.2) ∧ W.cell? ⟨ga, 0, none⟩ = some (.bool RD.1.1) ∧ W.cell? ⟨ga, 1, none⟩ = some (.slice Pa RD.1.2.length ca) ∧ W.cell? ⟨ga, 2, none⟩ = some (.slice Ba RD.2.length ea) ∧ W.cell? ⟨gb, 0, none⟩ = some (.bool RE.1.1) ∧ W.cell? ⟨gb, 1, none⟩ = some (.slice Pb RE.1.2.length cb) ∧ W.cell? ⟨gb, 2, none⟩ = some (.slice Bb RE.2.length eb) ∧ W.cell? ⟨gm, 0, none⟩ = some (.bool m.1.1) ∧ W.cell? ⟨gm, 1, none⟩ = some (.slice Pm m.1.2.length cm) ∧ W.cell? ⟨gm, 2, none⟩ = some (.int .i64 m.2) ∧ W.cell? ⟨gt, 0, none⟩ = some (.bool T.1.1) ∧ W.cell? ⟨gt, 1, none⟩ = some (.slice Pt T.1.2.length ct) ∧ W.cell? ⟨gt, 2, none⟩ = some (.int .i64 T.2) ∧ W.cell? ⟨gd, 0, none⟩ = some (.bool d.1.1) ∧ W.cell? ⟨gd, 1, none⟩ = some (.slice Pd d.1.2.length cd) ∧ W.cell? ⟨gd, 2, none⟩ = some (.int .i64 d.2) ∧ W.cell? ⟨gf, 0, none⟩ = some (.bool f.1.1) ∧ W.cell? ⟨gf, 1, none⟩ = some (.slice Pf f.1.2.length cf) ∧ W.cell? ⟨gf, 2, none⟩ = some (.int .i64 f.2) ∧ Hid (Below w9.heap.size w9 W))
      ((refine KL.out _ ?_; (first | exact HB_cq.out | exact below_al HB_cq.out _ | exact HB_df.out | exact below_al HB_df.out _ | exact HB_td.out | exact below_al HB_td.out _ | exact HB_cm.out | exact below_al HB_cm.out _ | exact HB_qm.out | exact below_al HB_qm.out _ | exact HB_rm.out | exact below_al HB_rm.out _ | exact HB_cs.out | exact below_al HB_cs.out _ | exact HB_mu.out | exact below_al HB_mu.out _ | exact HB_qa.out | exact below_al HB_qa.out _ | exact HB_rs.out | exact below_al HB_rs.out _ | exact HB0.out | fail)))
      (first
        | (go_at_call 10; (have hBB := (‹_ ∧ _ ∧ _ ∧ _ ∧ _ ∧ _ ∧ _ ∧ _ ∧ _ ∧ _ ∧ _ ∧ _ ∧ _ ∧ _ ∧ _ ∧ _ ∧ _ ∧ _ ∧ _ ∧ _ ∧ _ ∧ Hid (Below w9.heap.size w9 _)›).2.2.2.2.2.2.2.2.2.2.2.2.2.2.2.2.2.2.2.2.2); (with_reducible refine (C_rs.out _ _ (OFs.out _ hBB.out) (HS.out _ (BBF.out _ hBB.out)) (HT.out _ (BBF.out _ hBB.out))).mono ?_); rintro e w_rs ⟨u_rs, S_rs, rfl, o_rs, l_rs, b_rs⟩; have HB_rs := Lib.hid (Below.next hBB.out b_rs); (try (first | replace o_qa := At.below o_qa b_rs | replace o_qa := At.below (At.below o_qa (below_al (Below.refl _ _) _)) b_rs)); (try (first | replace o_rm := At.below o_rm b_rs | replace o_rm := At.below (At.below o_rm (below_al (Below.refl _ _) _)) b_rs)); (try (first | replace o_qm := At.below o_qm b_rs | replace o_qm := At.below (At.below o_qm (below_al (Below.refl _ _) _)) b_rs)); obtain ⟨Prs, crs, Brs, ers, rfl⟩ := ownQ_form o_rs.here; clear l_rs; clear hBB b_rs)
        | (go_at_call 16; (have hBB := (‹_ ∧ _ ∧ _ ∧ _ ∧ _ ∧ _ ∧ _ ∧ _ ∧ _ ∧ _ ∧ _ ∧ _ ∧ _ ∧ _ ∧ _ ∧ _ ∧ _ ∧ _ ∧ _ ∧ _ ∧ _ ∧ Hid (Below w9.heap.size w9 _)›).2.2.2.2.2.2.2.2.2.2.2.2.2.2.2.2.2.2.2.2.2); (with_reducible refine (C_qa.out _ _ _ (OFa.out _ hBB.out) (OFb.out _ hBB.out) (HS.out _ (BBF.out _ hBB.out)) (HT.out _ (BBF.out _ hBB.out))).mono ?_); rintro e w_qa ⟨u_qa, S_qa, rfl, o_qa, l_qa, b_qa⟩; have HB_qa := Lib.hid (Below.next hBB.out b_qa); (try (first | replace o_rs := At.below o_rs b_qa | replace o_rs := At.below (At.below o_rs (below_al (Below.refl _ _) _)) b_qa)); (try (first | replace o_rm := At.below o_rm b_qa | replace o_rm := At.below (At.below o_rm (below_al (Below.refl _ _) _)) b_qa)); (try (first | replace o_qm := At.below o_qm b_qa | replace o_qm := At.below (At.below o_qm (below_al (Below.refl _ _) _)) b_qa)); obtain ⟨Pqa, cqa, Bqa, eqa, rfl⟩ := ownQ_form o_qa.here; clear l_qa; clear hBB b_qa)
        | (go_at_call 15; (have hBB := (‹_ ∧ _ ∧ _ ∧ _ ∧ _ ∧ _ ∧ _ ∧ _ ∧ _ ∧ _ ∧ _ ∧ _ ∧ _ ∧ _ ∧ _ ∧ _ ∧ _ ∧ _ ∧ _ ∧ _ ∧ _ ∧ Hid (Below w9.heap.size w9 _)›).2.2.2.2.2.2.2.2.2.2.2.2.2.2.2.2.2.2.2.2.2); (with_reducible refine (must_anyD _ _ _ _ _ _ _ _).mono ?_); rintro e w_mu ⟨rfl, b_mu⟩; have HB_mu := Lib.hid (Below.next hBB.out b_mu); (try (first | replace o_rs := At.below o_rs b_mu | replace o_rs := At.below (At.below o_rs (below_al (Below.refl _ _) _)) b_mu)); (try (first | replace o_qa := At.below o_qa b_mu | replace o_qa := At.below (At.below o_qa (below_al (Below.refl _ _) _)) b_mu)); (try (first | replace o_rm := At.below o_rm b_mu | replace o_rm := At.below (At.below o_rm (below_al (Below.refl _ _) _)) b_mu)); (try (first | replace o_qm := At.below o_qm b_mu | replace o_qm := At.below (At.below o_qm (below_al (Below.refl _ _) _)) b_mu)); clear hBB b_mu)
        | (go_at_call 14; (have hBB := (‹_ ∧ _ ∧ _ ∧ _ ∧ _ ∧ _ ∧ _ ∧ _ ∧ _ ∧ _ ∧ _ ∧ _ ∧ _ ∧ _ ∧ _ ∧ _ ∧ _ ∧ _ ∧ _ ∧ _ ∧ _ ∧ Hid (Below w9.heap.size w9 _)›).2.2.2.2.2.2.2.2.2.2.2.2.2.2.2.2.2.2.2.2.2); (with_reducible refine (C_cs.out _ _ _ (At.here o_rs) (At.here o_qa) (HS.out _ (BBF.out _ hBB.out)) (HT.out _ (BBF.out _ hBB.out))).mono ?_); rintro e w_cs ⟨rfl, b_cs⟩; have HB_cs := Lib.hid (Below.next hBB.out b_cs); (try (first | replace o_rs := At.below o_rs b_cs | replace o_rs := At.below (At.below o_rs (below_al (Below.refl _ _) _)) b_cs)); (try (first | replace o_qa := At.below o_qa b_cs | replace o_qa := At.below (At.below o_qa (below_al (Below.refl _ _) _)) b_cs)); (try (first | replace o_rm := At.below o_rm b_cs | replace o_rm := At.below (At.below o_rm (below_al (Below.refl _ _) _)) b_cs)); (try (first | replace o_qm := At.below o_qm b_cs | replace o_qm := At.below (At.below o_qm (below_al (Below.refl _ _) _)) b_cs)); clear hBB b_cs)
        | (go_at_call 10; (have hBB := (‹_ ∧ _ ∧ _ ∧ _ ∧ _ ∧ _ ∧ _ ∧ _ ∧ _ ∧ _ ∧ _ ∧ _ ∧ _ ∧ _ ∧ _ ∧ _ ∧ _ ∧ _ ∧ _ ∧ _ ∧ _ ∧ Hid (Below w9.heap.size w9 _)›).2.2.2.2.2.2.2.2.2.2.2.2.2.2.2.2.2.2.2.2.2); (with_reducible refine (C_rm.out _ _ (OFm.out _ hBB.out) (HS.out _ (BBF.out _ hBB.out)) (HT.out _ (BBF.out _ hBB.out))).mono ?_); rintro e w_rm ⟨u_rm, S_rm, rfl, o_rm, l_rm, b_rm⟩; have HB_rm := Lib.hid (Below.next hBB.out b_rm); (try (first | replace o_rs := At.below o_rs b_rm | replace o_rs := At.below (At.below o_rs (below_al (Below.refl _ _) _)) b_rm)); (try (first | replace o_qa := At.below o_qa b_rm | replace o_qa := At.below (At.below o_qa (below_al (Below.refl _ _) _)) b_rm)); (try (first | replace o_qm := At.below o_qm b_rm | replace o_qm := At.below (At.below o_qm (below_al (Below.refl _ _) _)) b_rm)); obtain ⟨Prm, crm, Brm, erm, rfl⟩ := ownQ_form o_rm.here; clear l_rm; clear hBB b_rm)
        | (go_at_call 17; (have hBB := (‹_ ∧ _ ∧ _ ∧ _ ∧ _ ∧ _ ∧ _ ∧ _ ∧ _ ∧ _ ∧ _ ∧ _ ∧ _ ∧ _ ∧ _ ∧ _ ∧ _ ∧ _ ∧ _ ∧ _ ∧ _ ∧ Hid (Below w9.heap.size w9 _)›).2.2.2.2.2.2.2.2.2.2.2.2.2.2.2.2.2.2.2.2.2); (with_reducible refine (C_qm.out _ _ _ (OFa.out _ hBB.out) (OFb.out _ hBB.out) (HS.out _ (BBF.out _ hBB.out)) (HT.out _ (BBF.out _ hBB.out))).mono ?_); rintro e w_qm ⟨u_qm, S_qm, rfl, o_qm, l_qm, b_qm⟩; have HB_qm := Lib.hid (Below.next hBB.out b_qm); (try (first | replace o_rs := At.below o_rs b_qm | replace o_rs := At.below (At.below o_rs (below_al (Below.refl _ _) _)) b_qm)); (try (first | replace o_qa := At.below o_qa b_qm | replace o_qa := At.below (At.below o_qa (below_al (Below.refl _ _) _)) b_qm)); (try (first | replace o_rm := At.below o_rm b_qm | replace o_rm := At.below (At.below o_rm (below_al (Below.refl _ _) _)) b_qm)); obtain ⟨Pqm, cqm, Bqm, eqm, rfl⟩ := ownQ_form o_qm.here; clear l_qm; clear hBB b_qm)
        | (go_at_call 14; (have hBB := (‹_ ∧ _ ∧ _ ∧ _ ∧ _ ∧ _ ∧ _ ∧ _ ∧ _ ∧ _ ∧ _ ∧ _ ∧ _ ∧ _ ∧ _ ∧ _ ∧ _ ∧ _ ∧ _ ∧ _ ∧ _ ∧ Hid (Below w9.heap.size w9 _)›).2.2.2.2.2.2.2.2.2.2.2.2.2.2.2.2.2.2.2.2.2); (with_reducible refine (C_cm.out _ _ _ (At.here o_rm) (At.here o_qm) (HS.out _ (BBF.out _ hBB.out)) (HT.out _ (BBF.out _ hBB.out))).mono ?_); rintro e w_cm ⟨rfl, b_cm⟩; have HB_cm := Lib.hid (Below.next hBB.out b_cm); (try (first | replace o_rs := At.below o_rs b_cm | replace o_rs := At.below (At.below o_rs (below_al (Below.refl _ _) _)) b_cm)); (try (first | replace o_qa := At.below o_qa b_cm | replace o_qa := At.below (At.below o_qa (below_al (Below.refl _ _) _)) b_cm)); (try (first | replace o_rm := At.below o_rm b_cm | replace o_rm := At.below (At.below o_rm (below_al (Below.refl _ _) _)) b_cm)); (try (first | replace o_qm := At.below o_qm b_cm | replace o_qm := At.below (At.below o_qm (below_al (Below.refl _ _) _)) b_cm)); clear hBB b_cm)
        | (go_at_call 9; (have hBB := (‹_ ∧ _ ∧ _ ∧ _ ∧ _ ∧ _ ∧ _ ∧ _ ∧ _ ∧ _ ∧ _ ∧ _ ∧ _ ∧ _ ∧ _ ∧ _ ∧ _ ∧ _ ∧ _ ∧ _ ∧ _ ∧ Hid (Below w9.heap.size w9 _)›).2.2.2.2.2.2.2.2.2.2.2.2.2.2.2.2.2.2.2.2.2); (with_reducible refine (C_td.out _ _ _ (OFt.out _ hBB.out) (OFd.out _ hBB.out) (HS.out _ (BBF.out _ hBB.out)) (HT.out _ (BBF.out _ hBB.out))).mono ?_); rintro e w_td ⟨rfl, b_td⟩; have HB_td := Lib.hid (Below.next hBB.out b_td); (try (first | replace o_rs := At.below o_rs b_td | replace o_rs := At.below (At.below o_rs (below_al (Below.refl _ _) _)) b_td)); (try (first | replace o_qa := At.below o_qa b_td | replace o_qa := At.below (At.below o_qa (below_al (Below.refl _ _) _)) b_td)); (try (first | replace o_rm := At.below o_rm b_td | replace o_rm := At.below (At.below o_rm (below_al (Below.refl _ _) _)) b_td)); (try (first | replace o_qm := At.below o_qm b_td | replace o_qm := At.below (At.below o_qm (below_al (Below.refl _ _) _)) b_td)); clear hBB b_td)
        | (go_at_call 9; (have hBB := (‹_ ∧ _ ∧ _ ∧ _ ∧ _ ∧ _ ∧ _ ∧ _ ∧ _ ∧ _ ∧ _ ∧ _ ∧ _ ∧ _ ∧ _ ∧ _ ∧ _ ∧ _ ∧ _ ∧ _ ∧ _ ∧ Hid (Below w9.heap.size w9 _)›).2.2.2.2.2.2.2.2.2.2.2.2.2.2.2.2.2.2.2.2.2); (with_reducible refine (C_df.out _ _ _ (OFd.out _ hBB.out) (OFf.out _ hBB.out) (HS.out _ (BBF.out _ hBB.out)) (HT.out _ (BBF.out _ hBB.out))).mono ?_); rintro e w_df ⟨rfl, b_df⟩; have HB_df := Lib.hid (Below.next hBB.out b_df); (try (first | replace o_rs := At.below o_rs b_df | replace o_rs := At.below (At.below o_rs (below_al (Below.refl _ _) _)) b_df)); (try (first | replace o_qa := At.below o_qa b_df | replace o_qa := At.below (At.below o_qa (below_al (Below.refl _ _) _)) b_df)); (try (first | replace o_rm := At.below o_rm b_df | replace o_rm := At.below (At.below o_rm (below_al (Below.refl _ _) _)) b_df)); (try (first | replace o_qm := At.below o_qm b_df | replace o_qm := At.below (At.below o_qm (below_al (Below.refl _ _) _)) b_df)); clear hBB b_df)
        | (go_at_call 14; (have hBB := (‹_ ∧ _ ∧ _ ∧ _ ∧ _ ∧ _ ∧ _ ∧ _ ∧ _ ∧ _ ∧ _ ∧ _ ∧ _ ∧ _ ∧ _ ∧ _ ∧ _ ∧ _ ∧ _ ∧ _ ∧ _ ∧ Hid (Below w9.heap.size w9 _)›).2.2.2.2.2.2.2.2.2.2.2.2.2.2.2.2.2.2.2.2.2); (with_reducible refine (C_cq.out _ _ _ (OFa.out _ hBB.out) (OFb.out _ hBB.out) (HS.out _ (BBF.out _ hBB.out)) (HT.out _ (BBF.out _ hBB.out))).mono ?_); rintro e w_cq ⟨rfl, b_cq⟩; have HB_cq := Lib.hid (Below.next hBB.out b_cq); (try (first | replace o_rs := At.below o_rs b_cq | replace o_rs := At.below (At.below o_rs (below_al (Below.refl _ _) _)) b_cq)); (try (first | replace o_qa := At.below o_qa b_cq | replace o_qa := At.below (At.below o_qa (below_al (Below.refl _ _) _)) b_cq)); (try (first | replace o_rm := At.below o_rm b_cq | replace o_rm := At.below (At.below o_rm (below_al (Below.refl _ _) _)) b_cq)); (try (first | replace o_qm := At.below o_qm b_cq | replace o_qm := At.below (At.below o_qm (below_al (Below.refl _ _) _)) b_cq)); clear hBB b_cq))
    all_goals (go_wp2_with fail; go_meet; exact ⟨rfl, HB_cq.out⟩)
  rename World => w10
  obtain ⟨rfl, b10⟩ := hcut
  have bb10 := Below.next bb9 b10
  clear ks_c0 ks_c1 ks_c2 ka_c0 ka_c1 ka_c2 kb_c0 kb_c1 kb_c2 km_c0 km_c1 km_c2 kt_c0 kt_c1 kt_c2 kd_c0 kd_c1 kd_c2 kf_c0 kf_c1 kf_c2
  clear HB0 KL BBF OFs OFa OFb OFm OFt OFd OFf
  replace kd := kd.below b10
  replace kf := kf.below b10
  replace o_d := o_d.below b10
  replace o_f := o_f.below b10
  replace ka := ka.below b10
  replace o_a := o_a.below b10
  replace kb := kb.below b10
  replace o_b := o_b.below b10
  replace ks := ks.below b10
  replace o_s := o_s.below b10
  replace km := km.below b10
  replace o_m := o_m.below b10
  replace kt := kt.below b10
  replace o_t := o_t.below b10
  clear ks o_s km o_m kt o_t kd o_d kf o_f ka o_a kb o_b
  go_wp2
  go_ret
  exact ⟨rfl, bb10⟩
end Go.Proofs.YtbfolegllhpkjaaGreatDoor
