/-
  The law FnMoney, walked over the contracts of package impl.
  Arguments, opened: slices of strings and of ints that came in read as lists.
-/
import Derived.Test.YtcenmdiblbooeaaGreatDoorJA9
namespace Go.Proofs.YtcenmdiblbooeaaGreatDoor
open Go.RowKit

theorem eur_list : (⟨#[69, 85, 82]⟩ : ByteArray).toList = [69, 85, 82] := by rw [ByteArray.toList_eq]
theorem postb_isM {a b : Bool} (e : a = b) {w w' : World} {n : Ending} (h : Postb a w n w') : Postb b w n w' := e ▸ h
theorem postn_isM {a b : Int} (e : a = b) {w w' : World} {n : Ending} (h : n = .returned (.int .i64 a) ∧ Below w.heap.size w w') : Postn b w n w' := by rw [← e]; exact h
set_option maxHeartbeats 40000000 in
set_option maxRecDepth 100000 in
theorem lawMoney_small (v : Value) (bs : List Nat) (w : World) (hb : ∀ b ∈ bs, b < 256) (hn : bs.length ≤ 1048576) (hr : Row w 0 w.heap.size v (bytesV bs)) (ht : CurTab w) (hd : Tab w) :
    Calls Tryz.prog 3 #[v] w fun e w' => e = .returned (.bool true) ∧ Below w.heap.size w w' := by
  have HB := Lib.hid hb
  clear hb
  have hr0 := hr
  obtain ⟨A0, c0, rfl, _⟩ := hr
  have hlen : (bytesV bs).length = bs.length := by simp [bytesV]
  rw [hlen] at hr0 ⊢
  clear hlen
  have HRB := Lib.hid hr0
  have HT := Lib.hid ht
  have HD := Lib.hid hd
  clear hr0 ht hd
  have bb0 : Below w.heap.size w w := Below.refl _ _
  go_enter Tryz.func3, Tryz.ntmps3
  go_wp2_with fail
  refine (makeMoneys_any _ bs _ HB.out hn HRB.out).mono ?_
  rintro e w1 ⟨u0, u1, m, n, Sm, Sn, rfl, hsm, hsn, hmn, om, on, b1⟩
  obtain ⟨Pm, cm, rfl⟩ := ownM_form om.here
  obtain ⟨Pn, cn, rfl⟩ := ownM_form on.here
  have bb1 := Below.next bb0 b1
  have km := box_new (w1) #[.string m.1, .bool m.2.1, .slice Pm m.2.2.length cm] 27
  have alm := below_al (Below.refl (w1).heap.size (w1)) (.cells #[.string m.1, .bool m.2.1, .slice Pm m.2.2.length cm] 27)
  have bbm := Below.next bb1 alm
  replace om := om.below alm
  replace on := on.below alm
  have kn := box_new ((w1.alloc (.cells #[.string m.1, .bool m.2.1, .slice Pm m.2.2.length cm] 27))) #[.string n.1, .bool n.2.1, .slice Pn n.2.2.length cn] 27
  have aln := below_al (Below.refl ((w1.alloc (.cells #[.string m.1, .bool m.2.1, .slice Pm m.2.2.length cm] 27))).heap.size ((w1.alloc (.cells #[.string m.1, .bool m.2.1, .slice Pm m.2.2.length cm] 27)))) (.cells #[.string n.1, .bool n.2.1, .slice Pn n.2.2.length cn] 27)
  have bbn := Below.next bbm aln
  replace om := om.below aln
  replace on := on.below aln
  replace km := km.below aln
  rw [show (w1.alloc (.cells #[.string m.1, .bool m.2.1, .slice Pm m.2.2.length cm] 27)).heap.size = w1.heap.size + 1 by simp] at kn
  obtain ⟨S, T, N, Z, HA⟩ := money_all hsm hsn hmn
  have lm : m.2.2.length ≤ 1048576 := by have := hsm.2.2; omega
  have ln : n.2.2.length ≤ 1048576 := by have := hsn.2.2; omega
  have lS : S.2.2.length ≤ 1048576 := by have := (okM_parts HA.oks).2.2; omega
  have lT : T.2.2.length ≤ 1048576 := by have := (okM_parts HA.okt).2.2; omega
  have lN : N.2.2.length ≤ 1048576 := by have := (okM_parts HA.okN).2.2; omega
  have lZ : Z.2.2.length ≤ 1048576 := by have := (okM_parts HA.okz).2.2; omega
  have htr := trM_text HA.okm
  have hts : (textM m).size ≤ 1048576 := by have := textM_size m; omega
  have hsm2 := same_self HA.okm
  have hst := same_self HA.okt
  obtain ⟨X, hX⟩ : ∃ X, textM m = X := ⟨_, rfl⟩
  obtain ⟨cc, hcc⟩ : ∃ c, cmpS m.2 n.2 = c := ⟨_, rfl⟩
  have hcmp := HA.cmp
  rw [hX] at htr hts
  rw [hcc] at hcmp
  have EX := Lib.hid hX
  have ETR := Lib.hid htr
  have EAD := Lib.hid HA.add
  have ESU := Lib.hid HA.sub
  have ETW := Lib.hid HA.two
  have ETC := Lib.hid HA.twice
  have ENE := Lib.hid HA.neg
  have ESM := Lib.hid HA.sum
  have EZE := Lib.hid HA.zero
  have ECM := Lib.hid hcmp
  have ECC := Lib.hid hcc
  have ESA := Lib.hid hsm2
  have EST := Lib.hid hst
  have EMN := Lib.hid hmn
  clear htr hsm2 hst hcmp HA hX hcc hsm hsn hmn
  have km_c0 := km.here.cell 0 _ rfl
  have km_c1 := km.here.cell 1 _ rfl
  have km_c2 := km.here.cell 2 _ rfl
  go_wp2_with fail
  clear km_c0 km_c1 km_c2
  refine ((implMoneyText_any _ m _ lm om.here (HT.out.below bbn) (HD.out.below bbn)).mono fun _ _ h => postT_isM EX.out h).mono ?_
  rintro e w2 ⟨rfl, b2⟩
  have bb2 := Below.next bbn b2
  replace om := om.below b2
  replace on := on.below b2
  replace km := km.below b2
  replace kn := kn.below b2
  go_wp2_with fail
  refine ((implTextMoney_any X _ hts (HT.out.below bb2) (HD.out.below bb2)).mono fun _ _ h => postMb_is ETR.out h).mono ?_
  rintro e w3 ⟨ux, Sx, rfl, ox, lx, b3⟩
  obtain ⟨Px, cx, rfl⟩ := ownM_form ox.here
  have bb3 := Below.next bb2 b3
  replace om := om.below b3
  replace on := on.below b3
  replace km := km.below b3
  replace kn := kn.below b3
  have kx := box_new (w3) #[.string m.1, .bool m.2.1, .slice Px m.2.2.length cx] 27
  have alx := below_al (Below.refl (w3).heap.size (w3)) (.cells #[.string m.1, .bool m.2.1, .slice Px m.2.2.length cx] 27)
  have bbx := Below.next bb3 alx
  replace om := om.below alx
  replace on := on.below alx
  replace km := km.below alx
  replace kn := kn.below alx
  replace ox := ox.below alx
  have km_c0 := km.here.cell 0 _ rfl
  have km_c1 := km.here.cell 1 _ rfl
  have km_c2 := km.here.cell 2 _ rfl
  have kn_c0 := kn.here.cell 0 _ rfl
  have kn_c1 := kn.here.cell 1 _ rfl
  have kn_c2 := kn.here.cell 2 _ rfl
  go_wp2_with fail
  clear km_c0 km_c1 km_c2 kn_c0 kn_c1 kn_c2
  refine ((implMoneyAdd_any _ _ m n _ lm ln om.here on.here (HT.out.below bbx)).mono fun _ _ h => postMb_is EAD.out h).mono ?_
  rintro e w4 ⟨us, Ss, rfl, os, ls, b4⟩
  obtain ⟨Ps, cs, rfl⟩ := ownM_form os.here
  have bb4 := Below.next bbx b4
  replace om := om.below b4
  replace on := on.below b4
  replace km := km.below b4
  replace kn := kn.below b4
  replace ox := ox.below b4
  replace kx := kx.below b4
  have ks := box_new (w4) #[.string S.1, .bool S.2.1, .slice Ps S.2.2.length cs] 27
  have als := below_al (Below.refl (w4).heap.size (w4)) (.cells #[.string S.1, .bool S.2.1, .slice Ps S.2.2.length cs] 27)
  have bbs := Below.next bb4 als
  replace om := om.below als
  replace on := on.below als
  replace km := km.below als
  replace kn := kn.below als
  replace ox := ox.below als
  replace kx := kx.below als
  replace os := os.below als
  have ks_c0 := ks.here.cell 0 _ rfl
  have ks_c1 := ks.here.cell 1 _ rfl
  have ks_c2 := ks.here.cell 2 _ rfl
  have kn_c0 := kn.here.cell 0 _ rfl
  have kn_c1 := kn.here.cell 1 _ rfl
  have kn_c2 := kn.here.cell 2 _ rfl
  go_wp2_with fail
  clear ks_c0 ks_c1 ks_c2 kn_c0 kn_c1 kn_c2
  refine ((implMoneySub_any _ _ S n _ lS ln os.here on.here (HT.out.below bbs)).mono fun _ _ h => postMb_is ESU.out h).mono ?_
  rintro e w5 ⟨ud, Sd, rfl, od, ld, b5⟩
  obtain ⟨Pd, cd, rfl⟩ := ownM_form od.here
  have bb5 := Below.next bbs b5
  replace om := om.below b5
  replace on := on.below b5
  replace km := km.below b5
  replace kn := kn.below b5
  replace ox := ox.below b5
  replace kx := kx.below b5
  replace os := os.below b5
  replace ks := ks.below b5
  have kd := box_new (w5) #[.string m.1, .bool m.2.1, .slice Pd m.2.2.length cd] 27
  have ald := below_al (Below.refl (w5).heap.size (w5)) (.cells #[.string m.1, .bool m.2.1, .slice Pd m.2.2.length cd] 27)
  have bbd := Below.next bb5 ald
  replace om := om.below ald
  replace on := on.below ald
  replace km := km.below ald
  replace kn := kn.below ald
  replace ox := ox.below ald
  replace kx := kx.below ald
  replace os := os.below ald
  replace ks := ks.below ald
  replace od := od.below ald
  have km_c0 := km.here.cell 0 _ rfl
  have km_c1 := km.here.cell 1 _ rfl
  have km_c2 := km.here.cell 2 _ rfl
  have kn_c0 := kn.here.cell 0 _ rfl
  have kn_c1 := kn.here.cell 1 _ rfl
  have kn_c2 := kn.here.cell 2 _ rfl
  go_wp2_with fail
  clear km_c0 km_c1 km_c2 kn_c0 kn_c1 kn_c2
  refine ((implMoneyCmp_any _ _ m n _ lm ln om.here on.here (HT.out.below bbd)).mono fun _ _ h => postnb_isM ECM.out h).mono ?_
  rintro e w6 ⟨rfl, b6⟩
  have bb6 := Below.next bbd b6
  replace om := om.below b6
  replace on := on.below b6
  replace km := km.below b6
  replace kn := kn.below b6
  replace ox := ox.below b6
  replace kx := kx.below b6
  replace os := os.below b6
  replace ks := ks.below b6
  replace od := od.below b6
  replace kd := kd.below b6
  have km_c0 := km.here.cell 0 _ rfl
  have km_c1 := km.here.cell 1 _ rfl
  have km_c2 := km.here.cell 2 _ rfl
  go_wp2_with fail
  clear km_c0 km_c1 km_c2
  refine ((implMoneyTimes_any _ m 2 _ lm (by omega) (by omega) om.here (HT.out.below bb6)).mono fun _ _ h => postMb_is ETW.out h).mono ?_
  rintro e w7 ⟨ut, St, rfl, ot, lt, b7⟩
  obtain ⟨Pt, ct, rfl⟩ := ownM_form ot.here
  have bb7 := Below.next bb6 b7
  replace om := om.below b7
  replace on := on.below b7
  replace km := km.below b7
  replace kn := kn.below b7
  replace ox := ox.below b7
  replace kx := kx.below b7
  replace os := os.below b7
  replace ks := ks.below b7
  replace od := od.below b7
  replace kd := kd.below b7
  have kt := box_new (w7) #[.string T.1, .bool T.2.1, .slice Pt T.2.2.length ct] 27
  have alt := below_al (Below.refl (w7).heap.size (w7)) (.cells #[.string T.1, .bool T.2.1, .slice Pt T.2.2.length ct] 27)
  have bbt := Below.next bb7 alt
  replace om := om.below alt
  replace on := on.below alt
  replace km := km.below alt
  replace kn := kn.below alt
  replace ox := ox.below alt
  replace kx := kx.below alt
  replace os := os.below alt
  replace ks := ks.below alt
  replace od := od.below alt
  replace kd := kd.below alt
  replace ot := ot.below alt
  have km_c0 := km.here.cell 0 _ rfl
  have km_c1 := km.here.cell 1 _ rfl
  have km_c2 := km.here.cell 2 _ rfl
  go_wp2_with fail
  clear km_c0 km_c1 km_c2
  refine ((implMoneyAdd_any _ _ m m _ lm lm om.here om.here (HT.out.below bbt)).mono fun _ _ h => postMb_is ETC.out h).mono ?_
  rintro e w8 ⟨uq, Sq, rfl, oq, lq, b8⟩
  obtain ⟨Pq, cq, rfl⟩ := ownM_form oq.here
  have bb8 := Below.next bbt b8
  replace om := om.below b8
  replace on := on.below b8
  replace km := km.below b8
  replace kn := kn.below b8
  replace ox := ox.below b8
  replace kx := kx.below b8
  replace os := os.below b8
  replace ks := ks.below b8
  replace od := od.below b8
  replace kd := kd.below b8
  replace ot := ot.below b8
  replace kt := kt.below b8
  have kq := box_new (w8) #[.string T.1, .bool T.2.1, .slice Pq T.2.2.length cq] 27
  have alq := below_al (Below.refl (w8).heap.size (w8)) (.cells #[.string T.1, .bool T.2.1, .slice Pq T.2.2.length cq] 27)
  have bbq := Below.next bb8 alq
  replace om := om.below alq
  replace on := on.below alq
  replace km := km.below alq
  replace kn := kn.below alq
  replace ox := ox.below alq
  replace kx := kx.below alq
  replace os := os.below alq
  replace ks := ks.below alq
  replace od := od.below alq
  replace kd := kd.below alq
  replace ot := ot.below alq
  replace kt := kt.below alq
  replace oq := oq.below alq
  have kx_c0 := kx.here.cell 0 _ rfl
  have kx_c1 := kx.here.cell 1 _ rfl
  have kx_c2 := kx.here.cell 2 _ rfl
  have km_c0 := km.here.cell 0 _ rfl
  have km_c1 := km.here.cell 1 _ rfl
  have km_c2 := km.here.cell 2 _ rfl
  go_wp2_with fail
  clear kx_c0 kx_c1 kx_c2 km_c0 km_c1 km_c2
  refine ((implMoneySame_any _ _ m m _ lm lm ox.here om.here (HT.out.below bbq)).mono fun _ _ h => postb_isM ESA.out h).mono ?_
  rintro e w9 ⟨rfl, b9⟩
  have bb9 := Below.next bbq b9
  replace om := om.below b9
  replace on := on.below b9
  replace km := km.below b9
  replace kn := kn.below b9
  replace ox := ox.below b9
  replace kx := kx.below b9
  replace os := os.below b9
  replace ks := ks.below b9
  replace od := od.below b9
  replace kd := kd.below b9
  replace ot := ot.below b9
  replace kt := kt.below b9
  replace oq := oq.below b9
  replace kq := kq.below b9
  have kd_c0 := kd.here.cell 0 _ rfl
  have kd_c1 := kd.here.cell 1 _ rfl
  have kd_c2 := kd.here.cell 2 _ rfl
  have km_c0 := km.here.cell 0 _ rfl
  have km_c1 := km.here.cell 1 _ rfl
  have km_c2 := km.here.cell 2 _ rfl
  go_wp2_with fail
  clear kd_c0 kd_c1 kd_c2 km_c0 km_c1 km_c2
  refine ((implMoneySame_any _ _ m m _ lm lm od.here om.here (HT.out.below bb9)).mono fun _ _ h => postb_isM ESA.out h).mono ?_
  rintro e w10 ⟨rfl, b10⟩
  have bb10 := Below.next bb9 b10
  replace om := om.below b10
  replace on := on.below b10
  replace km := km.below b10
  replace kn := kn.below b10
  replace ox := ox.below b10
  replace kx := kx.below b10
  replace os := os.below b10
  replace ks := ks.below b10
  replace od := od.below b10
  replace kd := kd.below b10
  replace ot := ot.below b10
  replace kt := kt.below b10
  replace oq := oq.below b10
  replace kq := kq.below b10
  have km_c0 := km.here.cell 0 _ rfl
  have km_c1 := km.here.cell 1 _ rfl
  have km_c2 := km.here.cell 2 _ rfl
  have kn_c0 := kn.here.cell 0 _ rfl
  have kn_c1 := kn.here.cell 1 _ rfl
  have kn_c2 := kn.here.cell 2 _ rfl
  go_wp2_with fail
  clear km_c0 km_c1 km_c2 kn_c0 kn_c1 kn_c2
  refine ((implIntCmp_any _ _ m.2 n.2 _ lm ln (OwnS.mk (ownM_open om.here)) (OwnS.mk (ownM_open on.here))).mono fun _ _ h => postn_isM ECC.out h).mono ?_
  rintro e w11 ⟨rfl, b11⟩
  have bb11 := Below.next bb10 b11
  replace om := om.below b11
  replace on := on.below b11
  replace km := km.below b11
  replace kn := kn.below b11
  replace ox := ox.below b11
  replace kx := kx.below b11
  replace os := os.below b11
  replace ks := ks.below b11
  replace od := od.below b11
  replace kd := kd.below b11
  replace ot := ot.below b11
  replace kt := kt.below b11
  replace oq := oq.below b11
  replace kq := kq.below b11
  have kt_c0 := kt.here.cell 0 _ rfl
  have kt_c1 := kt.here.cell 1 _ rfl
  have kt_c2 := kt.here.cell 2 _ rfl
  have kq_c0 := kq.here.cell 0 _ rfl
  have kq_c1 := kq.here.cell 1 _ rfl
  have kq_c2 := kq.here.cell 2 _ rfl
  go_wp2_with fail
  clear kt_c0 kt_c1 kt_c2 kq_c0 kq_c1 kq_c2
  refine ((implMoneySame_any _ _ T T _ lT lT ot.here oq.here (HT.out.below bb11)).mono fun _ _ h => postb_isM EST.out h).mono ?_
  rintro e w12 ⟨rfl, b12⟩
  have bb12 := Below.next bb11 b12
  replace om := om.below b12
  replace on := on.below b12
  replace km := km.below b12
  replace kn := kn.below b12
  replace ox := ox.below b12
  replace kx := kx.below b12
  replace os := os.below b12
  replace ks := ks.below b12
  replace od := od.below b12
  replace kd := kd.below b12
  replace ot := ot.below b12
  replace kt := kt.below b12
  replace oq := oq.below b12
  replace kq := kq.below b12
  clear kx ox ks os kd od kt ot kq oq
  by_cases hE : m.1 = ⟨#[69, 85, 82]⟩
  · have hEU : ¬ m.1 = (⟨#[85, 83, 68]⟩ : ByteArray) := by rw [hE]; decide
    have hEB : (m.1.toList == (⟨#[69, 85, 82]⟩ : ByteArray).toList) = true := by rw [hE]; exact beq_self_eq_true _
    have hEL : (m.1.toList == ([69, 85, 82] : List UInt8)) = true := by rw [← eur_list]; exact hEB
    have EMX := Lib.hid (add_mixed (m := m) (o := (⟨#[85, 83, 68]⟩, n.2)) hEU)
    clear hE hEU
    have hml := km.lt w1.heap.size (by simp)
    have hnl := kn.lt (w1.heap.size + 1) (by simp)
    have km_c0 := km.here.cell 0 _ rfl
    have km_c1 := km.here.cell 1 _ rfl
    have km_c2 := km.here.cell 2 _ rfl
    have kn_c0 := kn.here.cell 0 _ rfl
    have kn_c1 := kn.here.cell 1 _ rfl
    have kn_c2 := kn.here.cell 2 _ rfl
    go_wp2_with fail
    clear km_c0 km_c1 km_c2 kn_c0 kn_c1 kn_c2
    clear hml hnl hEB hEL
    have kO := box_new (w12) #[.string ⟨#[85, 83, 68]⟩, .bool n.2.1, .slice Pn n.2.2.length cn] 27
    have alO := below_al (Below.refl (w12).heap.size (w12)) (.cells #[.string ⟨#[85, 83, 68]⟩, .bool n.2.1, .slice Pn n.2.2.length cn] 27)
    have bbO := Below.next bb12 alO
    replace om := om.below alO
    replace on := on.below alO
    replace km := km.below alO
    replace kn := kn.below alO
    refine ((implMoneyAdd_any _ _ m (⟨#[85, 83, 68]⟩, n.2) _ lm ln om.here (show OwnM (.agg #[.string ⟨#[85, 83, 68]⟩, .bool n.2.1, .slice Pn n.2.2.length cn]) (⟨#[85, 83, 68]⟩, n.2) _ from by have h2 := ownM_open on.here; exact OwnM.mk (q := (⟨#[85, 83, 68]⟩, n.2)) h2) (HT.out.below bbO)).mono fun _ _ h => postMb_is EMX.out h).mono ?_
    rintro e w13 ⟨uz, Sz0, rfl, oz, lz, b13⟩
    obtain ⟨Pz, cz, rfl⟩ := ownM_form oz.here
    have bb13 := Below.next bbO b13
    replace om := om.below b13
    replace on := on.below b13
    replace km := km.below b13
    replace kn := kn.below b13
    have kz := box_new (w13) #[.string zeroM.1, .bool zeroM.2.1, .slice Pz zeroM.2.2.length cz] 27
    have alz := below_al (Below.refl (w13).heap.size (w13)) (.cells #[.string zeroM.1, .bool zeroM.2.1, .slice Pz zeroM.2.2.length cz] 27)
    have bbz := Below.next bb13 alz
    replace om := om.below alz
    replace on := on.below alz
    replace km := km.below alz
    replace kn := kn.below alz
    replace oz := oz.below alz
    have km_c0 := km.here.cell 0 _ rfl
    have km_c1 := km.here.cell 1 _ rfl
    have km_c2 := km.here.cell 2 _ rfl
    go_wp2_with fail
    clear km_c0 km_c1 km_c2
    refine ((implMoneyNeg_any _ m _ lm om.here (HT.out.below bbz)).mono fun _ _ h => postMb_is ENE.out h).mono ?_
    rintro e w14 ⟨ue, Se, rfl, oe, le, b14⟩
    obtain ⟨Pe, ce, rfl⟩ := ownM_form oe.here
    have bb14 := Below.next bbz b14
    replace om := om.below b14
    replace on := on.below b14
    replace km := km.below b14
    replace kn := kn.below b14
    replace oz := oz.below b14
    replace kz := kz.below b14
    have ke := box_new (w14) #[.string N.1, .bool N.2.1, .slice Pe N.2.2.length ce] 27
    have ale := below_al (Below.refl (w14).heap.size (w14)) (.cells #[.string N.1, .bool N.2.1, .slice Pe N.2.2.length ce] 27)
    have bbe := Below.next bb14 ale
    replace om := om.below ale
    replace on := on.below ale
    replace km := km.below ale
    replace kn := kn.below ale
    replace oz := oz.below ale
    replace kz := kz.below ale
    replace oe := oe.below ale
    have hze : (w14.alloc (.cells #[.string N.1, .bool N.2.1, .slice Pe N.2.2.length ce] 27)).heap.size = w14.heap.size + 1 := by simp
    have kl := box_new (w14.alloc (.cells #[.string N.1, .bool N.2.1, .slice Pe N.2.2.length ce] 27)) #[.string m.1, .bool m.2.1, .slice Pm m.2.2.length cm, .string N.1, .bool N.2.1, .slice Pe N.2.2.length ce] 27
    rw [hze] at kl
    have all := below_al (Below.refl (w14.alloc (.cells #[.string N.1, .bool N.2.1, .slice Pe N.2.2.length ce] 27)).heap.size (w14.alloc (.cells #[.string N.1, .bool N.2.1, .slice Pe N.2.2.length ce] 27))) (.cells #[.string m.1, .bool m.2.1, .slice Pm m.2.2.length cm, .string N.1, .bool N.2.1, .slice Pe N.2.2.length ce] 27)
    have bbl := Below.next bbe all
    have HOR := Lib.hid (ownMR_two (a := m) (b := N) kl.here (ownM_open (om.below all).here) (ownM_open (oe.below all).here))
    have HLE := Lib.hid (two_len lm lN)
    have km_c0 := km.here.cell 0 _ rfl
    have km_c1 := km.here.cell 1 _ rfl
    have km_c2 := km.here.cell 2 _ rfl
    have ke_c0 := ke.here.cell 0 _ rfl
    have ke_c1 := ke.here.cell 1 _ rfl
    have ke_c2 := ke.here.cell 2 _ rfl
    go_wp2_with fail
    clear km_c0 km_c1 km_c2 ke_c0 ke_c1 ke_c2
    replace om := om.below all
    replace on := on.below all
    replace km := km.below all
    replace kn := kn.below all
    replace oz := oz.below all
    replace kz := kz.below all
    replace oe := oe.below all
    replace ke := ke.below all
    refine ((implMoneySum_any m.1 _ [m, N] _ (show 2 ≤ 1099511627776 by omega) HLE.out HOR.out (fun _ _ _ h => by cases h; exact Nat.le_refl _) (HT.out.below bbl)).mono fun _ _ h => postMb_is ESM.out h).mono ?_
    rintro e w15 ⟨uy, Sy, rfl, oy, ly, b15⟩
    obtain ⟨Py, cy, rfl⟩ := ownM_form oy.here
    clear kl all
    have bb15 := Below.next bbl b15
    replace om := om.below b15
    replace on := on.below b15
    replace km := km.below b15
    replace kn := kn.below b15
    replace oz := oz.below b15
    replace kz := kz.below b15
    replace oe := oe.below b15
    replace ke := ke.below b15
    have ky := box_new (w15) #[.string Z.1, .bool Z.2.1, .slice Py Z.2.2.length cy] 27
    have aly := below_al (Below.refl (w15).heap.size (w15)) (.cells #[.string Z.1, .bool Z.2.1, .slice Py Z.2.2.length cy] 27)
    have bby := Below.next bb15 aly
    replace om := om.below aly
    replace on := on.below aly
    replace km := km.below aly
    replace kn := kn.below aly
    replace oz := oz.below aly
    replace kz := kz.below aly
    replace oe := oe.below aly
    replace ke := ke.below aly
    replace oy := oy.below aly
    have ky_c0 := ky.here.cell 0 _ rfl
    have ky_c1 := ky.here.cell 1 _ rfl
    have ky_c2 := ky.here.cell 2 _ rfl
    go_wp2_with fail
    clear ky_c0 ky_c1 ky_c2
    refine ((implIntSign_any _ Z.2 _ lZ (OwnS.mk (ownM_open oy.here))).mono fun _ _ h => postn_isM EZE.out h).mono ?_
    rintro e w16 ⟨rfl, b16⟩
    have bb16 := Below.next bby b16
    replace om := om.below b16
    replace on := on.below b16
    replace km := km.below b16
    replace kn := kn.below b16
    replace oz := oz.below b16
    replace kz := kz.below b16
    replace oe := oe.below b16
    replace ke := ke.below b16
    replace oy := oy.below b16
    replace ky := ky.below b16
    go_wp2
    go_ret
    exact ⟨rfl, bb16⟩
  · have hEB := bytes_neC hE
    have hEL : (m.1.toList == ([69, 85, 82] : List UInt8)) = false := by rw [← eur_list]; exact hEB
    have EMX := Lib.hid (add_mixed (m := m) (o := (⟨#[69, 85, 82]⟩, n.2)) hE)
    clear hE
    have hml := km.lt w1.heap.size (by simp)
    have hnl := kn.lt (w1.heap.size + 1) (by simp)
    have km_c0 := km.here.cell 0 _ rfl
    have km_c1 := km.here.cell 1 _ rfl
    have km_c2 := km.here.cell 2 _ rfl
    have kn_c0 := kn.here.cell 0 _ rfl
    have kn_c1 := kn.here.cell 1 _ rfl
    have kn_c2 := kn.here.cell 2 _ rfl
    go_wp2_with fail
    clear km_c0 km_c1 km_c2 kn_c0 kn_c1 kn_c2
    clear hml hnl hEB hEL
    have kO := box_new (w12) #[.string ⟨#[69, 85, 82]⟩, .bool n.2.1, .slice Pn n.2.2.length cn] 27
    have alO := below_al (Below.refl (w12).heap.size (w12)) (.cells #[.string ⟨#[69, 85, 82]⟩, .bool n.2.1, .slice Pn n.2.2.length cn] 27)
    have bbO := Below.next bb12 alO
    replace om := om.below alO
    replace on := on.below alO
    replace km := km.below alO
    replace kn := kn.below alO
    refine ((implMoneyAdd_any _ _ m (⟨#[69, 85, 82]⟩, n.2) _ lm ln om.here (show OwnM (.agg #[.string ⟨#[69, 85, 82]⟩, .bool n.2.1, .slice Pn n.2.2.length cn]) (⟨#[69, 85, 82]⟩, n.2) _ from by have h2 := ownM_open on.here; exact OwnM.mk (q := (⟨#[69, 85, 82]⟩, n.2)) h2) (HT.out.below bbO)).mono fun _ _ h => postMb_is EMX.out h).mono ?_
    rintro e w13 ⟨uz, Sz0, rfl, oz, lz, b13⟩
    obtain ⟨Pz, cz, rfl⟩ := ownM_form oz.here
    have bb13 := Below.next bbO b13
    replace om := om.below b13
    replace on := on.below b13
    replace km := km.below b13
    replace kn := kn.below b13
    have kz := box_new (w13) #[.string zeroM.1, .bool zeroM.2.1, .slice Pz zeroM.2.2.length cz] 27
    have alz := below_al (Below.refl (w13).heap.size (w13)) (.cells #[.string zeroM.1, .bool zeroM.2.1, .slice Pz zeroM.2.2.length cz] 27)
    have bbz := Below.next bb13 alz
    replace om := om.below alz
    replace on := on.below alz
    replace km := km.below alz
    replace kn := kn.below alz
    replace oz := oz.below alz
    have km_c0 := km.here.cell 0 _ rfl
    have km_c1 := km.here.cell 1 _ rfl
    have km_c2 := km.here.cell 2 _ rfl
    go_wp2_with fail
    clear km_c0 km_c1 km_c2
    refine ((implMoneyNeg_any _ m _ lm om.here (HT.out.below bbz)).mono fun _ _ h => postMb_is ENE.out h).mono ?_
    rintro e w14 ⟨ue, Se, rfl, oe, le, b14⟩
    obtain ⟨Pe, ce, rfl⟩ := ownM_form oe.here
    have bb14 := Below.next bbz b14
    replace om := om.below b14
    replace on := on.below b14
    replace km := km.below b14
    replace kn := kn.below b14
    replace oz := oz.below b14
    replace kz := kz.below b14
    have ke := box_new (w14) #[.string N.1, .bool N.2.1, .slice Pe N.2.2.length ce] 27
    have ale := below_al (Below.refl (w14).heap.size (w14)) (.cells #[.string N.1, .bool N.2.1, .slice Pe N.2.2.length ce] 27)
    have bbe := Below.next bb14 ale
    replace om := om.below ale
    replace on := on.below ale
    replace km := km.below ale
    replace kn := kn.below ale
    replace oz := oz.below ale
    replace kz := kz.below ale
    replace oe := oe.below ale
    have hze : (w14.alloc (.cells #[.string N.1, .bool N.2.1, .slice Pe N.2.2.length ce] 27)).heap.size = w14.heap.size + 1 := by simp
    have kl := box_new (w14.alloc (.cells #[.string N.1, .bool N.2.1, .slice Pe N.2.2.length ce] 27)) #[.string m.1, .bool m.2.1, .slice Pm m.2.2.length cm, .string N.1, .bool N.2.1, .slice Pe N.2.2.length ce] 27
    rw [hze] at kl
    have all := below_al (Below.refl (w14.alloc (.cells #[.string N.1, .bool N.2.1, .slice Pe N.2.2.length ce] 27)).heap.size (w14.alloc (.cells #[.string N.1, .bool N.2.1, .slice Pe N.2.2.length ce] 27))) (.cells #[.string m.1, .bool m.2.1, .slice Pm m.2.2.length cm, .string N.1, .bool N.2.1, .slice Pe N.2.2.length ce] 27)
    have bbl := Below.next bbe all
    have HOR := Lib.hid (ownMR_two (a := m) (b := N) kl.here (ownM_open (om.below all).here) (ownM_open (oe.below all).here))
    have HLE := Lib.hid (two_len lm lN)
    have km_c0 := km.here.cell 0 _ rfl
    have km_c1 := km.here.cell 1 _ rfl
    have km_c2 := km.here.cell 2 _ rfl
    have ke_c0 := ke.here.cell 0 _ rfl
    have ke_c1 := ke.here.cell 1 _ rfl
    have ke_c2 := ke.here.cell 2 _ rfl
    go_wp2_with fail
    clear km_c0 km_c1 km_c2 ke_c0 ke_c1 ke_c2
    replace om := om.below all
    replace on := on.below all
    replace km := km.below all
    replace kn := kn.below all
    replace oz := oz.below all
    replace kz := kz.below all
    replace oe := oe.below all
    replace ke := ke.below all
    refine ((implMoneySum_any m.1 _ [m, N] _ (show 2 ≤ 1099511627776 by omega) HLE.out HOR.out (fun _ _ _ h => by cases h; exact Nat.le_refl _) (HT.out.below bbl)).mono fun _ _ h => postMb_is ESM.out h).mono ?_
    rintro e w15 ⟨uy, Sy, rfl, oy, ly, b15⟩
    obtain ⟨Py, cy, rfl⟩ := ownM_form oy.here
    clear kl all
    have bb15 := Below.next bbl b15
    replace om := om.below b15
    replace on := on.below b15
    replace km := km.below b15
    replace kn := kn.below b15
    replace oz := oz.below b15
    replace kz := kz.below b15
    replace oe := oe.below b15
    replace ke := ke.below b15
    have ky := box_new (w15) #[.string Z.1, .bool Z.2.1, .slice Py Z.2.2.length cy] 27
    have aly := below_al (Below.refl (w15).heap.size (w15)) (.cells #[.string Z.1, .bool Z.2.1, .slice Py Z.2.2.length cy] 27)
    have bby := Below.next bb15 aly
    replace om := om.below aly
    replace on := on.below aly
    replace km := km.below aly
    replace kn := kn.below aly
    replace oz := oz.below aly
    replace kz := kz.below aly
    replace oe := oe.below aly
    replace ke := ke.below aly
    replace oy := oy.below aly
    have ky_c0 := ky.here.cell 0 _ rfl
    have ky_c1 := ky.here.cell 1 _ rfl
    have ky_c2 := ky.here.cell 2 _ rfl
    go_wp2_with fail
    clear ky_c0 ky_c1 ky_c2
    refine ((implIntSign_any _ Z.2 _ lZ (OwnS.mk (ownM_open oy.here))).mono fun _ _ h => postn_isM EZE.out h).mono ?_
    rintro e w16 ⟨rfl, b16⟩
    have bb16 := Below.next bby b16
    replace om := om.below b16
    replace on := on.below b16
    replace km := km.below b16
    replace kn := kn.below b16
    replace oz := oz.below b16
    replace kz := kz.below b16
    replace oe := oe.below b16
    replace ke := ke.below b16
    replace oy := oy.below b16
    replace ky := ky.below b16
    go_wp2
    go_ret
    exact ⟨rfl, bb16⟩
end Go.Proofs.YtcenmdiblbooeaaGreatDoor

namespace Go.Proofs.YtcenmdiblbooeaaGreatDoor
open Go.ChangeShapes Go.WideShapes Go.ChangeAt Go.RowKit

section
variable {H : Type} {enc : TypeId × Value → H} {P : Program} {W : World} {base : Nat} {t e : TypeId} {v : Value} {d : DataW H} {p : List MemPlace}

theorem arg_strings (ht : P.underlying t = some (.slice e)) (he : P.underlying e = some .string) (hc : P.cellsOf e = 1) (hv : Value.okWide P W .any base t v) (h : DataW.Trod enc P W 0 (fun _ => true) true t v d p) :
    ∃ ss : List ByteArray, Row W 0 W.heap.size v (ss.map Value.string) ∧ ss.length ≤ maxLen ∧ ∀ s ∈ ss, s.size ≤ maxLen := by
  obtain ⟨a0, len0, cap0, rfl⟩ := okWide_slice ht hv
  obtain ⟨fuel, hf⟩ := h
  rcases open_strings ht he hc hf with ⟨hcs, _⟩ | ⟨a, len, cap, ss, hcs, _, hl, hm, hz, _, hcell, hsz⟩
  · have hcs' : Value.slice a0 len0 cap0 = .slice none 0 0 := by simpa [Value.cells] using hcs
    cases hcs'
    exact ⟨[], Row.nil_ _ _, by simp, by simp⟩
  · have hcs' : Value.slice a0 len0 cap0 = .slice (some a) len cap := by simpa [Value.cells] using hcs
    obtain ⟨rfl, rfl, rfl⟩ : a0 = some a ∧ len = len0 ∧ cap = cap0 := by cases hcs'; exact ⟨rfl, rfl, rfl⟩
    have hzl : ss.length = cap := by simpa using hz
    have hlen : (ss.take len).length = len := by rw [List.length_take]; omega
    refine ⟨ss.take len, ⟨some a, cap, by rw [List.length_map, hlen], fun j u hu => ?_⟩, by omega, fun s hs => hsz s (List.mem_of_mem_take hs)⟩
    rw [List.getElem?_map] at hu
    obtain ⟨s, hs, rfl⟩ := Option.map_eq_some_iff.1 hu
    have hj : j < len := by rw [← hlen]; exact (List.getElem?_eq_some_iff.1 hs).1
    have hs' : ss[j]? = some s := by rw [← hs, List.getElem?_take_of_lt hj]
    have hc1 := hcell j (by omega)
    rw [List.getD_eq_getElem?_getD, hs'] at hc1
    exact ⟨a, rfl, Nat.zero_le _, by have := cell_lt hc1; rwa [block_add] at this, hc1⟩

theorem arg_ints (ht : P.underlying t = some (.slice e)) (he : P.underlying e = some (.int .i64)) (hc : P.cellsOf e = 1) (hv : Value.okWide P W .any base t v) (h : DataW.Trod enc P W 0 (fun _ => true) true t v d p) :
    ∃ xs : List Int, Row W 0 W.heap.size v (xs.map (Value.int .i64)) ∧ xs.length ≤ maxLen ∧ ∀ x ∈ xs, -9223372036854775808 ≤ x ∧ x ≤ 9223372036854775807 := by
  obtain ⟨a0, len0, cap0, rfl⟩ := okWide_slice ht hv
  obtain ⟨fuel, hf⟩ := h
  rcases open_ints ht he hc hf with ⟨hcs, _⟩ | ⟨a, len, cap, ss, hcs, _, hl, hm, hz, _, hcell, hsz⟩
  · have hcs' : Value.slice a0 len0 cap0 = .slice none 0 0 := by simpa [Value.cells] using hcs
    cases hcs'
    exact ⟨[], Row.nil_ _ _, by simp, by simp⟩
  · have hcs' : Value.slice a0 len0 cap0 = .slice (some a) len cap := by simpa [Value.cells] using hcs
    obtain ⟨rfl, rfl, rfl⟩ : a0 = some a ∧ len = len0 ∧ cap = cap0 := by cases hcs'; exact ⟨rfl, rfl, rfl⟩
    have hzl : ss.length = cap := by simpa using hz
    have hlen : (ss.take len).length = len := by rw [List.length_take]; omega
    refine ⟨ss.take len, ⟨some a, cap, by rw [List.length_map, hlen], fun j u hu => ?_⟩, by omega, fun s hs => ?_⟩
    · rw [List.getElem?_map] at hu
      obtain ⟨s, hs, rfl⟩ := Option.map_eq_some_iff.1 hu
      have hj : j < len := by rw [← hlen]; exact (List.getElem?_eq_some_iff.1 hs).1
      have hs' : ss[j]? = some s := by rw [← hs, List.getElem?_take_of_lt hj]
      have hc1 := hcell j (by omega)
      rw [List.getD_eq_getElem?_getD, hs'] at hc1
      exact ⟨a, rfl, Nat.zero_le _, by have := cell_lt hc1; rwa [block_add] at this, hc1⟩
    · have := hsz s (List.mem_of_mem_take hs)
      simpa [Lit.wf, IntKind.min, IntKind.max, IntKind.signed, IntKind.bits] using this

theorem arg_bytes (ht : P.underlying t = some (.slice e)) (he : P.underlying e = some (.int .u8)) (hc : P.cellsOf e = 1) (hv : Value.okWide P W .any base t v) (h : DataW.Trod enc P W 0 (fun _ => true) true t v d p) :
    ∃ bs : List Nat, Row W 0 W.heap.size v (bs.map fun b : Nat => Value.int .u8 (b : Int)) ∧ bs.length ≤ maxLen ∧ ∀ b ∈ bs, b < 256 := by
  obtain ⟨a0, len0, cap0, rfl⟩ := okWide_slice ht hv
  obtain ⟨fuel, hf⟩ := h
  rcases open_ints ht he hc hf with ⟨hcs, _⟩ | ⟨a, len, cap, ss, hcs, _, hl, hm, hz, _, hcell, hsz⟩
  · have hcs' : Value.slice a0 len0 cap0 = .slice none 0 0 := by simpa [Value.cells] using hcs
    cases hcs'
    exact ⟨[], Row.nil_ _ _, by simp, by simp⟩
  · have hcs' : Value.slice a0 len0 cap0 = .slice (some a) len cap := by simpa [Value.cells] using hcs
    obtain ⟨rfl, rfl, rfl⟩ : a0 = some a ∧ len = len0 ∧ cap = cap0 := by cases hcs'; exact ⟨rfl, rfl, rfl⟩
    have hzl : ss.length = cap := by simpa using hz
    have hlen : (ss.take len).length = len := by rw [List.length_take]; omega
    have hr : ∀ x ∈ ss.take len, 0 ≤ x ∧ x ≤ 255 := fun x hx => by
      have := hsz x (List.mem_of_mem_take hx)
      simpa [Lit.wf, IntKind.min, IntKind.max, IntKind.signed, IntKind.bits] using this
    refine ⟨(ss.take len).map Int.toNat, ⟨some a, cap, by rw [List.length_map, List.length_map, hlen], fun j u hu => ?_⟩, by rw [List.length_map]; omega, fun s hs => ?_⟩
    · rw [List.getElem?_map, List.getElem?_map] at hu
      obtain ⟨y, hy, rfl⟩ := Option.map_eq_some_iff.1 hu
      obtain ⟨s, hs, rfl⟩ := Option.map_eq_some_iff.1 hy
      have hj : j < len := by rw [← hlen]; exact (List.getElem?_eq_some_iff.1 hs).1
      have hs' : ss[j]? = some s := by rw [← hs, List.getElem?_take_of_lt hj]
      have hc1 := hcell j (by omega)
      rw [List.getD_eq_getElem?_getD, hs'] at hc1
      have h0 := hr s (List.mem_of_getElem? hs)
      have e0 : ((s.toNat : Nat) : Int) = s := by omega
      rw [e0]
      exact ⟨a, rfl, Nat.zero_le _, by have := cell_lt hc1; rwa [block_add] at this, hc1⟩
    · obtain ⟨x, hx, rfl⟩ := List.mem_map.1 hs
      have := hr x hx
      omega
end
end Go.Proofs.YtcenmdiblbooeaaGreatDoor
