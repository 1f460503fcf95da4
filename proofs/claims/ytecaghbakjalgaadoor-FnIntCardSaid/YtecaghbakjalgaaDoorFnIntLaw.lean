/-
  The law FnInt, walked over the contracts of package impl.
-/
import Derived.Test.YtecaghbakjalgaaDoorFnIntPlain
import Derived.Test.YtecaghbakjalgaaDoorDrawInt
import Derived.Test.YtecaghbakjalgaaDoorDrawNum
import Derived.Test.YtecaghbakjalgaaDoorSignImpl3
import Derived.Test.YtecaghbakjalgaaDoorSignImpl4
import Derived.Test.YtecaghbakjalgaaDoorSignImplCmp
import Derived.Deep.RegionHeld3
import Derived.Deep.DeepCutAuto
import Derived.IntWalk
namespace Go.Proofs.YtecaghbakjalgaaDoor
open Go.RowKit

theorem add_c {a b r : SI} (ha : a.2.length ≤ 1048576) (hb : b.2.length ≤ 1048576) (h : addS a b = r) : Hid (∀ (ua ub : Value) (W : World), OwnS ua a W → OwnS ub b W → Calls Tryd.prog 12 #[ua, ub] W (NewS r W)) :=
  Lib.hid fun ua ub W h1 h2 => by rw [← h]; exact implIntAdd_any ua ub a b W ha hb h1 h2
theorem sub_c {a b r : SI} (ha : a.2.length ≤ 1048576) (hb : b.2.length ≤ 1048576) (h : subS a b = r) : Hid (∀ (ua ub : Value) (W : World), OwnS ua a W → OwnS ub b W → Calls Tryd.prog 11 #[ua, ub] W (NewS r W)) :=
  Lib.hid fun ua ub W h1 h2 => by rw [← h]; exact implIntSub_any ua ub a b W ha hb h1 h2
theorem mul_c {a b r : SI} (ha : a.2.length ≤ 1048576) (hb : b.2.length ≤ 1048576) (h : mulS a b = r) : Hid (∀ (ua ub : Value) (W : World), OwnS ua a W → OwnS ub b W → Calls Tryd.prog 13 #[ua, ub] W (NewS r W)) :=
  Lib.hid fun ua ub W h1 h2 => by rw [← h]; exact implIntMul_any ua ub a b W ha hb h1 h2
theorem neg_c {a r : SI} (ha : a.2.length ≤ 1048576) (h : negS a = r) : Hid (∀ (ua : Value) (W : World), OwnS ua a W → Calls Tryd.prog 17 #[ua] W (NewS r W)) :=
  Lib.hid fun ua W h1 => by rw [← h]; exact implIntNeg_any ua a W ha h1
theorem abs_c {a r : SI} (ha : a.2.length ≤ 1048576) (h : absS a = r) : Hid (∀ (ua : Value) (W : World), OwnS ua a W → Calls Tryd.prog 18 #[ua] W (NewS r W)) :=
  Lib.hid fun ua W h1 => by rw [← h]; exact implIntAbs_any ua a W ha h1
theorem cmp_c {a b : SI} {c : Int} (ha : a.2.length ≤ 1048576) (hb : b.2.length ≤ 1048576) (h : cmpS a b = c) : Hid (∀ (ua ub : Value) (W : World), OwnS ua a W → OwnS ub b W → Calls Tryd.prog 10 #[ua, ub] W (Postn c W)) :=
  Lib.hid fun ua ub W h1 h2 => by rw [← h]; exact implIntCmp_any ua ub a b W ha hb h1 h2
theorem sign_c {a : SI} {c : Int} (ha : a.2.length ≤ 1048576) (h : cmpS a zeroS = c) : Hid (∀ (ua : Value) (W : World), OwnS ua a W → Calls Tryd.prog 16 #[ua] W (Postn c W)) :=
  Lib.hid fun ua W h1 => by rw [← h]; exact implIntSign_any ua a W ha h1
theorem sum_c {x y z r : SI} (hx : x.2.length ≤ 1048576) (hy : y.2.length ≤ 1048576) (hz : z.2.length ≤ 1048576) (h : sumS [x, y, z] = r) :
    Hid (∀ (g : Nat) (ux uy uz : Value) (W : World), BoxAt g #[.bool x.1, ux, .bool y.1, uy, .bool z.1, uz] 25 W → OwnI ux x.2 W → OwnI uy y.2 W → OwnI uz z.2 W → Calls Tryd.prog 19 #[.slice (some ⟨g, 0, none⟩) 3 3] W (NewS r W)) :=
  Lib.hid fun g ux uy uz W hg o1 o2 o3 => by
    rw [← h]
    refine implIntSum_any _ [x, y, z] W (by simp) (fun a ha => ?_) ⟨_, _, rfl, fun j a hj => ?_⟩
    · simp at ha
      rcases ha with rfl | rfl | rfl
      · exact hx
      · exact hy
      · exact hz
    · have hlt : g < W.heap.size := (Array.getElem?_eq_some_iff.1 hg).1
      match j, hj with
      | 0, hj =>
        have : x = a := by simpa using hj
        subst this
        exact ⟨⟨g, 0, none⟩, ux, rfl, hlt, by rw [add_own]; exact hg.cell 0 _ rfl, by rw [add_own]; exact hg.cell 1 _ rfl, o1⟩
      | 1, hj =>
        have : y = a := by simpa using hj
        subst this
        exact ⟨⟨g, 0, none⟩, uy, rfl, hlt, by rw [add_own]; exact hg.cell 2 _ rfl, by rw [add_own]; exact hg.cell 3 _ rfl, o2⟩
      | 2, hj =>
        have : z = a := by simpa using hj
        subst this
        exact ⟨⟨g, 0, none⟩, uz, rfl, hlt, by rw [add_own]; exact hg.cell 4 _ rfl, by rw [add_own]; exact hg.cell 5 _ rfl, o3⟩
      | j + 3, hj => simp at hj
theorem intStr_size (x : SI) : (intStrB x).size ≤ 502 := by
  have h := natTextB_size x.2
  unfold intStrB
  split
  · split
    · rw [ByteArray.size_append]; show 1 + _ ≤ _; omega
    · omega
  · show 0 ≤ 502; omega
theorem locs_two {w w1 : World} {B C : Nat} {ux uy : Value} {x y : SI} (ox : w1.ownsRow B 3 1 ux x.2.length (intsV x.2)) (oy : w1.ownsRow C 3 1 uy y.2.length (intsV y.2)) (hb : Below w.heap.size w w1) :
    At (locB w1.heap.size ux) (LocS w1.heap.size ux x) ((w1.alloc (.cells #[.bool x.1, ux] 25)).alloc (.cells #[.bool y.1, uy] 25)) ∧
    At (locB (w1.heap.size + 1) uy) (LocS (w1.heap.size + 1) uy y) ((w1.alloc (.cells #[.bool x.1, ux] 25)).alloc (.cells #[.bool y.1, uy] 25)) ∧
    Below w.heap.size w ((w1.alloc (.cells #[.bool x.1, ux] 25)).alloc (.cells #[.bool y.1, uy] 25)) := by
  have b1 := below_al (Below.refl w1.heap.size w1) (.cells #[.bool x.1, ux] 25)
  have b2 := below_al (Below.refl _ (w1.alloc (.cells #[.bool x.1, ux] 25))) (.cells #[.bool y.1, uy] 25)
  have s1 : (w1.alloc (.cells #[.bool x.1, ux] 25)).heap.size = w1.heap.size + 1 := by simp
  refine ⟨(LocS.at_ ⟨heap_alloc_new w1 _, own_zero (own_alloc ox _)⟩).below b2, ?_, below_al (below_al hb _) _⟩
  have h := LocS.at_ (g := (w1.alloc (.cells #[.bool x.1, ux] 25)).heap.size) (u := uy) (x := y) (W := (w1.alloc (.cells #[.bool x.1, ux] 25)).alloc (.cells #[.bool y.1, uy] 25)) ⟨heap_alloc_new _ _, own_zero (own_alloc (own_alloc oy _) _)⟩
  rw [s1] at h
  exact h

set_option maxHeartbeats 8000000 in
set_option maxRecDepth 100000 in
theorem lawInt_small (v : Value) (bs : List Nat) (w : World) (hb : ∀ b ∈ bs, b < 256) (hn : bs.length ≤ 1048576) (hr : Row w 0 w.heap.size v (bytesV bs)) (ht : Tab w) :
    Calls Tryd.prog 3 #[v] w fun e w' => e = .returned (.bool true) ∧ Below w.heap.size w w' := by
  have HB := Lib.hid hb
  clear hb
  have hr0 := hr
  obtain ⟨A0, c0, rfl, _⟩ := hr
  have hlen : (bytesV bs).length = bs.length := by simp [bytesV]
  rw [hlen] at hr0 ⊢
  clear hlen
  have HRB := Lib.hid (show ∀ W, Below w.heap.size w W → Row W 0 W.heap.size (.slice A0 bs.length c0) (bytesV bs) from fun W h => (hr0.below h (Nat.le_refl _)).wide (Nat.le_refl _) h.size)
  have HT := Lib.hid (show ∀ W, Below w.heap.size w W → Tab W from fun W h => ht.below h)
  clear hr0 ht
  go_enter Tryd.func3, Tryd.ntmps3
  go_upto_region 3 with fail
  go_cut [3, 4] (fun s t wx => ∃ (gx gy : Nat) (ux uy : Value) (x y : SI), s = .pointer (some ⟨gx, 0, none⟩) ∧ t = .pointer (some ⟨gy, 0, none⟩) ∧ Hid (okS x = true ∧ okS y = true ∧ x.2.length ≤ 4 ∧ y.2.length ≤ 4) ∧ At (locB gx ux) (LocS gx ux x) wx ∧ At (locB gy uy) (LocS gy uy y) wx ∧ Below w.heap.size w wx)
  case first =>
    go_wp2_with fail
    refine (makeInts_any _ bs _ HB.out hn (HRB.out _ (Below.refl _ _))).mono ?_
    rintro e w1 ⟨ux, uy, x, y, rfl, okx, oky, hlx, hly, ox, oy, b1⟩
    obtain ⟨Ax, cx, rfl⟩ := own_len ox
    obtain ⟨Ay, cy, rfl⟩ := own_len oy
    have hfin := Lib.hid (locs_two ox oy b1)
    have hok := Lib.hid (show okS x = true ∧ okS y = true ∧ x.2.length ≤ 4 ∧ y.2.length ≤ 4 from ⟨okx, oky, hlx, hly⟩)
    clear ox oy okx oky hlx hly
    go_wp2_with fail
    go_meet
    exact ⟨_, _, _, _, x, y, rfl, rfl, hok, hfin.out.1, hfin.out.2.1, hfin.out.2.2⟩
  rename World => w1
  obtain ⟨gx, gy, ux, uy, x, y, rfl, rfl, HOK, kx, ky, bb1⟩ := hcut
  obtain ⟨Ax, cx, ex⟩ := own_len kx.here.2
  subst ex
  obtain ⟨Ay, cy, ey⟩ := own_len ky.here.2
  subst ey
  have hlx : x.2.length ≤ 1048576 := by have := HOK.out.2.2.1; omega
  have hly : y.2.length ≤ 1048576 := by have := HOK.out.2.2.2; omega
  have HSB := Lib.hid (str_back HOK.out.1 HOK.out.2.2.1)
  have HSZ := Lib.hid (intStr_size x)
  have kx_c0 := kx.here.1.cell 0 _ rfl
  have kx_c1 := kx.here.1.cell 1 _ rfl
  go_upto_region 4 with fail
  go_cut [5, 6] (fun s t wx => NewLoc x w1 s wx ∧ t = .bool true)
  case first =>
    go_wp2_with fail
    refine (implIntStr_any _ x _ hlx (OwnS.mk (x := x) kx.here.2).rd (HT.out _ bb1)).mono ?_
    rintro e w2 ⟨rfl, b2⟩
    go_wp2_with fail
    refine (implStrInt_any (intStrB x) _ (by have := HSZ.out; omega) (HT.out _ (Below.next bb1 b2))).mono ?_
    rw [HSB.out.1, HSB.out.2]
    rintro e w3 ⟨u3, rfl, o3, b3⟩
    obtain ⟨A3, c3, rfl⟩ := own_len o3
    have b13 := Below.next b2 b3
    go_wp2_with fail
    go_meet
    exact ⟨newLoc_last o3 b2.size b13, rfl⟩
  rename World => w2
  clear kx_c0 kx_c1 HSB HSZ
  obtain ⟨⟨gs, us, rfl, ks, _, b2⟩, rfl⟩ := hcut
  obtain ⟨As, cs, es⟩ := own_len ks.here.2
  subst es
  have bb2 := Below.next bb1 b2
  replace kx := kx.below b2
  replace ky := ky.below b2
  obtain ⟨n1, hn1⟩ : ∃ n1, n1 = ofZ 1 := ⟨_, rfl⟩
  have HN1 := Lib.hid hn1
  have hln1 : n1.2.length ≤ 1048576 := by rw [hn1]; have := ofZ_len 1; omega
  clear hn1
  go_upto_region 5 with fail
  go_cut [7] (fun s wx => NewLoc n1 w2 s wx)
  case first =>
    go_wp2_with fail
    refine (implIntOf_any 1 _ (by omega) (by omega)).mono ?_
    rw [← HN1.out]
    rintro e w3 ⟨u3, rfl, o3, b3⟩
    obtain ⟨A3, c3, rfl⟩ := own_len o3
    go_wp2_with fail
    go_meet
    exact newLoc_last o3 (Nat.le_refl _) b3
  rename World => w3
  obtain ⟨gn1, un1, rfl, kn1, _, b3⟩ := hcut
  obtain ⟨An1, cn1, en1⟩ := own_len kn1.here.2
  subst en1
  have bb3 := Below.next bb2 b3
  replace kx := kx.below b3
  replace ky := ky.below b3
  replace ks := ks.below b3
  -- the numbers
  obtain ⟨hxz, hxb⟩ := short_z HOK.out.1 HOK.out.2.2.1
  obtain ⟨hyz, hyb⟩ := short_z HOK.out.2.1 HOK.out.2.2.2
  obtain ⟨X, hX⟩ : ∃ X, X = valS x := ⟨_, rfl⟩
  obtain ⟨Y, hY⟩ : ∃ Y, Y = valS y := ⟨_, rfl⟩
  rw [← hX] at hxz hxb
  rw [← hY] at hyz hyb
  obtain ⟨m1, m2, m3, m4, m5, m6, m7, m8, m9, m10, m11⟩ := sm_all hxb hyb
  have hn1 := HN1.out
  obtain ⟨r1, hr1⟩ : ∃ r, r = ofZ (X + Y) := ⟨_, rfl⟩
  obtain ⟨r2, hr2⟩ : ∃ r, r = ofZ (Y + 1) := ⟨_, rfl⟩
  obtain ⟨r3, hr3⟩ : ∃ r, r = ofZ (X * (Y + 1)) := ⟨_, rfl⟩
  obtain ⟨r4, hr4⟩ : ∃ r, r = ofZ (X * Y) := ⟨_, rfl⟩
  obtain ⟨r5, hr5⟩ : ∃ r, r = ofZ (-X) := ⟨_, rfl⟩
  obtain ⟨r6, hr6⟩ : ∃ r, r = ofZ (X.natAbs : Int) := ⟨_, rfl⟩
  obtain ⟨r7, hr7⟩ : ∃ r, r = ofZ (X + Y + 1) := ⟨_, rfl⟩
  obtain ⟨z0, hz0⟩ : ∃ r, r = ofZ 0 := ⟨_, rfl⟩
  have len : ∀ {r : SI} {z : Int}, r = ofZ z → r.2.length ≤ 1048576 := fun {_ z} h => by rw [h]; have := ofZ_len z; omega
  have C_c1 := cmp_c (c := 0) hlx hlx (by rw [hxz, cmpS_z m1 m1, cmpI_self])
  have C_t1 := add_c (r := r1) hlx hly (by rw [hr1, hxz, hyz, addS_z m1 m2])
  have C_t2 := sub_c (r := x) (len hr1) hly (by rw [hr1, hyz, subS_z m3 m2, Int.add_sub_cancel, ← hxz])
  have C_c2 := C_c1
  have C_t3 := add_c (r := r2) hly hln1 (by rw [hr2, hn1, hyz, addS_z m2 m8])
  have C_t4 := mul_c (r := r3) hlx (len hr2) (by rw [hr3, hr2, hxz, mulS_z m1 m4])
  have C_t5 := mul_c (r := r4) hlx hly (by rw [hr4, hxz, hyz, mulS_z m1 m2])
  have C_t6 := add_c (r := r3) (len hr4) hlx (by rw [hr4, hr3, hxz, addS_z m6 m1, Int.mul_add, Int.mul_one])
  have C_c3 := cmp_c (c := 0) (len hr3) (len hr3) (by rw [hr3, cmpS_z m5 m5, cmpI_self])
  have C_d1 := cmp_c (c := cmpI X Y) hlx hly (by rw [hxz, hyz, cmpS_z m1 m2])
  have C_d2 := cmp_c (c := cmpI Y X) hly hlx (by rw [hxz, hyz, cmpS_z m2 m1])
  have C_t7 := neg_c (r := r5) hlx (by rw [hr5, hxz, negS_z m1])
  have C_t8 := add_c (r := z0) hlx (len hr5) (by rw [hr5, hxz, hz0, addS_z m1 m9, Int.add_right_neg])
  have C_d3 := sign_c (c := 0) (len hz0) (by rw [hz0, ← ofZ_zero, cmpS_z m10 m10, cmpI_self])
  have C_t9 := abs_c (r := r6) hlx (by rw [hr6, hxz, absS_z m1])
  have C_d4 := sign_c (c := cmpI (X.natAbs : Int) 0) (len hr6) (by rw [hr6, ← ofZ_zero, cmpS_z m11 m10])
  have C_ts := sum_c (r := r7) hlx hly hln1 (by rw [hr7, hn1, hxz, hyz, sumS_z m1 m2 m3 m8 m10])
  have C_ta := C_t1
  have C_tb := add_c (r := r7) (len hr1) hln1 (by rw [hr7, hr1, hn1, addS_z m3 m8])
  have C_d6 := cmp_c (c := 0) (len hr7) (len hr7) (by rw [hr7, cmpS_z m7 m7, cmpI_self])
  have HCR := Lib.hid (show cmpI X Y = -cmpI Y X ∧ -1 ≤ cmpI Y X ∧ cmpI Y X ≤ 1 ∧ 0 ≤ cmpI (X.natAbs : Int) 0 ∧ cmpI (X.natAbs : Int) 0 ≤ 1 from ⟨cmpI_turn X Y, (cmpI_range Y X).1, (cmpI_range Y X).2, by unfold cmpI; split <;> (try split) <;> omega, (cmpI_range _ _).2⟩)
  clear len m1 m2 m3 m4 m5 m6 m7 m8 m9 m10 m11 hr1 hr2 hr3 hr4 hr5 hr6 hr7 hz0 hxz hyz hxb hyb hX hY hn1 b2 b3 HN1 HOK
  generalize cmpI X Y = e1 at *
  generalize cmpI Y X = e2 at *
  generalize cmpI (X.natAbs : Int) 0 = e3 at *
  have OFx := Lib.hid (show ∀ W, Below w3.heap.size w3 W → OwnI (.slice Ax x.2.length cx) x.2 W from fun W hb => (kx.below hb).here.2)
  have kx_c0 := kx.here.1.cell 0 _ rfl
  have kx_c1 := kx.here.1.cell 1 _ rfl
  have OFy := Lib.hid (show ∀ W, Below w3.heap.size w3 W → OwnI (.slice Ay y.2.length cy) y.2 W from fun W hb => (ky.below hb).here.2)
  have ky_c0 := ky.here.1.cell 0 _ rfl
  have ky_c1 := ky.here.1.cell 1 _ rfl
  have OFs := Lib.hid (show ∀ W, Below w3.heap.size w3 W → OwnI (.slice As x.2.length cs) x.2 W from fun W hb => (ks.below hb).here.2)
  have ks_c0 := ks.here.1.cell 0 _ rfl
  have ks_c1 := ks.here.1.cell 1 _ rfl
  have OFn1 := Lib.hid (show ∀ W, Below w3.heap.size w3 W → OwnI (.slice An1 n1.2.length cn1) n1.2 W from fun W hb => (kn1.below hb).here.2)
  have kn1_c0 := kn1.here.1.cell 0 _ rfl
  have kn1_c1 := kn1.here.1.cell 1 _ rfl
  have KL := Lib.hid (show ∀ W, Below w3.heap.size w3 W → W.cell? ⟨gx, 0, none⟩ = some (.bool x.1) ∧ W.cell? ⟨gx, 1, none⟩ = some (.slice Ax x.2.length cx) ∧ W.cell? ⟨gy, 0, none⟩ = some (.bool y.1) ∧ W.cell? ⟨gy, 1, none⟩ = some (.slice Ay y.2.length cy) ∧ W.cell? ⟨gs, 0, none⟩ = some (.bool x.1) ∧ W.cell? ⟨gs, 1, none⟩ = some (.slice As x.2.length cs) ∧ W.cell? ⟨gn1, 0, none⟩ = some (.bool n1.1) ∧ W.cell? ⟨gn1, 1, none⟩ = some (.slice An1 n1.2.length cn1) ∧ Hid (Below w3.heap.size w3 W) from
    fun W hb => ⟨(kx.below hb).here.1.cell 0 _ rfl, (kx.below hb).here.1.cell 1 _ rfl, (ky.below hb).here.1.cell 0 _ rfl, (ky.below hb).here.1.cell 1 _ rfl, (ks.below hb).here.1.cell 0 _ rfl, (ks.below hb).here.1.cell 1 _ rfl, (kn1.below hb).here.1.cell 0 _ rfl, (kn1.below hb).here.1.cell 1 _ rfl, Lib.hid hb⟩)
  go_upto_region 6 with fail
  go_cut [56] (fun s wx => s = .bool false ∧ Below w3.heap.size w3 wx)
  case first =>
    have HB0 := Lib.hid (show Below w3.heap.size w3 w3.drew from (Below.refl _ _).drew)
    clear kx_c0 kx_c1 ky_c0 ky_c1 ks_c0 ks_c1 kn1_c0 kn1_c1
    go_region_held3 (fun W => W.cell? ⟨gx, 0, none⟩ = some (.bool x.1) ∧ W.cell? ⟨gx, 1, none⟩ = some (.slice Ax x.2.length cx) ∧ W.cell? ⟨gy, 0, none⟩ = some (.bool y.1) ∧ W.cell? ⟨gy, 1, none⟩ = some (.slice Ay y.2.length cy) ∧ W.cell? ⟨gs, 0, none⟩ = some (.bool x.1) ∧ W.cell? ⟨gs, 1, none⟩ = some (.slice As x.2.length cs) ∧ W.cell? ⟨gn1, 0, none⟩ = some (.bool n1.1) ∧ W.cell? ⟨gn1, 1, none⟩ = some (.slice An1 n1.2.length cn1) ∧ Hid (Below w3.heap.size w3 W))
      ((refine KL.out _ ?_; (first | exact HB_c3.out | exact below_al HB_c3.out _ | exact HB_t6.out | exact below_al HB_t6.out _ | exact HB_t5.out | exact below_al HB_t5.out _ | exact HB_t4.out | exact below_al HB_t4.out _ | exact HB_t3.out | exact below_al HB_t3.out _ | exact HB_c2.out | exact below_al HB_c2.out _ | exact HB_t2.out | exact below_al HB_t2.out _ | exact HB_t1.out | exact below_al HB_t1.out _ | exact HB_c1.out | exact below_al HB_c1.out _ | exact HB0.out | fail)))
      (first
        | (go_at_call 10; (have hBB := (‹_ ∧ _ ∧ _ ∧ _ ∧ _ ∧ _ ∧ _ ∧ _ ∧ Hid (Below w3.heap.size w3 _)›).2.2.2.2.2.2.2.2); (with_reducible refine (C_c1.out _ _ _ (OwnS.mk (x := x) (OFs.out _ hBB.out)) (OwnS.mk (x := x) (OFx.out _ hBB.out))).mono ?_); rintro e w_c1 ⟨rfl, b_c1⟩; have HB_c1 := Lib.hid (Below.next hBB.out b_c1); (try (first | replace o_t1 := At.below o_t1 b_c1 | replace o_t1 := At.below (At.below o_t1 (below_al (Below.refl _ _) _)) b_c1)); (try (first | replace o_t2 := At.below o_t2 b_c1 | replace o_t2 := At.below (At.below o_t2 (below_al (Below.refl _ _) _)) b_c1)); (try (first | replace o_t3 := At.below o_t3 b_c1 | replace o_t3 := At.below (At.below o_t3 (below_al (Below.refl _ _) _)) b_c1)); (try (first | replace o_t4 := At.below o_t4 b_c1 | replace o_t4 := At.below (At.below o_t4 (below_al (Below.refl _ _) _)) b_c1)); (try (first | replace o_t5 := At.below o_t5 b_c1 | replace o_t5 := At.below (At.below o_t5 (below_al (Below.refl _ _) _)) b_c1)); (try (first | replace o_t6 := At.below o_t6 b_c1 | replace o_t6 := At.below (At.below o_t6 (below_al (Below.refl _ _) _)) b_c1)); clear hBB b_c1)
        | (go_at_call 12; (have hBB := (‹_ ∧ _ ∧ _ ∧ _ ∧ _ ∧ _ ∧ _ ∧ _ ∧ Hid (Below w3.heap.size w3 _)›).2.2.2.2.2.2.2.2); (with_reducible refine (C_t1.out _ _ _ (OwnS.mk (x := x) (OFx.out _ hBB.out)) (OwnS.mk (x := y) (OFy.out _ hBB.out))).mono ?_); rintro e w_t1 ⟨u_t1, rfl, p_t1, b_t1⟩; have HB_t1 := Lib.hid (Below.next hBB.out b_t1); (try (first | replace o_t2 := At.below o_t2 b_t1 | replace o_t2 := At.below (At.below o_t2 (below_al (Below.refl _ _) _)) b_t1)); (try (first | replace o_t3 := At.below o_t3 b_t1 | replace o_t3 := At.below (At.below o_t3 (below_al (Below.refl _ _) _)) b_t1)); (try (first | replace o_t4 := At.below o_t4 b_t1 | replace o_t4 := At.below (At.below o_t4 (below_al (Below.refl _ _) _)) b_t1)); (try (first | replace o_t5 := At.below o_t5 b_t1 | replace o_t5 := At.below (At.below o_t5 (below_al (Below.refl _ _) _)) b_t1)); (try (first | replace o_t6 := At.below o_t6 b_t1 | replace o_t6 := At.below (At.below o_t6 (below_al (Below.refl _ _) _)) b_t1)); have o_t1 := own_at' p_t1; clear p_t1; clear hBB b_t1)
        | (go_at_call 11; (have hBB := (‹_ ∧ _ ∧ _ ∧ _ ∧ _ ∧ _ ∧ _ ∧ _ ∧ Hid (Below w3.heap.size w3 _)›).2.2.2.2.2.2.2.2); (with_reducible refine (C_t2.out _ _ _ (OwnS.mk (x := r1) (At.here o_t1)) (OwnS.mk (x := y) (OFy.out _ hBB.out))).mono ?_); rintro e w_t2 ⟨u_t2, rfl, p_t2, b_t2⟩; have HB_t2 := Lib.hid (Below.next hBB.out b_t2); (try (first | replace o_t1 := At.below o_t1 b_t2 | replace o_t1 := At.below (At.below o_t1 (below_al (Below.refl _ _) _)) b_t2)); (try (first | replace o_t3 := At.below o_t3 b_t2 | replace o_t3 := At.below (At.below o_t3 (below_al (Below.refl _ _) _)) b_t2)); (try (first | replace o_t4 := At.below o_t4 b_t2 | replace o_t4 := At.below (At.below o_t4 (below_al (Below.refl _ _) _)) b_t2)); (try (first | replace o_t5 := At.below o_t5 b_t2 | replace o_t5 := At.below (At.below o_t5 (below_al (Below.refl _ _) _)) b_t2)); (try (first | replace o_t6 := At.below o_t6 b_t2 | replace o_t6 := At.below (At.below o_t6 (below_al (Below.refl _ _) _)) b_t2)); have o_t2 := own_at' p_t2; clear p_t2; clear hBB b_t2)
        | (go_at_call 10; (have hBB := (‹_ ∧ _ ∧ _ ∧ _ ∧ _ ∧ _ ∧ _ ∧ _ ∧ Hid (Below w3.heap.size w3 _)›).2.2.2.2.2.2.2.2); (with_reducible refine (C_c2.out _ _ _ (OwnS.mk (x := x) (At.here o_t2)) (OwnS.mk (x := x) (OFx.out _ hBB.out))).mono ?_); rintro e w_c2 ⟨rfl, b_c2⟩; have HB_c2 := Lib.hid (Below.next hBB.out b_c2); (try (first | replace o_t1 := At.below o_t1 b_c2 | replace o_t1 := At.below (At.below o_t1 (below_al (Below.refl _ _) _)) b_c2)); (try (first | replace o_t2 := At.below o_t2 b_c2 | replace o_t2 := At.below (At.below o_t2 (below_al (Below.refl _ _) _)) b_c2)); (try (first | replace o_t3 := At.below o_t3 b_c2 | replace o_t3 := At.below (At.below o_t3 (below_al (Below.refl _ _) _)) b_c2)); (try (first | replace o_t4 := At.below o_t4 b_c2 | replace o_t4 := At.below (At.below o_t4 (below_al (Below.refl _ _) _)) b_c2)); (try (first | replace o_t5 := At.below o_t5 b_c2 | replace o_t5 := At.below (At.below o_t5 (below_al (Below.refl _ _) _)) b_c2)); (try (first | replace o_t6 := At.below o_t6 b_c2 | replace o_t6 := At.below (At.below o_t6 (below_al (Below.refl _ _) _)) b_c2)); clear hBB b_c2)
        | (go_at_call 12; (have hBB := (‹_ ∧ _ ∧ _ ∧ _ ∧ _ ∧ _ ∧ _ ∧ _ ∧ Hid (Below w3.heap.size w3 _)›).2.2.2.2.2.2.2.2); (with_reducible refine (C_t3.out _ _ _ (OwnS.mk (x := y) (OFy.out _ hBB.out)) (OwnS.mk (x := n1) (OFn1.out _ hBB.out))).mono ?_); rintro e w_t3 ⟨u_t3, rfl, p_t3, b_t3⟩; have HB_t3 := Lib.hid (Below.next hBB.out b_t3); (try (first | replace o_t1 := At.below o_t1 b_t3 | replace o_t1 := At.below (At.below o_t1 (below_al (Below.refl _ _) _)) b_t3)); (try (first | replace o_t2 := At.below o_t2 b_t3 | replace o_t2 := At.below (At.below o_t2 (below_al (Below.refl _ _) _)) b_t3)); (try (first | replace o_t4 := At.below o_t4 b_t3 | replace o_t4 := At.below (At.below o_t4 (below_al (Below.refl _ _) _)) b_t3)); (try (first | replace o_t5 := At.below o_t5 b_t3 | replace o_t5 := At.below (At.below o_t5 (below_al (Below.refl _ _) _)) b_t3)); (try (first | replace o_t6 := At.below o_t6 b_t3 | replace o_t6 := At.below (At.below o_t6 (below_al (Below.refl _ _) _)) b_t3)); have o_t3 := own_at' p_t3; clear p_t3; clear hBB b_t3)
        | (go_at_call 13; (have hBB := (‹_ ∧ _ ∧ _ ∧ _ ∧ _ ∧ _ ∧ _ ∧ _ ∧ Hid (Below w3.heap.size w3 _)›).2.2.2.2.2.2.2.2); (with_reducible refine (C_t4.out _ _ _ (OwnS.mk (x := x) (OFx.out _ hBB.out)) (OwnS.mk (x := r2) (At.here o_t3))).mono ?_); rintro e w_t4 ⟨u_t4, rfl, p_t4, b_t4⟩; have HB_t4 := Lib.hid (Below.next hBB.out b_t4); (try (first | replace o_t1 := At.below o_t1 b_t4 | replace o_t1 := At.below (At.below o_t1 (below_al (Below.refl _ _) _)) b_t4)); (try (first | replace o_t2 := At.below o_t2 b_t4 | replace o_t2 := At.below (At.below o_t2 (below_al (Below.refl _ _) _)) b_t4)); (try (first | replace o_t3 := At.below o_t3 b_t4 | replace o_t3 := At.below (At.below o_t3 (below_al (Below.refl _ _) _)) b_t4)); (try (first | replace o_t5 := At.below o_t5 b_t4 | replace o_t5 := At.below (At.below o_t5 (below_al (Below.refl _ _) _)) b_t4)); (try (first | replace o_t6 := At.below o_t6 b_t4 | replace o_t6 := At.below (At.below o_t6 (below_al (Below.refl _ _) _)) b_t4)); have o_t4 := own_at' p_t4; clear p_t4; clear hBB b_t4)
        | (go_at_call 13; (have hBB := (‹_ ∧ _ ∧ _ ∧ _ ∧ _ ∧ _ ∧ _ ∧ _ ∧ Hid (Below w3.heap.size w3 _)›).2.2.2.2.2.2.2.2); (with_reducible refine (C_t5.out _ _ _ (OwnS.mk (x := x) (OFx.out _ hBB.out)) (OwnS.mk (x := y) (OFy.out _ hBB.out))).mono ?_); rintro e w_t5 ⟨u_t5, rfl, p_t5, b_t5⟩; have HB_t5 := Lib.hid (Below.next hBB.out b_t5); (try (first | replace o_t1 := At.below o_t1 b_t5 | replace o_t1 := At.below (At.below o_t1 (below_al (Below.refl _ _) _)) b_t5)); (try (first | replace o_t2 := At.below o_t2 b_t5 | replace o_t2 := At.below (At.below o_t2 (below_al (Below.refl _ _) _)) b_t5)); (try (first | replace o_t3 := At.below o_t3 b_t5 | replace o_t3 := At.below (At.below o_t3 (below_al (Below.refl _ _) _)) b_t5)); (try (first | replace o_t4 := At.below o_t4 b_t5 | replace o_t4 := At.below (At.below o_t4 (below_al (Below.refl _ _) _)) b_t5)); (try (first | replace o_t6 := At.below o_t6 b_t5 | replace o_t6 := At.below (At.below o_t6 (below_al (Below.refl _ _) _)) b_t5)); have o_t5 := own_at' p_t5; clear p_t5; clear hBB b_t5)
        | (go_at_call 12; (have hBB := (‹_ ∧ _ ∧ _ ∧ _ ∧ _ ∧ _ ∧ _ ∧ _ ∧ Hid (Below w3.heap.size w3 _)›).2.2.2.2.2.2.2.2); (with_reducible refine (C_t6.out _ _ _ (OwnS.mk (x := r4) (At.here o_t5)) (OwnS.mk (x := x) (OFx.out _ hBB.out))).mono ?_); rintro e w_t6 ⟨u_t6, rfl, p_t6, b_t6⟩; have HB_t6 := Lib.hid (Below.next hBB.out b_t6); (try (first | replace o_t1 := At.below o_t1 b_t6 | replace o_t1 := At.below (At.below o_t1 (below_al (Below.refl _ _) _)) b_t6)); (try (first | replace o_t2 := At.below o_t2 b_t6 | replace o_t2 := At.below (At.below o_t2 (below_al (Below.refl _ _) _)) b_t6)); (try (first | replace o_t3 := At.below o_t3 b_t6 | replace o_t3 := At.below (At.below o_t3 (below_al (Below.refl _ _) _)) b_t6)); (try (first | replace o_t4 := At.below o_t4 b_t6 | replace o_t4 := At.below (At.below o_t4 (below_al (Below.refl _ _) _)) b_t6)); (try (first | replace o_t5 := At.below o_t5 b_t6 | replace o_t5 := At.below (At.below o_t5 (below_al (Below.refl _ _) _)) b_t6)); have o_t6 := own_at' p_t6; clear p_t6; clear hBB b_t6)
        | (go_at_call 10; (have hBB := (‹_ ∧ _ ∧ _ ∧ _ ∧ _ ∧ _ ∧ _ ∧ _ ∧ Hid (Below w3.heap.size w3 _)›).2.2.2.2.2.2.2.2); (with_reducible refine (C_c3.out _ _ _ (OwnS.mk (x := r3) (At.here o_t4)) (OwnS.mk (x := r3) (At.here o_t6))).mono ?_); rintro e w_c3 ⟨rfl, b_c3⟩; have HB_c3 := Lib.hid (Below.next hBB.out b_c3); (try (first | replace o_t1 := At.below o_t1 b_c3 | replace o_t1 := At.below (At.below o_t1 (below_al (Below.refl _ _) _)) b_c3)); (try (first | replace o_t2 := At.below o_t2 b_c3 | replace o_t2 := At.below (At.below o_t2 (below_al (Below.refl _ _) _)) b_c3)); (try (first | replace o_t3 := At.below o_t3 b_c3 | replace o_t3 := At.below (At.below o_t3 (below_al (Below.refl _ _) _)) b_c3)); (try (first | replace o_t4 := At.below o_t4 b_c3 | replace o_t4 := At.below (At.below o_t4 (below_al (Below.refl _ _) _)) b_c3)); (try (first | replace o_t5 := At.below o_t5 b_c3 | replace o_t5 := At.below (At.below o_t5 (below_al (Below.refl _ _) _)) b_c3)); (try (first | replace o_t6 := At.below o_t6 b_c3 | replace o_t6 := At.below (At.below o_t6 (below_al (Below.refl _ _) _)) b_c3)); clear hBB b_c3))
    all_goals (go_wp2_with fail; go_meet; exact ⟨rfl, HB_c3.out⟩)
  rename World => w4
  obtain ⟨rfl, b4⟩ := hcut
  have bb4 := Below.next bb3 b4
  replace kx := kx.below b4
  replace ky := ky.below b4
  replace ks := ks.below b4
  replace kn1 := kn1.below b4
  clear b4 KL OFx OFy OFs OFn1 kx_c0 kx_c1 ky_c0 ky_c1 ks_c0 ks_c1 kn1_c0 kn1_c1 C_c1 C_t1 C_t2 C_c2 C_t3 C_t4 C_t5 C_t6 C_c3
  have hnr := numX_range bs 100000 (by omega)
  have HNUM := Lib.hid (fun (W : World) (h : Below w.heap.size w W) => makeNumS_any 100000 _ bs W (by omega) (by omega) HB.out hn (HRB.out W h))
  generalize numX bs 100000 = num at *
  obtain ⟨hn0, hn1⟩ := hnr
  have HNS := Lib.hid (numS_z (z := num - 50000) (by omega) (by omega))
  obtain ⟨zz, hzz⟩ : ∃ zz, num - 50000 = zz := ⟨_, rfl⟩
  rw [hzz] at HNS
  have hzr : -50000 ≤ zz ∧ zz ≤ 50000 := by omega
  have HZZ := Lib.hid hzz
  have HZR := Lib.hid hzr
  go_upto_region 8 with fail
  go_cut [8, 9] (fun s t wx => s = .int .i64 zz ∧ t = .bool true ∧ Below w4.heap.size w4 wx)
  case first =>
    clear hzr
    go_wp2_with fail
    refine (HNUM.out _ bb4).mono ?_
    rintro e w5 ⟨rfl, b5⟩
    go_wp2_with fail
    first | rw [HZZ.out] | skip
    refine (implIntOf_any zz _ (by have := HZR.out; omega) (by have := HZR.out; omega)).mono ?_
    rintro e w6 ⟨u6, rfl, o6, b6⟩
    have hzl := ofZ_len zz
    go_wp2_with fail
    refine (implIntNum_any _ (ofZ zz) _ (by omega) (OwnS.mk (x := ofZ zz) (ownI_of o6))).mono ?_
    rw [HNS.out]
    rintro e w7 ⟨rfl, b7⟩
    have b47 := Below.next (Below.next b5 b6) b7
    go_wp2_with fail
    go_meet
    exact ⟨rfl, rfl, b47⟩
  rename World => w5
  obtain ⟨rfl, rfl, b5⟩ := hcut
  have bb5 := Below.next bb4 b5
  replace kx := kx.below b5
  replace ky := ky.below b5
  replace ks := ks.below b5
  replace kn1 := kn1.below b5
  have C_d5 := Lib.hid (fun (W : World) (h : Below w5.heap.size w5 W) => HNUM.out W (Below.next bb5 h))
  have HWZ := Lib.hid (show IntKind.i64.wrap (num - 50000) = zz by rw [hzz]; exact IntWalk.i64_in _ (by omega))
  have HWE := Lib.hid (show IntKind.i64.wrap (-e2) = e1 by have := HCR.out; rw [← this.1]; exact IntWalk.i64_in _ (by omega))
  have HE3 := Lib.hid (show decide (0 ≤ e3) = true from decide_eq_true HCR.out.2.2.2.1)
  clear b5 HNUM hzr hn0 hn1 hzz
  have OFx := Lib.hid (show ∀ W, Below w5.heap.size w5 W → OwnI (.slice Ax x.2.length cx) x.2 W from fun W hb => (kx.below hb).here.2)
  have kx_c0 := kx.here.1.cell 0 _ rfl
  have kx_c1 := kx.here.1.cell 1 _ rfl
  have OFy := Lib.hid (show ∀ W, Below w5.heap.size w5 W → OwnI (.slice Ay y.2.length cy) y.2 W from fun W hb => (ky.below hb).here.2)
  have ky_c0 := ky.here.1.cell 0 _ rfl
  have ky_c1 := ky.here.1.cell 1 _ rfl
  have OFs := Lib.hid (show ∀ W, Below w5.heap.size w5 W → OwnI (.slice As x.2.length cs) x.2 W from fun W hb => (ks.below hb).here.2)
  have ks_c0 := ks.here.1.cell 0 _ rfl
  have ks_c1 := ks.here.1.cell 1 _ rfl
  have OFn1 := Lib.hid (show ∀ W, Below w5.heap.size w5 W → OwnI (.slice An1 n1.2.length cn1) n1.2 W from fun W hb => (kn1.below hb).here.2)
  have kn1_c0 := kn1.here.1.cell 0 _ rfl
  have kn1_c1 := kn1.here.1.cell 1 _ rfl
  have KL := Lib.hid (show ∀ W, Below w5.heap.size w5 W → W.cell? ⟨gx, 0, none⟩ = some (.bool x.1) ∧ W.cell? ⟨gx, 1, none⟩ = some (.slice Ax x.2.length cx) ∧ W.cell? ⟨gy, 0, none⟩ = some (.bool y.1) ∧ W.cell? ⟨gy, 1, none⟩ = some (.slice Ay y.2.length cy) ∧ W.cell? ⟨gs, 0, none⟩ = some (.bool x.1) ∧ W.cell? ⟨gs, 1, none⟩ = some (.slice As x.2.length cs) ∧ W.cell? ⟨gn1, 0, none⟩ = some (.bool n1.1) ∧ W.cell? ⟨gn1, 1, none⟩ = some (.slice An1 n1.2.length cn1) ∧ Hid (Below w5.heap.size w5 W) from
    fun W hb => ⟨(kx.below hb).here.1.cell 0 _ rfl, (kx.below hb).here.1.cell 1 _ rfl, (ky.below hb).here.1.cell 0 _ rfl, (ky.below hb).here.1.cell 1 _ rfl, (ks.below hb).here.1.cell 0 _ rfl, (ks.below hb).here.1.cell 1 _ rfl, (kn1.below hb).here.1.cell 0 _ rfl, (kn1.below hb).here.1.cell 1 _ rfl, Lib.hid hb⟩)
  go_upto_region 9 with fail
  go_cut [2] (fun s wx => s = .bool true ∧ Below w5.heap.size w5 wx)
  case first =>
    have HB0 := Lib.hid (show Below w5.heap.size w5 w5.drew from (Below.refl _ _).drew)
    clear kx_c0 kx_c1 ky_c0 ky_c1 ks_c0 ks_c1 kn1_c0 kn1_c1
    have hwz := HWZ.out
    have hwe := HWE.out
    have he3 := HE3.out
    go_region_held3 (fun W => W.cell? ⟨gx, 0, none⟩ = some (.bool x.1) ∧ W.cell? ⟨gx, 1, none⟩ = some (.slice Ax x.2.length cx) ∧ W.cell? ⟨gy, 0, none⟩ = some (.bool y.1) ∧ W.cell? ⟨gy, 1, none⟩ = some (.slice Ay y.2.length cy) ∧ W.cell? ⟨gs, 0, none⟩ = some (.bool x.1) ∧ W.cell? ⟨gs, 1, none⟩ = some (.slice As x.2.length cs) ∧ W.cell? ⟨gn1, 0, none⟩ = some (.bool n1.1) ∧ W.cell? ⟨gn1, 1, none⟩ = some (.slice An1 n1.2.length cn1) ∧ Hid (Below w5.heap.size w5 W))
        ((refine KL.out _ ?_; (first | exact HB_d6.out | exact below_al HB_d6.out _ | exact HB_tb.out | exact below_al HB_tb.out _ | exact HB_ta.out | exact below_al HB_ta.out _ | exact HB_ts.out | exact below_al HB_ts.out _ | exact HB_d5.out | exact below_al HB_d5.out _ | exact HB_d4.out | exact below_al HB_d4.out _ | exact HB_t9.out | exact below_al HB_t9.out _ | exact HB_d3.out | exact below_al HB_d3.out _ | exact HB_t8.out | exact below_al HB_t8.out _ | exact HB_t7.out | exact below_al HB_t7.out _ | exact HB_d2.out | exact below_al HB_d2.out _ | exact HB_d1.out | exact below_al HB_d1.out _ | exact HB0.out | fail)))
        (first
          | (rw [if_pos (by rfl)]; go_simp; (first
          | (go_at_call 10; (have hBB := (‹_ ∧ _ ∧ _ ∧ _ ∧ _ ∧ _ ∧ _ ∧ _ ∧ Hid (Below w5.heap.size w5 _)›).2.2.2.2.2.2.2.2); (with_reducible refine (C_d1.out _ _ _ (OwnS.mk (x := x) (OFx.out _ hBB.out)) (OwnS.mk (x := y) (OFy.out _ hBB.out))).mono ?_); rintro e w_d1 ⟨rfl, b_d1⟩; have HB_d1 := Lib.hid (Below.next hBB.out b_d1); (try (first | replace o_t7 := At.below o_t7 b_d1 | replace o_t7 := At.below (At.below o_t7 (below_al (Below.refl _ _) _)) b_d1)); (try (first | replace o_t8 := At.below o_t8 b_d1 | replace o_t8 := At.below (At.below o_t8 (below_al (Below.refl _ _) _)) b_d1)); (try (first | replace o_t9 := At.below o_t9 b_d1 | replace o_t9 := At.below (At.below o_t9 (below_al (Below.refl _ _) _)) b_d1)); (try (first | replace o_ts := At.below o_ts b_d1 | replace o_ts := At.below (At.below o_ts (below_al (Below.refl _ _) _)) b_d1)); (try (first | replace o_ta := At.below o_ta b_d1 | replace o_ta := At.below (At.below o_ta (below_al (Below.refl _ _) _)) b_d1)); (try (first | replace o_tb := At.below o_tb b_d1 | replace o_tb := At.below (At.below o_tb (below_al (Below.refl _ _) _)) b_d1)); (first | have hlit := At.below (box_new _ _ _) b_d1 | replace hlit := At.below hlit b_d1 | skip); clear hBB b_d1)
          | (go_at_call 10; (have hBB := (‹_ ∧ _ ∧ _ ∧ _ ∧ _ ∧ _ ∧ _ ∧ _ ∧ Hid (Below w5.heap.size w5 _)›).2.2.2.2.2.2.2.2); (with_reducible refine (C_d2.out _ _ _ (OwnS.mk (x := y) (OFy.out _ hBB.out)) (OwnS.mk (x := x) (OFx.out _ hBB.out))).mono ?_); rintro e w_d2 ⟨rfl, b_d2⟩; have HB_d2 := Lib.hid (Below.next hBB.out b_d2); (try (first | replace o_t7 := At.below o_t7 b_d2 | replace o_t7 := At.below (At.below o_t7 (below_al (Below.refl _ _) _)) b_d2)); (try (first | replace o_t8 := At.below o_t8 b_d2 | replace o_t8 := At.below (At.below o_t8 (below_al (Below.refl _ _) _)) b_d2)); (try (first | replace o_t9 := At.below o_t9 b_d2 | replace o_t9 := At.below (At.below o_t9 (below_al (Below.refl _ _) _)) b_d2)); (try (first | replace o_ts := At.below o_ts b_d2 | replace o_ts := At.below (At.below o_ts (below_al (Below.refl _ _) _)) b_d2)); (try (first | replace o_ta := At.below o_ta b_d2 | replace o_ta := At.below (At.below o_ta (below_al (Below.refl _ _) _)) b_d2)); (try (first | replace o_tb := At.below o_tb b_d2 | replace o_tb := At.below (At.below o_tb (below_al (Below.refl _ _) _)) b_d2)); (first | have hlit := At.below (box_new _ _ _) b_d2 | replace hlit := At.below hlit b_d2 | skip); clear hBB b_d2)
          | (go_at_call 17; (have hBB := (‹_ ∧ _ ∧ _ ∧ _ ∧ _ ∧ _ ∧ _ ∧ _ ∧ Hid (Below w5.heap.size w5 _)›).2.2.2.2.2.2.2.2); (with_reducible refine (C_t7.out _ _ (OwnS.mk (x := x) (OFx.out _ hBB.out))).mono ?_); rintro e w_t7 ⟨u_t7, rfl, p_t7, b_t7⟩; have HB_t7 := Lib.hid (Below.next hBB.out b_t7); (try (first | replace o_t8 := At.below o_t8 b_t7 | replace o_t8 := At.below (At.below o_t8 (below_al (Below.refl _ _) _)) b_t7)); (try (first | replace o_t9 := At.below o_t9 b_t7 | replace o_t9 := At.below (At.below o_t9 (below_al (Below.refl _ _) _)) b_t7)); (try (first | replace o_ts := At.below o_ts b_t7 | replace o_ts := At.below (At.below o_ts (below_al (Below.refl _ _) _)) b_t7)); (try (first | replace o_ta := At.below o_ta b_t7 | replace o_ta := At.below (At.below o_ta (below_al (Below.refl _ _) _)) b_t7)); (try (first | replace o_tb := At.below o_tb b_t7 | replace o_tb := At.below (At.below o_tb (below_al (Below.refl _ _) _)) b_t7)); (first | have hlit := At.below (box_new _ _ _) b_t7 | replace hlit := At.below hlit b_t7 | skip); have o_t7 := own_at' p_t7; clear p_t7; clear hBB b_t7)
          | (go_at_call 12; (have hBB := (‹_ ∧ _ ∧ _ ∧ _ ∧ _ ∧ _ ∧ _ ∧ _ ∧ Hid (Below w5.heap.size w5 _)›).2.2.2.2.2.2.2.2); (with_reducible refine (C_t8.out _ _ _ (OwnS.mk (x := x) (OFx.out _ hBB.out)) (OwnS.mk (x := r5) (At.here o_t7))).mono ?_); rintro e w_t8 ⟨u_t8, rfl, p_t8, b_t8⟩; have HB_t8 := Lib.hid (Below.next hBB.out b_t8); (try (first | replace o_t7 := At.below o_t7 b_t8 | replace o_t7 := At.below (At.below o_t7 (below_al (Below.refl _ _) _)) b_t8)); (try (first | replace o_t9 := At.below o_t9 b_t8 | replace o_t9 := At.below (At.below o_t9 (below_al (Below.refl _ _) _)) b_t8)); (try (first | replace o_ts := At.below o_ts b_t8 | replace o_ts := At.below (At.below o_ts (below_al (Below.refl _ _) _)) b_t8)); (try (first | replace o_ta := At.below o_ta b_t8 | replace o_ta := At.below (At.below o_ta (below_al (Below.refl _ _) _)) b_t8)); (try (first | replace o_tb := At.below o_tb b_t8 | replace o_tb := At.below (At.below o_tb (below_al (Below.refl _ _) _)) b_t8)); (first | have hlit := At.below (box_new _ _ _) b_t8 | replace hlit := At.below hlit b_t8 | skip); have o_t8 := own_at' p_t8; clear p_t8; clear hBB b_t8)
          | (go_at_call 16; (have hBB := (‹_ ∧ _ ∧ _ ∧ _ ∧ _ ∧ _ ∧ _ ∧ _ ∧ Hid (Below w5.heap.size w5 _)›).2.2.2.2.2.2.2.2); (with_reducible refine (C_d3.out _ _ (OwnS.mk (x := z0) (At.here o_t8))).mono ?_); rintro e w_d3 ⟨rfl, b_d3⟩; have HB_d3 := Lib.hid (Below.next hBB.out b_d3); (try (first | replace o_t7 := At.below o_t7 b_d3 | replace o_t7 := At.below (At.below o_t7 (below_al (Below.refl _ _) _)) b_d3)); (try (first | replace o_t8 := At.below o_t8 b_d3 | replace o_t8 := At.below (At.below o_t8 (below_al (Below.refl _ _) _)) b_d3)); (try (first | replace o_t9 := At.below o_t9 b_d3 | replace o_t9 := At.below (At.below o_t9 (below_al (Below.refl _ _) _)) b_d3)); (try (first | replace o_ts := At.below o_ts b_d3 | replace o_ts := At.below (At.below o_ts (below_al (Below.refl _ _) _)) b_d3)); (try (first | replace o_ta := At.below o_ta b_d3 | replace o_ta := At.below (At.below o_ta (below_al (Below.refl _ _) _)) b_d3)); (try (first | replace o_tb := At.below o_tb b_d3 | replace o_tb := At.below (At.below o_tb (below_al (Below.refl _ _) _)) b_d3)); (first | have hlit := At.below (box_new _ _ _) b_d3 | replace hlit := At.below hlit b_d3 | skip); clear hBB b_d3)
          | (go_at_call 18; (have hBB := (‹_ ∧ _ ∧ _ ∧ _ ∧ _ ∧ _ ∧ _ ∧ _ ∧ Hid (Below w5.heap.size w5 _)›).2.2.2.2.2.2.2.2); (with_reducible refine (C_t9.out _ _ (OwnS.mk (x := x) (OFx.out _ hBB.out))).mono ?_); rintro e w_t9 ⟨u_t9, rfl, p_t9, b_t9⟩; have HB_t9 := Lib.hid (Below.next hBB.out b_t9); (try (first | replace o_t7 := At.below o_t7 b_t9 | replace o_t7 := At.below (At.below o_t7 (below_al (Below.refl _ _) _)) b_t9)); (try (first | replace o_t8 := At.below o_t8 b_t9 | replace o_t8 := At.below (At.below o_t8 (below_al (Below.refl _ _) _)) b_t9)); (try (first | replace o_ts := At.below o_ts b_t9 | replace o_ts := At.below (At.below o_ts (below_al (Below.refl _ _) _)) b_t9)); (try (first | replace o_ta := At.below o_ta b_t9 | replace o_ta := At.below (At.below o_ta (below_al (Below.refl _ _) _)) b_t9)); (try (first | replace o_tb := At.below o_tb b_t9 | replace o_tb := At.below (At.below o_tb (below_al (Below.refl _ _) _)) b_t9)); (first | have hlit := At.below (box_new _ _ _) b_t9 | replace hlit := At.below hlit b_t9 | skip); have o_t9 := own_at' p_t9; clear p_t9; clear hBB b_t9)
          | (go_at_call 16; (have hBB := (‹_ ∧ _ ∧ _ ∧ _ ∧ _ ∧ _ ∧ _ ∧ _ ∧ Hid (Below w5.heap.size w5 _)›).2.2.2.2.2.2.2.2); (with_reducible refine (C_d4.out _ _ (OwnS.mk (x := r6) (At.here o_t9))).mono ?_); rintro e w_d4 ⟨rfl, b_d4⟩; have HB_d4 := Lib.hid (Below.next hBB.out b_d4); (try (first | replace o_t7 := At.below o_t7 b_d4 | replace o_t7 := At.below (At.below o_t7 (below_al (Below.refl _ _) _)) b_d4)); (try (first | replace o_t8 := At.below o_t8 b_d4 | replace o_t8 := At.below (At.below o_t8 (below_al (Below.refl _ _) _)) b_d4)); (try (first | replace o_t9 := At.below o_t9 b_d4 | replace o_t9 := At.below (At.below o_t9 (below_al (Below.refl _ _) _)) b_d4)); (try (first | replace o_ts := At.below o_ts b_d4 | replace o_ts := At.below (At.below o_ts (below_al (Below.refl _ _) _)) b_d4)); (try (first | replace o_ta := At.below o_ta b_d4 | replace o_ta := At.below (At.below o_ta (below_al (Below.refl _ _) _)) b_d4)); (try (first | replace o_tb := At.below o_tb b_d4 | replace o_tb := At.below (At.below o_tb (below_al (Below.refl _ _) _)) b_d4)); (first | have hlit := At.below (box_new _ _ _) b_d4 | replace hlit := At.below hlit b_d4 | skip); clear hBB b_d4)
          | (go_at_call 15; (have hBB := (‹_ ∧ _ ∧ _ ∧ _ ∧ _ ∧ _ ∧ _ ∧ _ ∧ Hid (Below w5.heap.size w5 _)›).2.2.2.2.2.2.2.2); (with_reducible refine (C_d5.out _ hBB.out).mono ?_); rintro e w_d5 ⟨rfl, b_d5⟩; have HB_d5 := Lib.hid (Below.next hBB.out b_d5); (try (first | replace o_t7 := At.below o_t7 b_d5 | replace o_t7 := At.below (At.below o_t7 (below_al (Below.refl _ _) _)) b_d5)); (try (first | replace o_t8 := At.below o_t8 b_d5 | replace o_t8 := At.below (At.below o_t8 (below_al (Below.refl _ _) _)) b_d5)); (try (first | replace o_t9 := At.below o_t9 b_d5 | replace o_t9 := At.below (At.below o_t9 (below_al (Below.refl _ _) _)) b_d5)); (try (first | replace o_ts := At.below o_ts b_d5 | replace o_ts := At.below (At.below o_ts (below_al (Below.refl _ _) _)) b_d5)); (try (first | replace o_ta := At.below o_ta b_d5 | replace o_ta := At.below (At.below o_ta (below_al (Below.refl _ _) _)) b_d5)); (try (first | replace o_tb := At.below o_tb b_d5 | replace o_tb := At.below (At.below o_tb (below_al (Below.refl _ _) _)) b_d5)); (first | have hlit := At.below (box_new _ _ _) b_d5 | replace hlit := At.below hlit b_d5 | skip); clear hBB b_d5)
          | (go_at_call 19; (have hBB := (‹_ ∧ _ ∧ _ ∧ _ ∧ _ ∧ _ ∧ _ ∧ _ ∧ Hid (Below w5.heap.size w5 _)›).2.2.2.2.2.2.2.2); (first | (with_reducible refine (C_ts.out _ _ _ _ _ (At.here hlit) (OFx.out _ hBB.out) (OFy.out _ hBB.out) (OFn1.out _ hBB.out)).mono ?_) | (with_reducible refine (C_ts.out _ _ _ _ _ (At.here (box_new _ _ _)) (OFx.out _ hBB.out) (OFy.out _ hBB.out) (OFn1.out _ hBB.out)).mono ?_)); rintro e w_ts ⟨u_ts, rfl, p_ts, b_ts⟩; have HB_ts := Lib.hid (Below.next hBB.out b_ts); (try (first | replace o_t7 := At.below o_t7 b_ts | replace o_t7 := At.below (At.below o_t7 (below_al (Below.refl _ _) _)) b_ts)); (try (first | replace o_t8 := At.below o_t8 b_ts | replace o_t8 := At.below (At.below o_t8 (below_al (Below.refl _ _) _)) b_ts)); (try (first | replace o_t9 := At.below o_t9 b_ts | replace o_t9 := At.below (At.below o_t9 (below_al (Below.refl _ _) _)) b_ts)); (try (first | replace o_ta := At.below o_ta b_ts | replace o_ta := At.below (At.below o_ta (below_al (Below.refl _ _) _)) b_ts)); (try (first | replace o_tb := At.below o_tb b_ts | replace o_tb := At.below (At.below o_tb (below_al (Below.refl _ _) _)) b_ts)); have o_ts := own_at' p_ts; clear p_ts; clear hBB b_ts)
          | (go_at_call 12; (have hBB := (‹_ ∧ _ ∧ _ ∧ _ ∧ _ ∧ _ ∧ _ ∧ _ ∧ Hid (Below w5.heap.size w5 _)›).2.2.2.2.2.2.2.2); (with_reducible refine (C_ta.out _ _ _ (OwnS.mk (x := x) (OFx.out _ hBB.out)) (OwnS.mk (x := y) (OFy.out _ hBB.out))).mono ?_); rintro e w_ta ⟨u_ta, rfl, p_ta, b_ta⟩; have HB_ta := Lib.hid (Below.next hBB.out b_ta); (try (first | replace o_t7 := At.below o_t7 b_ta | replace o_t7 := At.below (At.below o_t7 (below_al (Below.refl _ _) _)) b_ta)); (try (first | replace o_t8 := At.below o_t8 b_ta | replace o_t8 := At.below (At.below o_t8 (below_al (Below.refl _ _) _)) b_ta)); (try (first | replace o_t9 := At.below o_t9 b_ta | replace o_t9 := At.below (At.below o_t9 (below_al (Below.refl _ _) _)) b_ta)); (try (first | replace o_ts := At.below o_ts b_ta | replace o_ts := At.below (At.below o_ts (below_al (Below.refl _ _) _)) b_ta)); (try (first | replace o_tb := At.below o_tb b_ta | replace o_tb := At.below (At.below o_tb (below_al (Below.refl _ _) _)) b_ta)); (first | have hlit := At.below (box_new _ _ _) b_ta | replace hlit := At.below hlit b_ta | skip); have o_ta := own_at' p_ta; clear p_ta; clear hBB b_ta)
          | (go_at_call 12; (have hBB := (‹_ ∧ _ ∧ _ ∧ _ ∧ _ ∧ _ ∧ _ ∧ _ ∧ Hid (Below w5.heap.size w5 _)›).2.2.2.2.2.2.2.2); (with_reducible refine (C_tb.out _ _ _ (OwnS.mk (x := r1) (At.here o_ta)) (OwnS.mk (x := n1) (OFn1.out _ hBB.out))).mono ?_); rintro e w_tb ⟨u_tb, rfl, p_tb, b_tb⟩; have HB_tb := Lib.hid (Below.next hBB.out b_tb); (try (first | replace o_t7 := At.below o_t7 b_tb | replace o_t7 := At.below (At.below o_t7 (below_al (Below.refl _ _) _)) b_tb)); (try (first | replace o_t8 := At.below o_t8 b_tb | replace o_t8 := At.below (At.below o_t8 (below_al (Below.refl _ _) _)) b_tb)); (try (first | replace o_t9 := At.below o_t9 b_tb | replace o_t9 := At.below (At.below o_t9 (below_al (Below.refl _ _) _)) b_tb)); (try (first | replace o_ts := At.below o_ts b_tb | replace o_ts := At.below (At.below o_ts (below_al (Below.refl _ _) _)) b_tb)); (try (first | replace o_ta := At.below o_ta b_tb | replace o_ta := At.below (At.below o_ta (below_al (Below.refl _ _) _)) b_tb)); (first | have hlit := At.below (box_new _ _ _) b_tb | replace hlit := At.below hlit b_tb | skip); have o_tb := own_at' p_tb; clear p_tb; clear hBB b_tb)
          | (go_at_call 10; (have hBB := (‹_ ∧ _ ∧ _ ∧ _ ∧ _ ∧ _ ∧ _ ∧ _ ∧ Hid (Below w5.heap.size w5 _)›).2.2.2.2.2.2.2.2); (with_reducible refine (C_d6.out _ _ _ (OwnS.mk (x := r7) (At.here o_ts)) (OwnS.mk (x := r7) (At.here o_tb))).mono ?_); rintro e w_d6 ⟨rfl, b_d6⟩; have HB_d6 := Lib.hid (Below.next hBB.out b_d6); (try (first | replace o_t7 := At.below o_t7 b_d6 | replace o_t7 := At.below (At.below o_t7 (below_al (Below.refl _ _) _)) b_d6)); (try (first | replace o_t8 := At.below o_t8 b_d6 | replace o_t8 := At.below (At.below o_t8 (below_al (Below.refl _ _) _)) b_d6)); (try (first | replace o_t9 := At.below o_t9 b_d6 | replace o_t9 := At.below (At.below o_t9 (below_al (Below.refl _ _) _)) b_d6)); (try (first | replace o_ts := At.below o_ts b_d6 | replace o_ts := At.below (At.below o_ts (below_al (Below.refl _ _) _)) b_d6)); (try (first | replace o_ta := At.below o_ta b_d6 | replace o_ta := At.below (At.below o_ta (below_al (Below.refl _ _) _)) b_d6)); (try (first | replace o_tb := At.below o_tb b_d6 | replace o_tb := At.below (At.below o_tb (below_al (Below.refl _ _) _)) b_d6)); (first | have hlit := At.below (box_new _ _ _) b_d6 | replace hlit := At.below hlit b_d6 | skip); clear hBB b_d6)); (try dsimp only))
          | (first
          | (go_at_call 10; (have hBB := (‹_ ∧ _ ∧ _ ∧ _ ∧ _ ∧ _ ∧ _ ∧ _ ∧ Hid (Below w5.heap.size w5 _)›).2.2.2.2.2.2.2.2); (with_reducible refine (C_d1.out _ _ _ (OwnS.mk (x := x) (OFx.out _ hBB.out)) (OwnS.mk (x := y) (OFy.out _ hBB.out))).mono ?_); rintro e w_d1 ⟨rfl, b_d1⟩; have HB_d1 := Lib.hid (Below.next hBB.out b_d1); (try (first | replace o_t7 := At.below o_t7 b_d1 | replace o_t7 := At.below (At.below o_t7 (below_al (Below.refl _ _) _)) b_d1)); (try (first | replace o_t8 := At.below o_t8 b_d1 | replace o_t8 := At.below (At.below o_t8 (below_al (Below.refl _ _) _)) b_d1)); (try (first | replace o_t9 := At.below o_t9 b_d1 | replace o_t9 := At.below (At.below o_t9 (below_al (Below.refl _ _) _)) b_d1)); (try (first | replace o_ts := At.below o_ts b_d1 | replace o_ts := At.below (At.below o_ts (below_al (Below.refl _ _) _)) b_d1)); (try (first | replace o_ta := At.below o_ta b_d1 | replace o_ta := At.below (At.below o_ta (below_al (Below.refl _ _) _)) b_d1)); (try (first | replace o_tb := At.below o_tb b_d1 | replace o_tb := At.below (At.below o_tb (below_al (Below.refl _ _) _)) b_d1)); (first | have hlit := At.below (box_new _ _ _) b_d1 | replace hlit := At.below hlit b_d1 | skip); clear hBB b_d1)
          | (go_at_call 10; (have hBB := (‹_ ∧ _ ∧ _ ∧ _ ∧ _ ∧ _ ∧ _ ∧ _ ∧ Hid (Below w5.heap.size w5 _)›).2.2.2.2.2.2.2.2); (with_reducible refine (C_d2.out _ _ _ (OwnS.mk (x := y) (OFy.out _ hBB.out)) (OwnS.mk (x := x) (OFx.out _ hBB.out))).mono ?_); rintro e w_d2 ⟨rfl, b_d2⟩; have HB_d2 := Lib.hid (Below.next hBB.out b_d2); (try (first | replace o_t7 := At.below o_t7 b_d2 | replace o_t7 := At.below (At.below o_t7 (below_al (Below.refl _ _) _)) b_d2)); (try (first | replace o_t8 := At.below o_t8 b_d2 | replace o_t8 := At.below (At.below o_t8 (below_al (Below.refl _ _) _)) b_d2)); (try (first | replace o_t9 := At.below o_t9 b_d2 | replace o_t9 := At.below (At.below o_t9 (below_al (Below.refl _ _) _)) b_d2)); (try (first | replace o_ts := At.below o_ts b_d2 | replace o_ts := At.below (At.below o_ts (below_al (Below.refl _ _) _)) b_d2)); (try (first | replace o_ta := At.below o_ta b_d2 | replace o_ta := At.below (At.below o_ta (below_al (Below.refl _ _) _)) b_d2)); (try (first | replace o_tb := At.below o_tb b_d2 | replace o_tb := At.below (At.below o_tb (below_al (Below.refl _ _) _)) b_d2)); (first | have hlit := At.below (box_new _ _ _) b_d2 | replace hlit := At.below hlit b_d2 | skip); clear hBB b_d2)
          | (go_at_call 17; (have hBB := (‹_ ∧ _ ∧ _ ∧ _ ∧ _ ∧ _ ∧ _ ∧ _ ∧ Hid (Below w5.heap.size w5 _)›).2.2.2.2.2.2.2.2); (with_reducible refine (C_t7.out _ _ (OwnS.mk (x := x) (OFx.out _ hBB.out))).mono ?_); rintro e w_t7 ⟨u_t7, rfl, p_t7, b_t7⟩; have HB_t7 := Lib.hid (Below.next hBB.out b_t7); (try (first | replace o_t8 := At.below o_t8 b_t7 | replace o_t8 := At.below (At.below o_t8 (below_al (Below.refl _ _) _)) b_t7)); (try (first | replace o_t9 := At.below o_t9 b_t7 | replace o_t9 := At.below (At.below o_t9 (below_al (Below.refl _ _) _)) b_t7)); (try (first | replace o_ts := At.below o_ts b_t7 | replace o_ts := At.below (At.below o_ts (below_al (Below.refl _ _) _)) b_t7)); (try (first | replace o_ta := At.below o_ta b_t7 | replace o_ta := At.below (At.below o_ta (below_al (Below.refl _ _) _)) b_t7)); (try (first | replace o_tb := At.below o_tb b_t7 | replace o_tb := At.below (At.below o_tb (below_al (Below.refl _ _) _)) b_t7)); (first | have hlit := At.below (box_new _ _ _) b_t7 | replace hlit := At.below hlit b_t7 | skip); have o_t7 := own_at' p_t7; clear p_t7; clear hBB b_t7)
          | (go_at_call 12; (have hBB := (‹_ ∧ _ ∧ _ ∧ _ ∧ _ ∧ _ ∧ _ ∧ _ ∧ Hid (Below w5.heap.size w5 _)›).2.2.2.2.2.2.2.2); (with_reducible refine (C_t8.out _ _ _ (OwnS.mk (x := x) (OFx.out _ hBB.out)) (OwnS.mk (x := r5) (At.here o_t7))).mono ?_); rintro e w_t8 ⟨u_t8, rfl, p_t8, b_t8⟩; have HB_t8 := Lib.hid (Below.next hBB.out b_t8); (try (first | replace o_t7 := At.below o_t7 b_t8 | replace o_t7 := At.below (At.below o_t7 (below_al (Below.refl _ _) _)) b_t8)); (try (first | replace o_t9 := At.below o_t9 b_t8 | replace o_t9 := At.below (At.below o_t9 (below_al (Below.refl _ _) _)) b_t8)); (try (first | replace o_ts := At.below o_ts b_t8 | replace o_ts := At.below (At.below o_ts (below_al (Below.refl _ _) _)) b_t8)); (try (first | replace o_ta := At.below o_ta b_t8 | replace o_ta := At.below (At.below o_ta (below_al (Below.refl _ _) _)) b_t8)); (try (first | replace o_tb := At.below o_tb b_t8 | replace o_tb := At.below (At.below o_tb (below_al (Below.refl _ _) _)) b_t8)); (first | have hlit := At.below (box_new _ _ _) b_t8 | replace hlit := At.below hlit b_t8 | skip); have o_t8 := own_at' p_t8; clear p_t8; clear hBB b_t8)
          | (go_at_call 16; (have hBB := (‹_ ∧ _ ∧ _ ∧ _ ∧ _ ∧ _ ∧ _ ∧ _ ∧ Hid (Below w5.heap.size w5 _)›).2.2.2.2.2.2.2.2); (with_reducible refine (C_d3.out _ _ (OwnS.mk (x := z0) (At.here o_t8))).mono ?_); rintro e w_d3 ⟨rfl, b_d3⟩; have HB_d3 := Lib.hid (Below.next hBB.out b_d3); (try (first | replace o_t7 := At.below o_t7 b_d3 | replace o_t7 := At.below (At.below o_t7 (below_al (Below.refl _ _) _)) b_d3)); (try (first | replace o_t8 := At.below o_t8 b_d3 | replace o_t8 := At.below (At.below o_t8 (below_al (Below.refl _ _) _)) b_d3)); (try (first | replace o_t9 := At.below o_t9 b_d3 | replace o_t9 := At.below (At.below o_t9 (below_al (Below.refl _ _) _)) b_d3)); (try (first | replace o_ts := At.below o_ts b_d3 | replace o_ts := At.below (At.below o_ts (below_al (Below.refl _ _) _)) b_d3)); (try (first | replace o_ta := At.below o_ta b_d3 | replace o_ta := At.below (At.below o_ta (below_al (Below.refl _ _) _)) b_d3)); (try (first | replace o_tb := At.below o_tb b_d3 | replace o_tb := At.below (At.below o_tb (below_al (Below.refl _ _) _)) b_d3)); (first | have hlit := At.below (box_new _ _ _) b_d3 | replace hlit := At.below hlit b_d3 | skip); clear hBB b_d3)
          | (go_at_call 18; (have hBB := (‹_ ∧ _ ∧ _ ∧ _ ∧ _ ∧ _ ∧ _ ∧ _ ∧ Hid (Below w5.heap.size w5 _)›).2.2.2.2.2.2.2.2); (with_reducible refine (C_t9.out _ _ (OwnS.mk (x := x) (OFx.out _ hBB.out))).mono ?_); rintro e w_t9 ⟨u_t9, rfl, p_t9, b_t9⟩; have HB_t9 := Lib.hid (Below.next hBB.out b_t9); (try (first | replace o_t7 := At.below o_t7 b_t9 | replace o_t7 := At.below (At.below o_t7 (below_al (Below.refl _ _) _)) b_t9)); (try (first | replace o_t8 := At.below o_t8 b_t9 | replace o_t8 := At.below (At.below o_t8 (below_al (Below.refl _ _) _)) b_t9)); (try (first | replace o_ts := At.below o_ts b_t9 | replace o_ts := At.below (At.below o_ts (below_al (Below.refl _ _) _)) b_t9)); (try (first | replace o_ta := At.below o_ta b_t9 | replace o_ta := At.below (At.below o_ta (below_al (Below.refl _ _) _)) b_t9)); (try (first | replace o_tb := At.below o_tb b_t9 | replace o_tb := At.below (At.below o_tb (below_al (Below.refl _ _) _)) b_t9)); (first | have hlit := At.below (box_new _ _ _) b_t9 | replace hlit := At.below hlit b_t9 | skip); have o_t9 := own_at' p_t9; clear p_t9; clear hBB b_t9)
          | (go_at_call 16; (have hBB := (‹_ ∧ _ ∧ _ ∧ _ ∧ _ ∧ _ ∧ _ ∧ _ ∧ Hid (Below w5.heap.size w5 _)›).2.2.2.2.2.2.2.2); (with_reducible refine (C_d4.out _ _ (OwnS.mk (x := r6) (At.here o_t9))).mono ?_); rintro e w_d4 ⟨rfl, b_d4⟩; have HB_d4 := Lib.hid (Below.next hBB.out b_d4); (try (first | replace o_t7 := At.below o_t7 b_d4 | replace o_t7 := At.below (At.below o_t7 (below_al (Below.refl _ _) _)) b_d4)); (try (first | replace o_t8 := At.below o_t8 b_d4 | replace o_t8 := At.below (At.below o_t8 (below_al (Below.refl _ _) _)) b_d4)); (try (first | replace o_t9 := At.below o_t9 b_d4 | replace o_t9 := At.below (At.below o_t9 (below_al (Below.refl _ _) _)) b_d4)); (try (first | replace o_ts := At.below o_ts b_d4 | replace o_ts := At.below (At.below o_ts (below_al (Below.refl _ _) _)) b_d4)); (try (first | replace o_ta := At.below o_ta b_d4 | replace o_ta := At.below (At.below o_ta (below_al (Below.refl _ _) _)) b_d4)); (try (first | replace o_tb := At.below o_tb b_d4 | replace o_tb := At.below (At.below o_tb (below_al (Below.refl _ _) _)) b_d4)); (first | have hlit := At.below (box_new _ _ _) b_d4 | replace hlit := At.below hlit b_d4 | skip); clear hBB b_d4)
          | (go_at_call 15; (have hBB := (‹_ ∧ _ ∧ _ ∧ _ ∧ _ ∧ _ ∧ _ ∧ _ ∧ Hid (Below w5.heap.size w5 _)›).2.2.2.2.2.2.2.2); (with_reducible refine (C_d5.out _ hBB.out).mono ?_); rintro e w_d5 ⟨rfl, b_d5⟩; have HB_d5 := Lib.hid (Below.next hBB.out b_d5); (try (first | replace o_t7 := At.below o_t7 b_d5 | replace o_t7 := At.below (At.below o_t7 (below_al (Below.refl _ _) _)) b_d5)); (try (first | replace o_t8 := At.below o_t8 b_d5 | replace o_t8 := At.below (At.below o_t8 (below_al (Below.refl _ _) _)) b_d5)); (try (first | replace o_t9 := At.below o_t9 b_d5 | replace o_t9 := At.below (At.below o_t9 (below_al (Below.refl _ _) _)) b_d5)); (try (first | replace o_ts := At.below o_ts b_d5 | replace o_ts := At.below (At.below o_ts (below_al (Below.refl _ _) _)) b_d5)); (try (first | replace o_ta := At.below o_ta b_d5 | replace o_ta := At.below (At.below o_ta (below_al (Below.refl _ _) _)) b_d5)); (try (first | replace o_tb := At.below o_tb b_d5 | replace o_tb := At.below (At.below o_tb (below_al (Below.refl _ _) _)) b_d5)); (first | have hlit := At.below (box_new _ _ _) b_d5 | replace hlit := At.below hlit b_d5 | skip); clear hBB b_d5)
          | (go_at_call 19; (have hBB := (‹_ ∧ _ ∧ _ ∧ _ ∧ _ ∧ _ ∧ _ ∧ _ ∧ Hid (Below w5.heap.size w5 _)›).2.2.2.2.2.2.2.2); (first | (with_reducible refine (C_ts.out _ _ _ _ _ (At.here hlit) (OFx.out _ hBB.out) (OFy.out _ hBB.out) (OFn1.out _ hBB.out)).mono ?_) | (with_reducible refine (C_ts.out _ _ _ _ _ (At.here (box_new _ _ _)) (OFx.out _ hBB.out) (OFy.out _ hBB.out) (OFn1.out _ hBB.out)).mono ?_)); rintro e w_ts ⟨u_ts, rfl, p_ts, b_ts⟩; have HB_ts := Lib.hid (Below.next hBB.out b_ts); (try (first | replace o_t7 := At.below o_t7 b_ts | replace o_t7 := At.below (At.below o_t7 (below_al (Below.refl _ _) _)) b_ts)); (try (first | replace o_t8 := At.below o_t8 b_ts | replace o_t8 := At.below (At.below o_t8 (below_al (Below.refl _ _) _)) b_ts)); (try (first | replace o_t9 := At.below o_t9 b_ts | replace o_t9 := At.below (At.below o_t9 (below_al (Below.refl _ _) _)) b_ts)); (try (first | replace o_ta := At.below o_ta b_ts | replace o_ta := At.below (At.below o_ta (below_al (Below.refl _ _) _)) b_ts)); (try (first | replace o_tb := At.below o_tb b_ts | replace o_tb := At.below (At.below o_tb (below_al (Below.refl _ _) _)) b_ts)); have o_ts := own_at' p_ts; clear p_ts; clear hBB b_ts)
          | (go_at_call 12; (have hBB := (‹_ ∧ _ ∧ _ ∧ _ ∧ _ ∧ _ ∧ _ ∧ _ ∧ Hid (Below w5.heap.size w5 _)›).2.2.2.2.2.2.2.2); (with_reducible refine (C_ta.out _ _ _ (OwnS.mk (x := x) (OFx.out _ hBB.out)) (OwnS.mk (x := y) (OFy.out _ hBB.out))).mono ?_); rintro e w_ta ⟨u_ta, rfl, p_ta, b_ta⟩; have HB_ta := Lib.hid (Below.next hBB.out b_ta); (try (first | replace o_t7 := At.below o_t7 b_ta | replace o_t7 := At.below (At.below o_t7 (below_al (Below.refl _ _) _)) b_ta)); (try (first | replace o_t8 := At.below o_t8 b_ta | replace o_t8 := At.below (At.below o_t8 (below_al (Below.refl _ _) _)) b_ta)); (try (first | replace o_t9 := At.below o_t9 b_ta | replace o_t9 := At.below (At.below o_t9 (below_al (Below.refl _ _) _)) b_ta)); (try (first | replace o_ts := At.below o_ts b_ta | replace o_ts := At.below (At.below o_ts (below_al (Below.refl _ _) _)) b_ta)); (try (first | replace o_tb := At.below o_tb b_ta | replace o_tb := At.below (At.below o_tb (below_al (Below.refl _ _) _)) b_ta)); (first | have hlit := At.below (box_new _ _ _) b_ta | replace hlit := At.below hlit b_ta | skip); have o_ta := own_at' p_ta; clear p_ta; clear hBB b_ta)
          | (go_at_call 12; (have hBB := (‹_ ∧ _ ∧ _ ∧ _ ∧ _ ∧ _ ∧ _ ∧ _ ∧ Hid (Below w5.heap.size w5 _)›).2.2.2.2.2.2.2.2); (with_reducible refine (C_tb.out _ _ _ (OwnS.mk (x := r1) (At.here o_ta)) (OwnS.mk (x := n1) (OFn1.out _ hBB.out))).mono ?_); rintro e w_tb ⟨u_tb, rfl, p_tb, b_tb⟩; have HB_tb := Lib.hid (Below.next hBB.out b_tb); (try (first | replace o_t7 := At.below o_t7 b_tb | replace o_t7 := At.below (At.below o_t7 (below_al (Below.refl _ _) _)) b_tb)); (try (first | replace o_t8 := At.below o_t8 b_tb | replace o_t8 := At.below (At.below o_t8 (below_al (Below.refl _ _) _)) b_tb)); (try (first | replace o_t9 := At.below o_t9 b_tb | replace o_t9 := At.below (At.below o_t9 (below_al (Below.refl _ _) _)) b_tb)); (try (first | replace o_ts := At.below o_ts b_tb | replace o_ts := At.below (At.below o_ts (below_al (Below.refl _ _) _)) b_tb)); (try (first | replace o_ta := At.below o_ta b_tb | replace o_ta := At.below (At.below o_ta (below_al (Below.refl _ _) _)) b_tb)); (first | have hlit := At.below (box_new _ _ _) b_tb | replace hlit := At.below hlit b_tb | skip); have o_tb := own_at' p_tb; clear p_tb; clear hBB b_tb)
          | (go_at_call 10; (have hBB := (‹_ ∧ _ ∧ _ ∧ _ ∧ _ ∧ _ ∧ _ ∧ _ ∧ Hid (Below w5.heap.size w5 _)›).2.2.2.2.2.2.2.2); (with_reducible refine (C_d6.out _ _ _ (OwnS.mk (x := r7) (At.here o_ts)) (OwnS.mk (x := r7) (At.here o_tb))).mono ?_); rintro e w_d6 ⟨rfl, b_d6⟩; have HB_d6 := Lib.hid (Below.next hBB.out b_d6); (try (first | replace o_t7 := At.below o_t7 b_d6 | replace o_t7 := At.below (At.below o_t7 (below_al (Below.refl _ _) _)) b_d6)); (try (first | replace o_t8 := At.below o_t8 b_d6 | replace o_t8 := At.below (At.below o_t8 (below_al (Below.refl _ _) _)) b_d6)); (try (first | replace o_t9 := At.below o_t9 b_d6 | replace o_t9 := At.below (At.below o_t9 (below_al (Below.refl _ _) _)) b_d6)); (try (first | replace o_ts := At.below o_ts b_d6 | replace o_ts := At.below (At.below o_ts (below_al (Below.refl _ _) _)) b_d6)); (try (first | replace o_ta := At.below o_ta b_d6 | replace o_ta := At.below (At.below o_ta (below_al (Below.refl _ _) _)) b_d6)); (try (first | replace o_tb := At.below o_tb b_d6 | replace o_tb := At.below (At.below o_tb (below_al (Below.refl _ _) _)) b_d6)); (first | have hlit := At.below (box_new _ _ _) b_d6 | replace hlit := At.below hlit b_d6 | skip); clear hBB b_d6)))
    all_goals (go_wp2_with fail; go_meet; exact ⟨rfl, HB_d6.out⟩)
  rename World => w6
  obtain ⟨rfl, b6⟩ := hcut
  have bb6 := Below.next bb5 b6
  clear kx_c0 kx_c1 ky_c0 ky_c1 ks_c0 ks_c1 kn1_c0 kn1_c1
  go_wp2
  go_ret
  exact ⟨rfl, bb6⟩
theorem lawInt (v : Value) (bs : List Nat) (w : World) (hb : ∀ b ∈ bs, b < 256) (hm : bs.length ≤ 9223372036854775807) (hr : Row w 0 w.heap.size v (bytesV bs)) (ht : Tab w) :
    Calls Tryd.prog 3 #[v] w fun e w' => e = .returned (.bool true) ∧ Below w.heap.size w w' := by
  by_cases hn : bs.length ≤ 1048576
  · exact lawInt_small v bs w hb hn hr ht
  · obtain ⟨A0, c0, rfl, _⟩ := hr
    have hlen : (bytesV bs).length = bs.length := by simp [bytesV]
    rw [hlen]
    go_enter Tryd.func3, Tryd.ntmps3
    go_wp2
    go_ret
    exact ⟨rfl, Below.refl _ _⟩
end Go.Proofs.YtecaghbakjalgaaDoor
