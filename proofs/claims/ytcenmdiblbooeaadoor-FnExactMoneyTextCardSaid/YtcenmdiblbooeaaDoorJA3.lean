/-
  What NatDiv, NatGcd, NatTen, NatScale, NatCut and NatEven of package spec return.
  Chapter 5 of package spec: what its functions on signed numbers return.
  Chapter 5 of package spec: sums of signed numbers.
  Chapter 5 of package spec: IntNum, IntCmp, IntSign.
  Chapter 10 of package spec: what its functions return that need no fractions and no texts.
  What NatOk, NatOf, NatCmp and NatInt of package impl return.
  Chapter 5 of package impl: IntOk.
  What the methods of impl.nat do to a number of the call's own that is under construction.
-/
import Derived.Deep.LoopGhost
import Derived.Deep.RegionHeld3
import Derived.Lib.Builder
import Derived.Lib.SliceRun
import Derived.Test.YtcenmdiblbooeaaDoorJA2
namespace Go.Proofs.YtcenmdiblbooeaaDoor
open Go.RowKit

/-- a nil slice of the call's own, or an argument, has no capacity -/
def NoCap (v : Value) : Prop := ∀ n c, v = .slice none n c → c = 0
theorem own_noCap {w : World} {base n : Nat} {e : TypeId} {v : Value} {xs : List Value} (h : w.ownsRow base e 1 v n xs) : NoCap v := by
  intro m c e1
  rcases h.2 with ⟨rfl, _⟩ | ⟨g, cap, cur, rfl, _⟩
  · injection e1 with _ _ e3
    exact e3.symm
  · cases e1
/-- append of a slice that reads as a list, nil let in -/
theorem append_row {P : Program} {w : World} {ops : Array Oper} {rest : List Oper} {o : Oper} {a : Act} {Q : Exit → Act → World → Prop} (hgd : o.guard = none) (s x : Operand) (t : TypeId)
    (ho : o.op = .call { callee := .builtin .append, args := #[s, x], argTypes := #[t, t] }) (base : Nat) (e : TypeId) (i : TypeInfo) (z : Value) (bytes : Nat) (ht : P.underlying t = some (.slice e)) (hi : P.info? e = some i)
    (hz : i.zero = some z) (hsize : i.size = 1) (hby : i.bytes = bytes) (hzs : z.cells.size = 1) (v : Value) (n : Nat) (xs : List Value) (hs : a.eval s = v) (hown : w.ownsRow base e 1 v n xs)
    (vx : Value) (lo hi' : Nat) (news : List Value) (hx : a.eval x = vx) (hr : Row w lo hi' vx news) (hnc : NoCap vx) (h1 : ∀ u ∈ news, u.oneCell' = true) (h63 : n + news.length ≤ maxLen) (hbytes : (n + news.length) * bytes ≤ 140737488355328) (hbase : base ≤ w.heap.size)
    (h : ∀ v' w', w'.ownsRow base e 1 v' (n + news.length) (xs ++ news) → w.grownBy w' v.ownBlock → wpList P ops Q rest (a.put o.dst v') w') : wpList P ops Q (o :: rest) a w := by
  obtain ⟨A, c, rfl, hA⟩ := hr
  cases A with
  | none =>
    obtain rfl : news = [] := by
      cases news with
      | nil => rfl
      | cons y r => obtain ⟨_, e, _⟩ := hA 0 y rfl; cases e
    obtain rfl : c = 0 := hnc _ _ rfl
    exact wpList_append_own_none hgd s x t ho base e i 1 ht hi v n xs hs hown hx (h v w (by simpa using hown) (World.grownBy.refl _ _))
  | some ad =>
    refine wpList_append_own _ hgd s x t ho base e i z 1 bytes ht hi hz hsize hby hzs (by omega) v n xs hs hown ad news.length c news hx (by omega) (fun j u hu => ?_) h1 h63 hbytes hbase ?_
    · obtain ⟨p, e, _, _, hc⟩ := hA j u hu
      cases e
      exact hc
    · intro v' w' h2 h3 _
      exact h v' w' h2 h3

set_option maxHeartbeats 400000 in
set_option maxRecDepth 100000 in
theorem specDivOne_any (va vb : Value) (a : List Int) (d : Int) (la ha lb hb_ : Nat) (w : World) (hal : a.length ≤ 1048576) (hha : ha ≤ w.heap.size) (oa : DigN a) (hd0 : 0 < d) (hd1 : d ≤ 999999999)
    (hra : Row w la ha va (intsV a)) (hrb : Row w lb hb_ vb (intsV [d])) :
    Calls Tryd.prog 136 #[va, vb] w (TwoRows (limbs (nval a / d).toNat) (limbs (nval a % d).toNat) w) := by
  obtain ⟨B, c, rfl, hB⟩ := hrb
  obtain ⟨p, rfl, _, _, hcb⟩ := hB 0 _ rfl
  have hcb0 : w.cell? p = some (.int .i64 d) := hcb
  rw [intsV_length]
  have OA := Lib.hid oa
  have hm := Lib.hid (show 0 ≤ nval a % d ∧ nval a % d < d from ⟨Int.emod_nonneg _ (by omega), Int.emod_lt_of_pos _ hd0⟩)
  clear hB oa
  go_enter Tryd.func136, Tryd.ntmps136
  go_wp2_with fail
  refine (specSmall_any va a d la ha _ hal hha hd0 hd1 OA.out hra).mono ?_
  rintro e w1 ⟨v1, rfl, o1, b1⟩
  go_wp2_with fail
  refine (specNatOf_any _ _ (by have := hm.out; omega)).mono ?_
  rintro e w2 ⟨v2, rfl, o2, b2⟩
  go_wp2
  go_ret2
  exact ⟨v1, v2, rfl, own_below o1 b2, own_base o2 b1.size, (Lies.of o1).apart (Lies.of o2) (.inl (Nat.le_refl _)), Below.next b1 b2⟩

theorem one_of_len {b : List Int} (h : b.length = 1) : b = [b[0]] := by
  match b, h with
  | [x], _ => rfl
theorem specDiv_any (va vb : Value) (a b : List Int) (la ha lb hb_ : Nat) (w : World) (hal : a.length ≤ 50) (hbl : b.length ≤ 50) (hb0 : 0 < b.length) (hha : ha ≤ w.heap.size) (hhb : hb_ ≤ w.heap.size) (oa : DigN a) (ob : DigN b ∧ b.getLastD 1 ≠ 0)
    (hra : Row w la ha va (intsV a)) (hrb : Row w lb hb_ vb (intsV b)) :
    Calls Tryd.prog 136 #[va, vb] w (TwoRows (limbs (nval a / nval b).toNat) (limbs (nval a % nval b).toNat) w) := by
  by_cases h1 : b.length = 1
  · have hv : nval b = b[0] := by
      conv => lhs; rw [one_of_len h1]
      show b[0] + 1000000000 * 0 = _
      omega
    have hd := ob.1.at_ 0 hb0
    have hne : b[0] ≠ 0 := by
      have := ob.2
      rw [one_of_len h1] at this
      simpa using this
    rw [hv]
    exact specDivOne_any va vb a b[0] la ha lb hb_ w (by omega) hha oa (by omega) hd.2 hra (by rw [← one_of_len h1]; exact hrb)
  · exact specDivBig_any va vb a b la ha lb hb_ w hal hbl (by omega) hha hhb oa ob hra hrb

/-- what NatDiv answers -/
def divN (a b : List Int) : List Int × List Int := if natOkB a = true ∧ natOkB b = true ∧ 0 < b.length then (limbs (nval a / nval b).toNat, limbs (nval a % nval b).toNat) else ([], [])
theorem two_nil {w w' : World} (hb : Below w.heap.size w w') : TwoRows [] [] w (.returned (.tuple #[.slice none 0 0, .slice none 0 0])) w' := ⟨_, _, rfl, nil_own, nil_own, (fun x y hx _ => by cases hx), hb⟩

end Go.Proofs.YtcenmdiblbooeaaDoor

namespace Go.Proofs.YtcenmdiblbooeaaDoor
open Go.RowKit

/-- a parameter's box, new -/
theorem own_up {w w' : World} {base n : Nat} {e : TypeId} {v : Value} {xs : List Value} (h : w.ownsRow base e 1 v n xs) (hb : Below w.heap.size w w') : w'.ownsRow base e 1 v n xs := own_below h hb

set_option maxHeartbeats 400000 in
set_option maxRecDepth 100000 in
theorem specIntOk_any (v : Value) (x : SI) (w : World) (hl : x.2.length ≤ 1048576) (h : RdS w v x) :
    Calls Tryd.prog 51 #[v] w fun e w' => e = .returned (.bool (okS x)) ∧ Below w.heap.size w w' := by
  obtain ⟨n, xs⟩ := x
  obtain ⟨u, rfl, hp⟩ := h
  obtain ⟨A, c, rfl⟩ := row_form hp
  rw [intsV_length] at hp ⊢
  simp only at hl hp ⊢
  have hbx : Below w.heap.size w (w.alloc (.cells #[.bool n, .slice A xs.length c] 30)) := below_al (Below.refl _ _) _
  have HV := Lib.hid (show okS (n, xs) = (natOkB xs && (!n || decide (0 < xs.length))) from rfl)
  by_cases ok : natOkB xs = true
  · rw [ok] at HV
    go_enter Tryd.func51, Tryd.ntmps51
    go_wp2_with fail
    refine (specNatOk_any _ xs 0 w.heap.size _ hl (hp.below hbx (Nat.le_refl _))).mono ?_
    rintro e w1 ⟨rfl, rfl⟩
    rw [ok]
    cases n with
    | false =>
      go_wp2
      go_ret
      exact ⟨ret_bool (by rw [HV.out]; rfl), hbx⟩
    | true =>
      go_wp2
      go_ret
      exact ⟨ret_bool (by rw [HV.out]; simp), hbx⟩
  · have ok' : natOkB xs = false := by simpa using ok
    rw [ok'] at HV
    clear ok
    go_enter Tryd.func51, Tryd.ntmps51
    go_wp2_with fail
    refine (specNatOk_any _ xs 0 w.heap.size _ hl (hp.below hbx (Nat.le_refl _))).mono ?_
    rintro e w1 ⟨rfl, rfl⟩
    rw [ok']
    go_wp2
    go_ret
    exact ⟨ret_bool (by rw [HV.out]; rfl), hbx⟩

set_option maxHeartbeats 1000000 in
set_option maxRecDepth 100000 in
theorem l04Make_any (n : Bool) (v : Value) (xs : List Int) (base : Nat) (w : World) (hl : xs.length ≤ 1048576) (ho : w.ownsRow base 3 1 v xs.length (intsV xs)) :
    Calls Tryd.prog 89 #[.bool n, v] w (NewS (mkS n (trimL xs)) w) := by
  obtain ⟨i0, hi0, hz0, hz1, hz2⟩ := info_parts intInfo
  have hbx : Below w.heap.size w (w.alloc (.cells #[.bool false, .slice none 0 0] 30)) := below_al (Below.refl _ _) _
  obtain ⟨A, c, rfl⟩ := own_len ho
  have HO := Lib.hid ho
  clear ho
  have hcl : (capL (trimL xs)).length ≤ 50 := by
    unfold capL
    split
    · simp
    · omega
  have HR := Lib.hid (show mkS n (trimL xs) = (n && decide (0 < (capL (trimL xs)).length), capL (trimL xs)) from rfl)
  have hmade : ((w.alloc (.cells #[.bool false, .slice none 0 0] 30)).alloc (.cells #[] 3)).ownsRow w.heap.size 3 1 (.slice (some ⟨w.heap.size + 1, 0, none⟩) 0 0) 0 [] := by
    have h := World.ownsRow_made (base := w.heap.size) (e := 3) (size := 1) (w.alloc (.cells #[.bool false, .slice none 0 0] 30)) #[] 0 hbx.size (Nat.zero_le _) rfl
    simpa using h
  have hbx2 := below_al hbx (.cells #[] 3)
  have HM := Lib.hid hmade
  clear hmade
  have hone : Hid (∀ l : List Int, ∀ u ∈ intsV l, u.oneCell' = true) := Lib.hid (fun l u hu => by obtain ⟨x, _, rfl⟩ := List.mem_map.1 hu; rfl)
  have hsz1 : (w.alloc (.cells #[.bool false, .slice none 0 0] 30)).heap.size = w.heap.size + 1 := by simp
  cases n
  all_goals
    go_enter Tryd.func89, Tryd.ntmps89
    go_wp2_with fail
    refine (specCap_any _ xs base _ hl (own_up HO.out hbx)).mono ?_
    rintro e w1 ⟨rfl, v1, rfl, o1⟩
    have HO1 := Lib.hid (own_alloc o1 (.cells #[] 3))
    have HR2 := HR.out
    generalize capL (trimL xs) = ys at *
    obtain ⟨A1, c1, rfl⟩ := own_len o1
    have HRR := Lib.hid HR2
    clear o1 HR2 HR
    go_wp2_with (at_builtin; refine append_owned rfl _ _ 23 rfl w.heap.size 3 i0 (.int .i64 0) 8 Tryd.underlying23 hi0 hz0 hz1 hz2 rfl _ 0 [] rfl HM.out _ ys.length base 3 (intsV ys) rfl HO1.out (hone.out ys) (by unfold maxLen; omega) (by omega) hbx2.size ?_)
    intro v2 w2 o2 g2
    obtain ⟨A2, c2, rfl⟩ := own_len o2
    have b2 : Below w.heap.size w w2 := hbx2.grown g2 hbx2.size (fun k hk => by cases hk; show w.heap.size ≤ w.heap.size + 1; omega)
    have hbox : At [w.heap.size] (BoxAt w.heap.size #[.bool false, .slice none 0 0] 30) w2 :=
      ((box_new w #[.bool false, .slice none 0 0] 30).below (below_al (Below.refl _ _) (.cells #[] 3))).chg (Chg.of_grown g2) (fun i hi hm => by simp at hi; simp [Value.ownBlock] at hm; omega)
    have cz0 : w2.cell? ⟨w.heap.size, 0, none⟩ = some (.bool false) := hbox.here.cell 0 _ rfl
    have cz1 : w2.cell? ⟨w.heap.size, 1, none⟩ = some (.slice none 0 0) := hbox.here.cell 1 _ rfl
    have fz0 := Lib.frozen_of_heap hbox.here 0
    have fz1 := Lib.frozen_of_heap hbox.here 1
    have HO2 := Lib.hid o2
    have HBX := Lib.hid hbox
    have HB2 := Lib.hid b2
    clear o2 g2 hbox b2 hbx2 hbx
    go_wp2
    refine bodyPost_ret (v := .agg #[.bool _, .slice A2 ys.length c2]) (by simp [results, Tryd.results89, go_sem, cz0, cz1]; rfl) rfl ?_
    rw [HRR.out]
    refine ⟨.slice A2 ys.length c2, rfl, ?_, below_set2 HB2.out (Nat.le_refl _)⟩
    have hne := Lib.ownBlock_ne HO2.out HBX.out.here (by decide)
    refine own_stays HO2.out fun i hi => ?_
    have : i ≠ w.heap.size := fun e => hne (by rw [hi, e])
    exact (Below.heap_setCell _ _ _ _ this).trans (Below.heap_setCell _ _ _ _ this)

/-- a result that lies in its cell at block r -/
theorem newS_ret {r : Nat} {u c0 c1 : Value} {x : SI} {w W : World} {B : Nat} (hb : BoxAt r #[c0, c1] 30 W) (o : W.ownsRow B 3 1 u x.2.length (intsV x.2)) (hB : w.heap.size ≤ B) (hr : w.heap.size ≤ r) (hW : Below w.heap.size w W) :
    NewS x w (.returned (.agg #[.bool x.1, u])) ((W.setCell ⟨r, 0, none⟩ (.bool x.1)).setCell ⟨r, 1, none⟩ u) := by
  have hne := Lib.ownBlock_ne o hb (by decide)
  refine ⟨u, rfl, own_low (own_stays o fun i hi => ?_) hB, below_set2 hW hr⟩
  have : i ≠ r := fun e => hne (by rw [hi, e])
  exact (Below.heap_setCell _ _ _ _ this).trans (Below.heap_setCell _ _ _ _ this)
theorem newS_zero {w W : World} (hW : Below w.heap.size w W) : NewS zeroS w (.returned (.agg #[.bool false, .slice none 0 0])) W := ⟨_, rfl, World.ownsRow_nil _ _ _ _, hW⟩
theorem ok_trimL {xs : List Int} (h : natOkB xs = true) : trimL xs = limbs (nval xs).toNat := by rw [trim_limbs xs (natOk_parts h).1]
theorem negS_mk {x : SI} (h : okS x = true) : mkS (!x.1) (trimL x.2) = negS x := by
  have hp := okS_parts h
  have h0 := nval_ok hp.1
  unfold negS
  rw [if_pos h, ok_trimL hp.1, mkS_limbs]
  congr 1
  unfold valS
  cases x.1 <;> simp <;> omega
theorem absS_mk {x : SI} (h : okS x = true) : mkS false (trimL x.2) = absS x := by
  have hp := okS_parts h
  have h0 := nval_ok hp.1
  unfold absS
  rw [if_pos h, ok_trimL hp.1, mkS_limbs, valS_abs x hp.1]
  rfl

set_option maxHeartbeats 1000000 in
set_option maxRecDepth 100000 in
theorem specIntNeg_any (v : Value) (x : SI) (w : World) (hl : x.2.length ≤ 1048576) (h : OwnS v x w) :
    Calls Tryd.prog 69 #[v] w (NewS (negS x) w) := by
  obtain ⟨u, rfl, ho⟩ := h
  obtain ⟨A, c, rfl⟩ := own_len ho
  have hbb : Below w.heap.size w ((w.alloc (.cells #[.bool x.1, .slice A x.2.length c] 30)).alloc (.cells #[.bool false, .slice none 0 0] 30)) := below_al (below_al (Below.refl _ _) _) _
  have kb := (box_new w #[.bool x.1, .slice A x.2.length c] 30).below (below_al (Below.refl _ _) (.cells #[.bool false, .slice none 0 0] 30))
  have kr := box_new (w.alloc (.cells #[.bool x.1, .slice A x.2.length c] 30)) #[.bool false, .slice none 0 0] 30
  rw [show (w.alloc (.cells #[.bool x.1, .slice A x.2.length c] 30)).heap.size = w.heap.size + 1 by simp] at kr
  have hoB := own_below ho hbb
  have hrd : RdS _ (.agg #[.bool x.1, .slice A x.2.length c]) x := (OwnS.mk (x := x) (ownI_of hoB)).rd
  by_cases ok : okS x = true
  · have HV := Lib.hid (negS_mk ok)
    go_enter Tryd.func69, Tryd.ntmps69
    go_wp2_with fail
    refine (specIntOk_any _ x _ hl hrd).mono ?_
    rintro e w1 ⟨rfl, b1⟩
    rw [ok]
    clear ok
    have bb1 := Below.next hbb b1
    replace kb := kb.below b1
    replace kr := kr.below b1
    have ho1 := own_below hoB b1
    have cb0 := kb.here.cell 0 _ rfl
    have cb1 := kb.here.cell 1 _ rfl
    clear hoB hrd ho
    go_wp2_with fail
    refine (l04Make_any _ _ x.2 0 _ hl ho1).mono ?_
    rintro e w2 ⟨u2, rfl, o2, b2⟩
    obtain ⟨A2, c2, rfl⟩ := own_len o2
    have bb2 := Below.next bb1 b2
    replace kr := kr.below b2
    have cz0 := kr.here.cell 0 _ rfl
    have cz1 := kr.here.cell 1 _ rfl
    have fz0 := Lib.frozen_of_heap kr.here 0
    have fz1 := Lib.frozen_of_heap kr.here 1
    have HO2 := Lib.hid o2
    have HK := Lib.hid kr
    clear o2 kr kb cb0 cb1 ho1
    go_wp2
    refine bodyPost_ret (v := .agg #[.bool _, .slice A2 _ c2]) (by simp [results, Tryd.results69, go_sem, cz0, cz1]; exact ⟨rfl, rfl⟩) rfl ?_
    rw [← HV.out]
    exact newS_ret HK.out.here HO2.out bb1.size (by omega) bb2
  · have ok' : okS x = false := by simpa using ok
    have HV := Lib.hid (show negS x = zeroS by unfold negS; rw [if_neg ok])
    clear ok
    go_enter Tryd.func69, Tryd.ntmps69
    go_wp2_with fail
    refine (specIntOk_any _ x _ hl hrd).mono ?_
    rintro e w1 ⟨rfl, b1⟩
    rw [ok']
    have bb1 := Below.next hbb b1
    replace kr := kr.below b1
    have cz0 := kr.here.cell 0 _ rfl
    have cz1 := kr.here.cell 1 _ rfl
    have fz0 := Lib.frozen_of_heap kr.here 0
    have fz1 := Lib.frozen_of_heap kr.here 1
    clear kb hoB hrd ho
    go_wp2
    refine bodyPost_ret (v := .agg #[.bool false, .slice none 0 0]) (by simp [results, Tryd.results69, go_sem, cz0, cz1]) rfl ?_
    rw [HV.out]
    exact newS_zero (below_set2 bb1 (by omega))

theorem trimL_limbs (m : Nat) : trimL (limbs m) = limbs m := trim_last _ (limbs_lastN m)
theorem min_limbs : limbs 9223372036854775808 = [854775808, 223372036, 9] := by
  rw [limbs_pos _ (by decide), limbs_pos _ (by decide), limbs_pos _ (by decide), limbs, dif_pos (by decide)]
  rfl
theorem ofZ_neg {n : Int} (h : n < 0) : mkS true (trimL (limbs (-n).toNat)) = ofZ n := by
  rw [trimL_limbs, mkS_limbs]
  congr 1
  simp
  omega
theorem ofZ_pos {n : Int} (h : ¬ n < 0) : mkS false (trimL (limbs n.toNat)) = ofZ n := by
  rw [trimL_limbs, mkS_limbs]
  congr 1
  simp
  omega
theorem Row.lit3 (w : World) (x y z : Value) (t : TypeId) : (w.alloc (.cells #[x, y, z] t)).ownsRow w.heap.size t 1 (.slice (some ⟨w.heap.size, 0, none⟩) 3 3) 3 [x, y, z] := by
  have h := World.ownsRow_lit (e := t) (size := 1) (base := w.heap.size) w #[x, y, z] 3 (Nat.le_refl _) (by unfold maxLen; omega) rfl
  simpa using h

set_option maxHeartbeats 1000000 in
set_option maxRecDepth 100000 in
theorem specIntOf_any (n : Int) (w : World) (h0 : -9223372036854775808 ≤ n) (h1 : n ≤ 9223372036854775807) :
    Calls Tryd.prog 56 #[.int .i64 n] w (NewS (ofZ n) w) := by
  have hbb : Below w.heap.size w (w.alloc (.cells #[.bool false, .slice none 0 0] 30)) := below_al (Below.refl _ _) _
  have kr := box_new w #[.bool false, .slice none 0 0] 30
  by_cases hmin : n = -9223372036854775808
  · subst hmin
    have HV := Lib.hid (show mkS true (trimL [854775808, 223372036, 9]) = ofZ (-9223372036854775808) by rw [← min_limbs]; exact ofZ_neg (n := -9223372036854775808) (by decide))
    have ho := Row.lit3 (w.alloc (.cells #[.bool false, .slice none 0 0] 30)) (.int .i64 854775808) (.int .i64 223372036) (.int .i64 9) 3
    rw [show (w.alloc (.cells #[.bool false, .slice none 0 0] 30)).heap.size = w.heap.size + 1 by simp] at ho
    have bb1 := below_al hbb (.cells #[.int .i64 854775808, .int .i64 223372036, .int .i64 9] 3)
    replace kr := kr.below (below_al (Below.refl _ _) (.cells #[.int .i64 854775808, .int .i64 223372036, .int .i64 9] 3))
    have HO := Lib.hid ho
    clear ho
    go_enter Tryd.func56, Tryd.ntmps56
    go_wp2_with fail
    refine (l04Make_any _ _ [854775808, 223372036, 9] (w.heap.size + 1) _ (by decide) HO.out).mono ?_
    rintro e w2 ⟨u2, rfl, o2, b2⟩
    obtain ⟨A2, c2, rfl⟩ := own_len o2
    have bb2 := Below.next bb1 b2
    replace kr := kr.below b2
    have cz0 := kr.here.cell 0 _ rfl
    have cz1 := kr.here.cell 1 _ rfl
    have fz0 := Lib.frozen_of_heap kr.here 0
    have fz1 := Lib.frozen_of_heap kr.here 1
    have HO2 := Lib.hid o2
    have HK := Lib.hid kr
    clear o2 kr
    go_wp2
    refine bodyPost_ret (v := .agg #[.bool _, .slice A2 _ c2]) (by simp [results, Tryd.results56, go_sem, cz0, cz1]; exact ⟨rfl, rfl⟩) rfl ?_
    rw [← HV.out]
    exact newS_ret HK.out.here HO2.out bb1.size (by omega) bb2
  · have hmb : (n == -9223372036854775808) = false := by rw [beq_eq_false_iff_ne]; exact hmin
    by_cases hneg : n < 0
    · have HV := Lib.hid (ofZ_neg hneg)
      have hm2 : -9223372036854775807 ≤ n := by omega
      clear hmin h0
      go_enter Tryd.func56, Tryd.ntmps56
      go_wp2_with fail
      refine (specNatOf_any (-n) _ (by omega)).mono ?_
      rintro e w1 ⟨u1, rfl, o1, b1⟩
      have bb1 := Below.next hbb b1
      replace kr := kr.below b1
      go_wp2_with fail
      refine (l04Make_any _ _ (limbs (-n).toNat) _ _ (Nat.le_trans (limbs_length_le _ 3 (by show _ < (1000000000 * (1000000000 * (1000000000 * 1)) : Int); omega)) (by decide)) o1).mono ?_
      rintro e w2 ⟨u2, rfl, o2, b2⟩
      obtain ⟨A2, c2, rfl⟩ := own_len o2
      have bb2 := Below.next bb1 b2
      replace kr := kr.below b2
      have cz0 := kr.here.cell 0 _ rfl
      have cz1 := kr.here.cell 1 _ rfl
      have fz0 := Lib.frozen_of_heap kr.here 0
      have fz1 := Lib.frozen_of_heap kr.here 1
      have HO2 := Lib.hid o2
      have HK := Lib.hid kr
      clear o2 kr o1
      go_wp2
      refine bodyPost_ret (v := .agg #[.bool _, .slice A2 _ c2]) (by simp [results, Tryd.results56, go_sem, cz0, cz1]; exact ⟨rfl, rfl⟩) rfl ?_
      rw [← HV.out]
      exact newS_ret HK.out.here HO2.out bb1.size (by omega) bb2
    · have HV := Lib.hid (ofZ_pos hneg)
      clear hmin h0
      go_enter Tryd.func56, Tryd.ntmps56
      go_wp2_with fail
      refine (specNatOf_any n _ (by omega)).mono ?_
      rintro e w1 ⟨u1, rfl, o1, b1⟩
      have bb1 := Below.next hbb b1
      replace kr := kr.below b1
      go_wp2_with fail
      refine (l04Make_any _ _ (limbs n.toNat) _ _ (Nat.le_trans (limbs_length_le _ 3 (by show _ < (1000000000 * (1000000000 * (1000000000 * 1)) : Int); omega)) (by decide)) o1).mono ?_
      rintro e w2 ⟨u2, rfl, o2, b2⟩
      obtain ⟨A2, c2, rfl⟩ := own_len o2
      have bb2 := Below.next bb1 b2
      replace kr := kr.below b2
      have cz0 := kr.here.cell 0 _ rfl
      have cz1 := kr.here.cell 1 _ rfl
      have fz0 := Lib.frozen_of_heap kr.here 0
      have fz1 := Lib.frozen_of_heap kr.here 1
      have HO2 := Lib.hid o2
      have HK := Lib.hid kr
      clear o2 kr o1
      go_wp2
      refine bodyPost_ret (v := .agg #[.bool _, .slice A2 _ c2]) (by simp [results, Tryd.results56, go_sem, cz0, cz1]; exact ⟨rfl, rfl⟩) rfl ?_
      rw [← HV.out]
      exact newS_ret HK.out.here HO2.out bb1.size (by omega) bb2
end Go.Proofs.YtcenmdiblbooeaaDoor

namespace Go.Proofs.YtcenmdiblbooeaaDoor
open Go.RowKit

theorem At.behind {S : List Nat} {φ : World → Prop} {w w1 w2 : World} (h : At S φ w) (hb : Below w1.heap.size w1 w2) (hh : w1.heap = w.heap) : At S φ w2 :=
  (At.move (w' := w1) h (fun _ _ => by rw [hh]) (by rw [hh]; exact Nat.le_refl _)).below hb
theorem Chg.drew1 {T : List Nat} {w w1 : World} (h : Chg T w w1) : Chg T w w1.drew := ⟨h.os, h.tape, h.output, h.size, h.block⟩
theorem mk_add {n : Bool} {a b : List Int} (oa : natOkB a = true) (ob : natOkB b = true) : mkS n (trimL (addL a b 0)) = ofZ (if n = true then -(nval a + nval b) else nval a + nval b) := by
  have hv := addL_val a b 0 (natOk_parts oa).1 (natOk_parts ob).1 (by omega) (by omega)
  have h1 := nval_ok oa
  have h2 := nval_ok ob
  rw [trim_limbs _ hv.2.1, hv.1, mkS_limbs]
  congr 1
  split <;> omega
theorem mk_sub {n : Bool} {a b : List Int} (oa : natOkB a = true) (ob : natOkB b = true) (hle : nval b ≤ nval a) : mkS n (trimL (trimL (subL a b 0))) = ofZ (if n = true then -(nval a - nval b) else nval a - nval b) ∧ (subL a b 0).length = a.length := by
  have pa := natOk_parts oa
  have pb := natOk_parts ob
  have hll := len_of_le a b pa.1 ⟨pb.1, pb.2.2⟩ hle
  have hv := subL_val a b 0 pa.1 pb.1 hll (by omega) (by omega) (by omega)
  have h1 := nval_ok oa
  have h2 := nval_ok ob
  refine ⟨?_, hv.2.2⟩
  rw [trim_limbs (subL a b 0) hv.2.1, trimL_limbs, hv.1, mkS_limbs]
  congr 1
  split <;> omega

set_option maxHeartbeats 4000000 in
set_option maxRecDepth 100000 in
theorem l04Add_any (vx vy : Value) (x y : SI) (w : World) (okx : okS x = true) (oky : okS y = true) (hx : OwnS vx x w) (hy : OwnS vy y w) :
    Calls Tryd.prog 100 #[vx, vy] w (NewS (ofZ (valS x + valS y)) w) := by
  obtain ⟨ux, rfl, hox⟩ := hx
  obtain ⟨uy, rfl, hoy⟩ := hy
  obtain ⟨Ax, cx, rfl⟩ := own_len hox
  obtain ⟨Ay, cy, rfl⟩ := own_len hoy
  have px := okS_parts okx
  have py := okS_parts oky
  have DX := natOk_parts px.1
  have DY := natOk_parts py.1
  have hlx := DX.2.1
  have hly := DY.2.1
  have Dx := Lib.hid DX
  have Dy := Lib.hid DY
  obtain ⟨W0, hW0⟩ : ∃ W0, W0 = ((w.alloc (.cells #[.bool x.1, .slice Ax x.2.length cx] 30)).alloc (.cells #[.bool y.1, .slice Ay y.2.length cy] 30)).alloc (.cells #[.bool false, .slice none 0 0] 30) := ⟨_, rfl⟩
  have hbb : Below w.heap.size w W0 := by rw [hW0]; exact below_al (below_al (below_al (Below.refl _ _) _) _) _
  have h3 := alloc3 w (.cells #[.bool x.1, .slice Ax x.2.length cx] 30) (.cells #[.bool y.1, .slice Ay y.2.length cy] 30) (.cells #[.bool false, .slice none 0 0] 30)
  rw [← hW0] at h3
  have kx : At [w.heap.size] (BoxAt w.heap.size #[.bool x.1, .slice Ax x.2.length cx] 30) W0 := box_at h3.1
  have ky : At [w.heap.size + 1] (BoxAt (w.heap.size + 1) #[.bool y.1, .slice Ay y.2.length cy] 30) W0 := box_at h3.2.1
  have kr : At [w.heap.size + 1 + 1] (BoxAt (w.heap.size + 1 + 1) #[.bool false, .slice none 0 0] 30) W0 := box_at h3.2.2.1
  have atx := own_at hox
  have aty := own_at hoy
  have ltx := atx.lt
  have lty := aty.lt
  have OFx := Lib.hid (show ∀ W, Chg [w.heap.size + 1 + 1] W0 W → OwnI (.slice Ax x.2.length cx) x.2 W from fun W hc => ((atx.below hbb).chg hc (fun i hi hm => by have := ltx i hi; simp at hm; omega)).here)
  have OFy := Lib.hid (show ∀ W, Chg [w.heap.size + 1 + 1] W0 W → OwnI (.slice Ay y.2.length cy) y.2 W from fun W hc => ((aty.below hbb).chg hc (fun i hi hm => by have := lty i hi; simp at hm; omega)).here)
  have KL := Lib.hid (show ∀ W, Chg [w.heap.size + 1 + 1] W0 W → W.cell? ⟨w.heap.size, 0, none⟩ = some (.bool x.1) ∧ W.cell? ⟨w.heap.size, 1, none⟩ = some (.slice Ax x.2.length cx) ∧ W.cell? ⟨w.heap.size + 1, 0, none⟩ = some (.bool y.1) ∧ W.cell? ⟨w.heap.size + 1, 1, none⟩ = some (.slice Ay y.2.length cy) ∧ Hid (Chg [w.heap.size + 1 + 1] W0 W) from
    fun W hc => ⟨(kx.chg hc (fun i hi hm => by simp at hi hm; omega)).here.cell 0 _ rfl, (kx.chg hc (fun i hi hm => by simp at hi hm; omega)).here.cell 1 _ rfl, (ky.chg hc (fun i hi hm => by simp at hi hm; omega)).here.cell 0 _ rfl, (ky.chg hc (fun i hi hm => by simp at hi hm; omega)).here.cell 1 _ rfl, Lib.hid hc⟩)
  have HW := Lib.hid hW0
  clear h3 atx aty ltx lty DX DY hW0
  by_cases hs : x.1 = y.1
  · have HV : Hid (mkS x.1 (trimL (addL x.2 y.2 0)) = ofZ (valS x + valS y)) := Lib.hid (by
      rw [mk_add px.1 py.1]
      unfold valS
      rw [← hs]
      congr 1
      split <;> omega)
    have hsb : (x.1 == y.1) = true := by rw [hs]; simp
    have hal := (addL_val x.2 y.2 0 Dx.out.1 Dy.out.1 (by omega) (by omega)).2.2
    have cx0 := kx.here.cell 0 _ rfl
    have cx1 := kx.here.cell 1 _ rfl
    have cy0 := ky.here.cell 0 _ rfl
    have cy1 := ky.here.cell 1 _ rfl
    clear hs px py hox hoy okx oky
    go_enter Tryd.func100, Tryd.ntmps100
    go_wp2_with fail
    rw [← HW.out]
    clear cx0 cx1 cy0 cy1
    go_region_held3 (fun W => W.cell? ⟨w.heap.size, 0, none⟩ = some (.bool x.1) ∧ W.cell? ⟨w.heap.size, 1, none⟩ = some (.slice Ax x.2.length cx) ∧ W.cell? ⟨w.heap.size + 1, 0, none⟩ = some (.bool y.1) ∧ W.cell? ⟨w.heap.size + 1, 1, none⟩ = some (.slice Ay y.2.length cy) ∧ Hid (Chg [w.heap.size + 1 + 1] W0 W))
      ((refine KL.out _ ?_; (first | exact HC2.out | exact HC1.out | exact (Chg.setCell (Chg.setCell HC2.out (by simp) _) (by simp) _) | exact Chg.drew1 HC0.out | exact ⟨rfl, rfl, rfl, Nat.le_refl _, fun _ _ _ => rfl⟩ | fail)))
      (first
        | (go_at_call 116; (have hBB := (‹_ ∧ _ ∧ _ ∧ _ ∧ Hid (Chg [w.heap.size + 1 + 1] W0 _)›).2.2.2.2); (with_reducible refine (specAdd_any _ _ x.2 y.2 0 _ 0 _ _ (by omega) (by omega) (Nat.le_refl _) (Nat.le_refl _) Dx.out.1 Dy.out.1 (OFx.out _ hBB.out).row (OFy.out _ hBB.out).row).mono ?_); rintro e w3 ⟨u3, rfl, o3, b3⟩; have HC1 := Lib.hid (hBB.out.trans (Chg.of_below b3)); (have kr3 := At.behind kr b3 rfl); obtain ⟨A3, c3, rfl⟩ := own_len o3; clear hBB)
        | (go_at_call 89; (have hBB := (‹_ ∧ _ ∧ _ ∧ _ ∧ Hid (Chg [w.heap.size + 1 + 1] W0 _)›).2.2.2.2); (with_reducible refine (l04Make_any _ _ (addL x.2 y.2 0) _ _ (by omega) o3).mono ?_); rintro e w4 ⟨u4, rfl, o4, b4⟩; have HC2 := Lib.hid (hBB.out.trans (Chg.of_below b4)); (have kr4 := kr3.below b4); (have cz0 := kr4.here.cell 0 _ rfl); (have cz1 := kr4.here.cell 1 _ rfl); (have fz0 := Lib.frozen_of_heap kr4.here 0); (have fz1 := Lib.frozen_of_heap kr4.here 1); obtain ⟨A4, c4, rfl⟩ := own_len o4; clear hBB))
    have HO4 := Lib.hid o4
    have HK := Lib.hid kr4
    have HW0 := HW.out
    have hB4 : w.heap.size ≤ w3.heap.size := by have h1 := HC1.out.size; have h2 := hbb.size; omega
    have hBW : Below w.heap.size w w4 := below_chg hbb HC2.out hbb.size (fun g hg => by simp at hg; omega)
    have HB4 := Lib.hid hB4
    have HBW := Lib.hid hBW
    clear o4 kr4 kr3 o3 b3 b4 hB4 hBW kr kx ky HW0
    go_wp2
    refine bodyPost_ret (v := .agg #[.bool _, .slice A4 _ c4]) (by simp [results, Tryd.results100, go_sem, cz0, cz1]; exact ⟨rfl, rfl⟩) rfl ?_
    rw [← HV.out]
    exact newS_ret HK.out.here HO4.out HB4.out (by omega) HBW.out
  · have HS := Lib.hid hs
    have hsb : (x.1 == y.1) = false := by rw [beq_eq_false_iff_ne]; exact hs
    have h0x := nval_ok px.1
    have h0y := nval_ok py.1
    clear hs
    by_cases hle : nval y.2 ≤ nval x.2
    · have hle' : nval y.2 ≤ nval x.2 := by omega
      have hms := mk_sub (n := x.1) px.1 py.1 hle'
      have HV : Hid (mkS x.1 (trimL (trimL (subL x.2 y.2 0))) = ofZ (valS x + valS y)) := Lib.hid (by
        rw [hms.1]
        congr 1
        have hd := HS.out
        unfold valS
        cases hx1 : x.1 <;> cases hy1 : y.1 <;> simp_all <;> omega)
      have HSL := Lib.hid hms.2
      have hal := trimL_length (subL x.2 y.2 0)
      rw [hms.2] at hal
      have hz : 0 ≤ cmpI (nval x.2) (nval y.2) := by unfold cmpI; split <;> (try split) <;> omega
      have cx0 := kx.here.cell 0 _ rfl
      have cx1 := kx.here.cell 1 _ rfl
      have cy0 := ky.here.cell 0 _ rfl
      have cy1 := ky.here.cell 1 _ rfl
      have rx := (OFx.out W0 (Chg.refl _ _)).row
      have ry := (OFy.out W0 (Chg.refl _ _)).row
      clear px py hox hoy okx oky hms hle hle'
      go_enter Tryd.func100, Tryd.ntmps100
      go_wp2_with fail
      rw [← HW.out]
      refine (specCmp_any _ _ x.2 y.2 0 _ 0 _ W0 (by omega) (by omega) ⟨Dx.out.1, Dx.out.2.2⟩ ⟨Dy.out.1, Dy.out.2.2⟩ rx ry).mono ?_
      rintro e w' ⟨rfl, q, rfl⟩
      generalize cmpI (nval x.2) (nval y.2) = z at *
      clear rx ry
      obtain ⟨W1, hW1⟩ : ∃ W1, W1 = W0.drewN q := ⟨_, rfl⟩
      have HC0 := Lib.hid (show Chg [w.heap.size + 1 + 1] W0 W1 by rw [hW1]; exact ⟨rfl, rfl, rfl, Nat.le_refl _, fun _ _ _ => rfl⟩)
      replace kr := At.move (w' := W1) kr (fun _ _ => by rw [hW1]; rfl) (by rw [hW1]; exact Nat.le_refl _)
      have kl := KL.out W1 HC0.out
      have cx0' := kl.1
      have cx1' := kl.2.1
      have cy0' := kl.2.2.1
      have cy1' := kl.2.2.2.1
      rw [← hW1]
      clear hW1 kl cx0 cx1 cy0 cy1
      go_wp2_with fail
      clear cx0' cx1' cy0' cy1'
      go_region_held3 (fun W => W.cell? ⟨w.heap.size, 0, none⟩ = some (.bool x.1) ∧ W.cell? ⟨w.heap.size, 1, none⟩ = some (.slice Ax x.2.length cx) ∧ W.cell? ⟨w.heap.size + 1, 0, none⟩ = some (.bool y.1) ∧ W.cell? ⟨w.heap.size + 1, 1, none⟩ = some (.slice Ay y.2.length cy) ∧ Hid (Chg [w.heap.size + 1 + 1] W0 W))
        ((refine KL.out _ ?_; (first | exact HC2.out | exact HC1.out | exact (Chg.setCell (Chg.setCell HC2.out (by simp) _) (by simp) _) | exact Chg.drew1 HC0.out | exact ⟨rfl, rfl, rfl, Nat.le_refl _, fun _ _ _ => rfl⟩ | fail)))
        (first
          | (go_at_call 117; (have hBB := (‹_ ∧ _ ∧ _ ∧ _ ∧ Hid (Chg [w.heap.size + 1 + 1] W0 _)›).2.2.2.2); (with_reducible refine (specSub_any _ _ x.2 y.2 0 _ 0 _ _ (by omega) (by omega) (Nat.le_refl _) (Nat.le_refl _) Dx.out.1 Dy.out.1 (OFx.out _ hBB.out).row (OFy.out _ hBB.out).row HSL.out).mono ?_); rintro e w3 ⟨u3, rfl, o3, b3⟩; have HC1 := Lib.hid (hBB.out.trans (Chg.of_below b3)); (have kr3 := At.behind kr b3 rfl); obtain ⟨A3, c3, rfl⟩ := own_len o3; clear hBB)
          | (go_at_call 89; (have hBB := (‹_ ∧ _ ∧ _ ∧ _ ∧ Hid (Chg [w.heap.size + 1 + 1] W0 _)›).2.2.2.2); (with_reducible refine (l04Make_any _ _ (trimL (subL x.2 y.2 0)) _ _ (by omega) o3).mono ?_); rintro e w4 ⟨u4, rfl, o4, b4⟩; have HC2 := Lib.hid (hBB.out.trans (Chg.of_below b4)); (have kr4 := kr3.below b4); (have cz0 := kr4.here.cell 0 _ rfl); (have cz1 := kr4.here.cell 1 _ rfl); (have fz0 := Lib.frozen_of_heap kr4.here 0); (have fz1 := Lib.frozen_of_heap kr4.here 1); obtain ⟨A4, c4, rfl⟩ := own_len o4; clear hBB))
      have HO4 := Lib.hid o4
      have HK := Lib.hid kr4
      have HW0 := HW.out
      have hB4 : w.heap.size ≤ w3.heap.size := by have h1 := HC1.out.size; have h2 := hbb.size; omega
      have hBW : Below w.heap.size w w4 := below_chg hbb HC2.out hbb.size (fun g hg => by simp at hg; omega)
      have HB4 := Lib.hid hB4
      have HBW := Lib.hid hBW
      clear o4 kr4 kr3 o3 b3 b4 hB4 hBW kr kx ky HW0
      go_wp2
      refine bodyPost_ret (v := .agg #[.bool _, .slice A4 _ c4]) (by simp [results, Tryd.results100, go_sem, cz0, cz1]; exact ⟨rfl, rfl⟩) rfl ?_
      rw [← HV.out]
      exact newS_ret HK.out.here HO4.out HB4.out (by omega) HBW.out
    · have hle' : nval x.2 ≤ nval y.2 := by omega
      have hms := mk_sub (n := y.1) py.1 px.1 hle'
      have HV : Hid (mkS y.1 (trimL (trimL (subL y.2 x.2 0))) = ofZ (valS x + valS y)) := Lib.hid (by
        rw [hms.1]
        congr 1
        have hd := HS.out
        unfold valS
        cases hx1 : x.1 <;> cases hy1 : y.1 <;> simp_all <;> omega)
      have HSL := Lib.hid hms.2
      have hal := trimL_length (subL y.2 x.2 0)
      rw [hms.2] at hal
      have hz : cmpI (nval x.2) (nval y.2) < 0 := by unfold cmpI; split <;> (try split) <;> omega
      have cx0 := kx.here.cell 0 _ rfl
      have cx1 := kx.here.cell 1 _ rfl
      have cy0 := ky.here.cell 0 _ rfl
      have cy1 := ky.here.cell 1 _ rfl
      have rx := (OFx.out W0 (Chg.refl _ _)).row
      have ry := (OFy.out W0 (Chg.refl _ _)).row
      clear px py hox hoy okx oky hms hle hle'
      go_enter Tryd.func100, Tryd.ntmps100
      go_wp2_with fail
      rw [← HW.out]
      refine (specCmp_any _ _ x.2 y.2 0 _ 0 _ W0 (by omega) (by omega) ⟨Dx.out.1, Dx.out.2.2⟩ ⟨Dy.out.1, Dy.out.2.2⟩ rx ry).mono ?_
      rintro e w' ⟨rfl, q, rfl⟩
      generalize cmpI (nval x.2) (nval y.2) = z at *
      clear rx ry
      obtain ⟨W1, hW1⟩ : ∃ W1, W1 = W0.drewN q := ⟨_, rfl⟩
      have HC0 := Lib.hid (show Chg [w.heap.size + 1 + 1] W0 W1 by rw [hW1]; exact ⟨rfl, rfl, rfl, Nat.le_refl _, fun _ _ _ => rfl⟩)
      replace kr := At.move (w' := W1) kr (fun _ _ => by rw [hW1]; rfl) (by rw [hW1]; exact Nat.le_refl _)
      have kl := KL.out W1 HC0.out
      have cx0' := kl.1
      have cx1' := kl.2.1
      have cy0' := kl.2.2.1
      have cy1' := kl.2.2.2.1
      rw [← hW1]
      clear hW1 kl cx0 cx1 cy0 cy1
      go_wp2_with fail
      clear cx0' cx1' cy0' cy1'
      go_region_held3 (fun W => W.cell? ⟨w.heap.size, 0, none⟩ = some (.bool x.1) ∧ W.cell? ⟨w.heap.size, 1, none⟩ = some (.slice Ax x.2.length cx) ∧ W.cell? ⟨w.heap.size + 1, 0, none⟩ = some (.bool y.1) ∧ W.cell? ⟨w.heap.size + 1, 1, none⟩ = some (.slice Ay y.2.length cy) ∧ Hid (Chg [w.heap.size + 1 + 1] W0 W))
        ((refine KL.out _ ?_; (first | exact HC2.out | exact HC1.out | exact (Chg.setCell (Chg.setCell HC2.out (by simp) _) (by simp) _) | exact Chg.drew1 HC0.out | exact ⟨rfl, rfl, rfl, Nat.le_refl _, fun _ _ _ => rfl⟩ | fail)))
        (first
          | (go_at_call 117; (have hBB := (‹_ ∧ _ ∧ _ ∧ _ ∧ Hid (Chg [w.heap.size + 1 + 1] W0 _)›).2.2.2.2); (with_reducible refine (specSub_any _ _ y.2 x.2 0 _ 0 _ _ (by omega) (by omega) (Nat.le_refl _) (Nat.le_refl _) Dy.out.1 Dx.out.1 (OFy.out _ hBB.out).row (OFx.out _ hBB.out).row HSL.out).mono ?_); rintro e w3 ⟨u3, rfl, o3, b3⟩; have HC1 := Lib.hid (hBB.out.trans (Chg.of_below b3)); (have kr3 := At.behind kr b3 rfl); obtain ⟨A3, c3, rfl⟩ := own_len o3; clear hBB)
          | (go_at_call 89; (have hBB := (‹_ ∧ _ ∧ _ ∧ _ ∧ Hid (Chg [w.heap.size + 1 + 1] W0 _)›).2.2.2.2); (with_reducible refine (l04Make_any _ _ (trimL (subL y.2 x.2 0)) _ _ (by omega) o3).mono ?_); rintro e w4 ⟨u4, rfl, o4, b4⟩; have HC2 := Lib.hid (hBB.out.trans (Chg.of_below b4)); (have kr4 := kr3.below b4); (have cz0 := kr4.here.cell 0 _ rfl); (have cz1 := kr4.here.cell 1 _ rfl); (have fz0 := Lib.frozen_of_heap kr4.here 0); (have fz1 := Lib.frozen_of_heap kr4.here 1); obtain ⟨A4, c4, rfl⟩ := own_len o4; clear hBB))
      have HO4 := Lib.hid o4
      have HK := Lib.hid kr4
      have HW0 := HW.out
      have hB4 : w.heap.size ≤ w3.heap.size := by have h1 := HC1.out.size; have h2 := hbb.size; omega
      have hBW : Below w.heap.size w w4 := below_chg hbb HC2.out hbb.size (fun g hg => by simp at hg; omega)
      have HB4 := Lib.hid hB4
      have HBW := Lib.hid hBW
      clear o4 kr4 kr3 o3 b3 b4 hB4 hBW kr kx ky HW0
      go_wp2
      refine bodyPost_ret (v := .agg #[.bool _, .slice A4 _ c4]) (by simp [results, Tryd.results100, go_sem, cz0, cz1]; exact ⟨rfl, rfl⟩) rfl ?_
      rw [← HV.out]
      exact newS_ret HK.out.here HO4.out HB4.out (by omega) HBW.out

set_option maxHeartbeats 4000000 in
set_option maxRecDepth 100000 in
theorem specIntAdd_any (vx vy : Value) (x y : SI) (w : World) (hlx : x.2.length ≤ 1048576) (hly : y.2.length ≤ 1048576) (hx : OwnS vx x w) (hy : OwnS vy y w) :
    Calls Tryd.prog 67 #[vx, vy] w (NewS (addS x y) w) := by
  obtain ⟨ux, rfl, hox⟩ := hx
  obtain ⟨uy, rfl, hoy⟩ := hy
  obtain ⟨Ax, cx, rfl⟩ := own_len hox
  obtain ⟨Ay, cy, rfl⟩ := own_len hoy
  obtain ⟨W0, hW0⟩ : ∃ W0, W0 = ((w.alloc (.cells #[.bool x.1, .slice Ax x.2.length cx] 30)).alloc (.cells #[.bool y.1, .slice Ay y.2.length cy] 30)).alloc (.cells #[.bool false, .slice none 0 0] 30) := ⟨_, rfl⟩
  have hbb : Below w.heap.size w W0 := by rw [hW0]; exact below_al (below_al (below_al (Below.refl _ _) _) _) _
  have h3 := alloc3 w (.cells #[.bool x.1, .slice Ax x.2.length cx] 30) (.cells #[.bool y.1, .slice Ay y.2.length cy] 30) (.cells #[.bool false, .slice none 0 0] 30)
  rw [← hW0] at h3
  have kx : At [w.heap.size] (BoxAt w.heap.size #[.bool x.1, .slice Ax x.2.length cx] 30) W0 := box_at h3.1
  have ky : At [w.heap.size + 1] (BoxAt (w.heap.size + 1) #[.bool y.1, .slice Ay y.2.length cy] 30) W0 := box_at h3.2.1
  have kr : At [w.heap.size + 1 + 1] (BoxAt (w.heap.size + 1 + 1) #[.bool false, .slice none 0 0] 30) W0 := box_at h3.2.2.1
  have atx := own_at hox
  have aty := own_at hoy
  have ltx := atx.lt
  have lty := aty.lt
  have OFx := Lib.hid (show ∀ W, Chg [w.heap.size + 1 + 1] W0 W → OwnI (.slice Ax x.2.length cx) x.2 W from fun W hc => ((atx.below hbb).chg hc (fun i hi hm => by have := ltx i hi; simp at hm; omega)).here)
  have OFy := Lib.hid (show ∀ W, Chg [w.heap.size + 1 + 1] W0 W → OwnI (.slice Ay y.2.length cy) y.2 W from fun W hc => ((aty.below hbb).chg hc (fun i hi hm => by have := lty i hi; simp at hm; omega)).here)
  have KL := Lib.hid (show ∀ W, Chg [w.heap.size + 1 + 1] W0 W → W.cell? ⟨w.heap.size, 0, none⟩ = some (.bool x.1) ∧ W.cell? ⟨w.heap.size, 1, none⟩ = some (.slice Ax x.2.length cx) ∧ W.cell? ⟨w.heap.size + 1, 0, none⟩ = some (.bool y.1) ∧ W.cell? ⟨w.heap.size + 1, 1, none⟩ = some (.slice Ay y.2.length cy) ∧ Hid (Chg [w.heap.size + 1 + 1] W0 W) from
    fun W hc => ⟨(kx.chg hc (fun i hi hm => by simp at hi hm; omega)).here.cell 0 _ rfl, (kx.chg hc (fun i hi hm => by simp at hi hm; omega)).here.cell 1 _ rfl, (ky.chg hc (fun i hi hm => by simp at hi hm; omega)).here.cell 0 _ rfl, (ky.chg hc (fun i hi hm => by simp at hi hm; omega)).here.cell 1 _ rfl, Lib.hid hc⟩)
  have HW := Lib.hid hW0
  have RDx := (OwnS.mk (x := x) (OFx.out W0 (Chg.refl _ _))).rd
  have RDy := Lib.hid (show ∀ W, Below W0.heap.size W0 W → RdS W (.agg #[.bool y.1, .slice Ay y.2.length cy]) y from fun W hb => (OwnS.mk (x := y) (OFy.out W (Chg.of_below hb))).rd)
  have cx0 := kx.here.cell 0 _ rfl
  have cx1 := kx.here.cell 1 _ rfl
  have cy0 := ky.here.cell 0 _ rfl
  have cy1 := ky.here.cell 1 _ rfl
  have frz := Lib.frozen_of_heap kr.here
  clear h3 atx aty ltx lty hW0 hox hoy
  by_cases okx : okS x = true
  · by_cases oky : okS y = true
    · have HV := Lib.hid (show addS x y = ofZ (valS x + valS y) by unfold addS; rw [if_pos ⟨okx, oky⟩])
      go_enter Tryd.func67, Tryd.ntmps67
      go_wp2_with fail
      rw [← HW.out]
      refine (specIntOk_any _ x W0 hlx RDx).mono ?_
      rintro e w1 ⟨rfl, b1⟩
      rw [okx]
      have bb1 := Below.next hbb b1
      replace kx := kx.below b1
      replace ky := ky.below b1
      replace kr := kr.below b1
      clear cx0 cx1 cy0 cy1
      have cx0 := kx.here.cell 0 _ rfl
      have cx1 := kx.here.cell 1 _ rfl
      have cy0 := ky.here.cell 0 _ rfl
      have cy1 := ky.here.cell 1 _ rfl
      go_wp2_with fail
      refine (specIntOk_any _ y w1 hly (RDy.out w1 b1)).mono ?_
      rintro e w2 ⟨rfl, b2⟩
      rw [oky]
      have bb2 := Below.next bb1 b2
      have b02 := Below.next b1 b2
      replace kx := kx.below b2
      replace ky := ky.below b2
      replace kr := kr.below b2
      clear cx0 cx1 cy0 cy1
      have cx0 := kx.here.cell 0 _ rfl
      have cx1 := kx.here.cell 1 _ rfl
      have cy0 := ky.here.cell 0 _ rfl
      have cy1 := ky.here.cell 1 _ rfl
      go_wp2_with fail
      refine (l04Add_any _ _ x y w2 okx oky (OwnS.mk (x := x) (OFx.out w2 (Chg.of_below b02))) (OwnS.mk (x := y) (OFy.out w2 (Chg.of_below b02)))).mono ?_
      rintro e w3 ⟨u3, rfl, o3, b3⟩
      obtain ⟨A3, c3, rfl⟩ := own_len o3
      have bb3 := Below.next bb2 b3
      replace kr := kr.below b3
      clear cx0 cx1 cy0 cy1 kx ky
      have HO := Lib.hid o3
      have HBB := Lib.hid bb3
      have HK := Lib.hid kr
      have cz0 := kr.here.cell 0 _ rfl
      have cz1 := kr.here.cell 1 _ rfl
      have fz0 := Lib.frozen_of_heap kr.here 0
      have fz1 := Lib.frozen_of_heap kr.here 1
      clear o3 bb3 kr
      go_wp2
      refine bodyPost_ret (v := .agg #[.bool _, .slice A3 _ c3]) (by simp [results, Tryd.results67, go_sem, cz0, cz1]; exact ⟨rfl, rfl⟩) rfl ?_
      rw [HV.out]
      exact newS_ret HK.out.here HO.out bb2.size (by omega) HBB.out
    · have oky2 : okS y = false := by simpa using oky
      have HV := Lib.hid (show addS x y = zeroS by unfold addS; rw [if_neg (fun h => oky h.2)])
      clear oky
      go_enter Tryd.func67, Tryd.ntmps67
      go_wp2_with fail
      rw [← HW.out]
      refine (specIntOk_any _ x W0 hlx RDx).mono ?_
      rintro e w1 ⟨rfl, b1⟩
      rw [okx]
      have bb1 := Below.next hbb b1
      replace kx := kx.below b1
      replace ky := ky.below b1
      replace kr := kr.below b1
      clear cx0 cx1 cy0 cy1
      have cx0 := kx.here.cell 0 _ rfl
      have cx1 := kx.here.cell 1 _ rfl
      have cy0 := ky.here.cell 0 _ rfl
      have cy1 := ky.here.cell 1 _ rfl
      go_wp2_with fail
      refine (specIntOk_any _ y w1 hly (RDy.out w1 b1)).mono ?_
      rintro e w2 ⟨rfl, b2⟩
      rw [oky2]
      have bb2 := Below.next bb1 b2
      replace kr := kr.below b2
      clear cx0 cx1 cy0 cy1
      have cz0 := kr.here.cell 0 _ rfl
      have cz1 := kr.here.cell 1 _ rfl
      have fz0 := Lib.frozen_of_heap kr.here 0
      have fz1 := Lib.frozen_of_heap kr.here 1
      have HBB := Lib.hid bb2
      clear kx ky kr
      go_wp2
      refine bodyPost_ret (v := .agg #[.bool false, .slice none 0 0]) (by simp [results, Tryd.results67, go_sem, cz0, cz1]) rfl ?_
      rw [HV.out]
      exact newS_zero (below_set2 HBB.out (by omega))
  · have okx2 : okS x = false := by simpa using okx
    have HV := Lib.hid (show addS x y = zeroS by unfold addS; rw [if_neg (fun h => okx h.1)])
    clear okx
    go_enter Tryd.func67, Tryd.ntmps67
    go_wp2_with fail
    rw [← HW.out]
    refine (specIntOk_any _ x W0 hlx RDx).mono ?_
    rintro e w1 ⟨rfl, b1⟩
    rw [okx2]
    have bb1 := Below.next hbb b1
    replace kx := kx.below b1
    replace ky := ky.below b1
    replace kr := kr.below b1
    clear cx0 cx1 cy0 cy1
    have cz0 := kr.here.cell 0 _ rfl
    have cz1 := kr.here.cell 1 _ rfl
    have fz0 := Lib.frozen_of_heap kr.here 0
    have fz1 := Lib.frozen_of_heap kr.here 1
    have HBB := Lib.hid bb1
    clear kx ky kr
    go_wp2
    refine bodyPost_ret (v := .agg #[.bool false, .slice none 0 0]) (by simp [results, Tryd.results67, go_sem, cz0, cz1]) rfl ?_
    rw [HV.out]
    exact newS_zero (below_set2 HBB.out (by omega))

set_option maxHeartbeats 4000000 in
set_option maxRecDepth 100000 in
theorem specIntSub_any (vx vy : Value) (x y : SI) (w : World) (hlx : x.2.length ≤ 1048576) (hly : y.2.length ≤ 1048576) (hx : OwnS vx x w) (hy : OwnS vy y w) :
    Calls Tryd.prog 68 #[vx, vy] w (NewS (subS x y) w) := by
  obtain ⟨ux, rfl, hox⟩ := hx
  obtain ⟨uy, rfl, hoy⟩ := hy
  obtain ⟨Ax, cx, rfl⟩ := own_len hox
  obtain ⟨Ay, cy, rfl⟩ := own_len hoy
  obtain ⟨W0, hW0⟩ : ∃ W0, W0 = ((w.alloc (.cells #[.bool x.1, .slice Ax x.2.length cx] 30)).alloc (.cells #[.bool y.1, .slice Ay y.2.length cy] 30)).alloc (.cells #[.bool false, .slice none 0 0] 30) := ⟨_, rfl⟩
  have hbb : Below w.heap.size w W0 := by rw [hW0]; exact below_al (below_al (below_al (Below.refl _ _) _) _) _
  have h3 := alloc3 w (.cells #[.bool x.1, .slice Ax x.2.length cx] 30) (.cells #[.bool y.1, .slice Ay y.2.length cy] 30) (.cells #[.bool false, .slice none 0 0] 30)
  rw [← hW0] at h3
  have kx : At [w.heap.size] (BoxAt w.heap.size #[.bool x.1, .slice Ax x.2.length cx] 30) W0 := box_at h3.1
  have ky : At [w.heap.size + 1] (BoxAt (w.heap.size + 1) #[.bool y.1, .slice Ay y.2.length cy] 30) W0 := box_at h3.2.1
  have kr : At [w.heap.size + 1 + 1] (BoxAt (w.heap.size + 1 + 1) #[.bool false, .slice none 0 0] 30) W0 := box_at h3.2.2.1
  have atx := own_at hox
  have aty := own_at hoy
  have ltx := atx.lt
  have lty := aty.lt
  have OFx := Lib.hid (show ∀ W, Chg [w.heap.size + 1 + 1] W0 W → OwnI (.slice Ax x.2.length cx) x.2 W from fun W hc => ((atx.below hbb).chg hc (fun i hi hm => by have := ltx i hi; simp at hm; omega)).here)
  have OFy := Lib.hid (show ∀ W, Chg [w.heap.size + 1 + 1] W0 W → OwnI (.slice Ay y.2.length cy) y.2 W from fun W hc => ((aty.below hbb).chg hc (fun i hi hm => by have := lty i hi; simp at hm; omega)).here)
  have KL := Lib.hid (show ∀ W, Chg [w.heap.size + 1 + 1] W0 W → W.cell? ⟨w.heap.size, 0, none⟩ = some (.bool x.1) ∧ W.cell? ⟨w.heap.size, 1, none⟩ = some (.slice Ax x.2.length cx) ∧ W.cell? ⟨w.heap.size + 1, 0, none⟩ = some (.bool y.1) ∧ W.cell? ⟨w.heap.size + 1, 1, none⟩ = some (.slice Ay y.2.length cy) ∧ Hid (Chg [w.heap.size + 1 + 1] W0 W) from
    fun W hc => ⟨(kx.chg hc (fun i hi hm => by simp at hi hm; omega)).here.cell 0 _ rfl, (kx.chg hc (fun i hi hm => by simp at hi hm; omega)).here.cell 1 _ rfl, (ky.chg hc (fun i hi hm => by simp at hi hm; omega)).here.cell 0 _ rfl, (ky.chg hc (fun i hi hm => by simp at hi hm; omega)).here.cell 1 _ rfl, Lib.hid hc⟩)
  have HW := Lib.hid hW0
  have RDx := (OwnS.mk (x := x) (OFx.out W0 (Chg.refl _ _))).rd
  have RDy := Lib.hid (show ∀ W, Below W0.heap.size W0 W → RdS W (.agg #[.bool y.1, .slice Ay y.2.length cy]) y from fun W hb => (OwnS.mk (x := y) (OFy.out W (Chg.of_below hb))).rd)
  have cx0 := kx.here.cell 0 _ rfl
  have cx1 := kx.here.cell 1 _ rfl
  have cy0 := ky.here.cell 0 _ rfl
  have cy1 := ky.here.cell 1 _ rfl
  have frz := Lib.frozen_of_heap kr.here
  clear h3 atx aty ltx lty hW0 hox hoy
  by_cases okx : okS x = true
  · by_cases oky : okS y = true
    · have HV := Lib.hid (show subS x y = ofZ (valS x + valS (negS y)) by unfold subS; rw [if_pos ⟨okx, oky⟩, negS_val oky]; rfl)
      have HNL := Lib.hid (negS_ok y)
      go_enter Tryd.func68, Tryd.ntmps68
      go_wp2_with fail
      rw [← HW.out]
      refine (specIntOk_any _ x W0 hlx RDx).mono ?_
      rintro e w1 ⟨rfl, b1⟩
      rw [okx]
      have bb1 := Below.next hbb b1
      replace kx := kx.below b1
      replace ky := ky.below b1
      replace kr := kr.below b1
      clear cx0 cx1 cy0 cy1
      have cx0 := kx.here.cell 0 _ rfl
      have cx1 := kx.here.cell 1 _ rfl
      have cy0 := ky.here.cell 0 _ rfl
      have cy1 := ky.here.cell 1 _ rfl
      go_wp2_with fail
      refine (specIntOk_any _ y w1 hly (RDy.out w1 b1)).mono ?_
      rintro e w2 ⟨rfl, b2⟩
      rw [oky]
      have bb2 := Below.next bb1 b2
      have b02 := Below.next b1 b2
      replace kx := kx.below b2
      replace ky := ky.below b2
      replace kr := kr.below b2
      clear cx0 cx1 cy0 cy1
      have cx0 := kx.here.cell 0 _ rfl
      have cx1 := kx.here.cell 1 _ rfl
      have cy0 := ky.here.cell 0 _ rfl
      have cy1 := ky.here.cell 1 _ rfl
      go_wp2_with fail
      have KF := Lib.hid (show ∀ W, Chg [w.heap.size + 1 + 1] w2 W → Chg [w.heap.size + 1 + 1] W0 W from fun W hc => (Chg.of_below b02).trans hc)
      clear cx0 cx1 cy0 cy1
      go_region_held3 (fun W => W.cell? ⟨w.heap.size, 0, none⟩ = some (.bool x.1) ∧ W.cell? ⟨w.heap.size, 1, none⟩ = some (.slice Ax x.2.length cx) ∧ W.cell? ⟨w.heap.size + 1, 0, none⟩ = some (.bool y.1) ∧ W.cell? ⟨w.heap.size + 1, 1, none⟩ = some (.slice Ay y.2.length cy) ∧ Hid (Chg [w.heap.size + 1 + 1] W0 W))
        ((refine KL.out _ ?_; (first | exact HC2.out | exact HC1.out | exact (Chg.setCell (Chg.setCell HC2.out (by simp) _) (by simp) _) | exact KF.out _ ⟨rfl, rfl, rfl, Nat.le_refl _, fun _ _ _ => rfl⟩ | fail)))
        (first
          | (go_at_call 69; (have hBB := (‹_ ∧ _ ∧ _ ∧ _ ∧ Hid (Chg [w.heap.size + 1 + 1] W0 _)›).2.2.2.2); (with_reducible refine (specIntNeg_any _ y _ hly (OwnS.mk (x := y) (OFy.out _ hBB.out))).mono ?_); rintro e w3' ⟨u3', rfl, o3', b3'⟩; have HC1 := Lib.hid (hBB.out.trans (Chg.of_below b3')); (have kr3 := At.behind kr b3' rfl); (have bb3' := Below.next (show Below w.heap.size w w2.drew from bb2.drew) b3'); obtain ⟨A3', c3', rfl⟩ := own_len o3'; clear hBB)
          | (go_at_call 100; (have hBB := (‹_ ∧ _ ∧ _ ∧ _ ∧ Hid (Chg [w.heap.size + 1 + 1] W0 _)›).2.2.2.2); (with_reducible refine (l04Add_any _ _ x (negS y) _ okx HNL.out (OwnS.mk (x := x) (OFx.out _ hBB.out)) (OwnS.mk (x := negS y) (ownI_of o3'))).mono ?_); rintro e w3 ⟨u3, rfl, o3, b3⟩; have HC2 := Lib.hid (hBB.out.trans (Chg.of_below b3)); (have kr4 := kr3.below b3); (have bb3 := Below.next bb3' b3); (have cz0 := kr4.here.cell 0 _ rfl); (have cz1 := kr4.here.cell 1 _ rfl); (have fz0 := Lib.frozen_of_heap kr4.here 0); (have fz1 := Lib.frozen_of_heap kr4.here 1); obtain ⟨A3, c3, rfl⟩ := own_len o3; clear hBB))
      have HO := Lib.hid o3
      have HBB := Lib.hid bb3
      have HK := Lib.hid kr4
      have HZ := Lib.hid bb3'.size
      clear o3 bb3 kr kr3 kr4 kx ky o3' b3' b3
      go_wp2
      refine bodyPost_ret (v := .agg #[.bool _, .slice A3 _ c3]) (by simp [results, Tryd.results68, go_sem, cz0, cz1]; exact ⟨rfl, rfl⟩) rfl ?_
      rw [HV.out]
      exact newS_ret HK.out.here HO.out HZ.out (by omega) HBB.out
    · have oky2 : okS y = false := by simpa using oky
      have HV := Lib.hid (show subS x y = zeroS by unfold subS; rw [if_neg (fun h => oky h.2)])
      clear oky
      go_enter Tryd.func68, Tryd.ntmps68
      go_wp2_with fail
      rw [← HW.out]
      refine (specIntOk_any _ x W0 hlx RDx).mono ?_
      rintro e w1 ⟨rfl, b1⟩
      rw [okx]
      have bb1 := Below.next hbb b1
      replace kx := kx.below b1
      replace ky := ky.below b1
      replace kr := kr.below b1
      clear cx0 cx1 cy0 cy1
      have cx0 := kx.here.cell 0 _ rfl
      have cx1 := kx.here.cell 1 _ rfl
      have cy0 := ky.here.cell 0 _ rfl
      have cy1 := ky.here.cell 1 _ rfl
      go_wp2_with fail
      refine (specIntOk_any _ y w1 hly (RDy.out w1 b1)).mono ?_
      rintro e w2 ⟨rfl, b2⟩
      rw [oky2]
      have bb2 := Below.next bb1 b2
      replace kr := kr.below b2
      clear cx0 cx1 cy0 cy1
      have cz0 := kr.here.cell 0 _ rfl
      have cz1 := kr.here.cell 1 _ rfl
      have fz0 := Lib.frozen_of_heap kr.here 0
      have fz1 := Lib.frozen_of_heap kr.here 1
      have HBB := Lib.hid bb2
      clear kx ky kr
      go_wp2
      refine bodyPost_ret (v := .agg #[.bool false, .slice none 0 0]) (by simp [results, Tryd.results68, go_sem, cz0, cz1]) rfl ?_
      rw [HV.out]
      exact newS_zero (below_set2 HBB.out (by omega))
  · have okx2 : okS x = false := by simpa using okx
    have HV := Lib.hid (show subS x y = zeroS by unfold subS; rw [if_neg (fun h => okx h.1)])
    clear okx
    go_enter Tryd.func68, Tryd.ntmps68
    go_wp2_with fail
    rw [← HW.out]
    refine (specIntOk_any _ x W0 hlx RDx).mono ?_
    rintro e w1 ⟨rfl, b1⟩
    rw [okx2]
    have bb1 := Below.next hbb b1
    replace kx := kx.below b1
    replace ky := ky.below b1
    replace kr := kr.below b1
    clear cx0 cx1 cy0 cy1
    have cz0 := kr.here.cell 0 _ rfl
    have cz1 := kr.here.cell 1 _ rfl
    have fz0 := Lib.frozen_of_heap kr.here 0
    have fz1 := Lib.frozen_of_heap kr.here 1
    have HBB := Lib.hid bb1
    clear kx ky kr
    go_wp2
    refine bodyPost_ret (v := .agg #[.bool false, .slice none 0 0]) (by simp [results, Tryd.results68, go_sem, cz0, cz1]) rfl ?_
    rw [HV.out]
    exact newS_zero (below_set2 HBB.out (by omega))

theorem mk_mul {n m : Bool} {a b L : List Int} (hL : trimL L = limbs (nval a * nval b).toNat) (oa : natOkB a = true) (ob : natOkB b = true) : mkS (n != m) (trimL L) = ofZ (valS (n, a) * valS (m, b)) := by
  have h1 := nval_ok oa
  have h2 := nval_ok ob
  have h3 := Int.mul_nonneg h1 h2
  rw [hL, mkS_limbs]
  congr 1
  unfold valS
  cases n <;> cases m <;> simp [Int.toNat_of_nonneg h3, Int.mul_neg, Int.neg_mul] <;> omega
def MulPost (z : Int) (w : World) (e : Ending) (w' : World) : Prop := ∃ L, trimL L = limbs z.toNat ∧ L.length ≤ 200 ∧ NewInts L w e w'
theorem l02Mul_ok (va vb : Value) (a b : List Int) (w : World) (oa : natOkB a = true) (ob : natOkB b = true) (hra : Row w 0 w.heap.size va (intsV a)) (hrb : Row w 0 w.heap.size vb (intsV b)) :
    Calls Tryd.prog 101 #[va, vb] w (MulPost (nval a * nval b) w) := by
  have pa := natOk_parts oa
  have pb := natOk_parts ob
  by_cases h0 : a.length = 0 ∨ b.length = 0
  · refine (specMul_nil va vb a b _ _ _ _ w pa.2.1 pb.2.1 h0 hra hrb).mono fun e w' h => ⟨[], ?_, by simp, h⟩
    have hz : nval a * nval b = 0 := by
      rcases h0 with h0 | h0
      · rw [List.eq_nil_of_length_eq_zero h0]; exact Int.zero_mul _
      · rw [List.eq_nil_of_length_eq_zero h0]; exact Int.mul_zero _
    rw [hz]
    show _ = limbs 0
    rw [limbs_none]
    rfl
  · have hv := mul_val' a b pa.1 pb.1
    refine (specMul_any va vb a b _ _ _ _ w pa.2.1 pb.2.1 (by omega) (by omega) (Nat.le_refl _) (Nat.le_refl _) pa.1 pb.1 hra hrb).mono fun e w' h => ⟨_, ?_, ?_, h⟩
    · rw [trim_limbs _ hv.2.1, trimL_limbs, hv.1]
    · have := trimL_length (mulL a b (List.replicate (a.length + b.length) 0))
      have h1 := hv.2.2
      have h2 := pa.2.1
      have h3 := pb.2.1
      omega

set_option maxHeartbeats 4000000 in
set_option maxRecDepth 100000 in
theorem specIntMul_any (vx vy : Value) (x y : SI) (w : World) (hlx : x.2.length ≤ 1048576) (hly : y.2.length ≤ 1048576) (hx : OwnS vx x w) (hy : OwnS vy y w) :
    Calls Tryd.prog 72 #[vx, vy] w (NewS (mulS x y) w) := by
  obtain ⟨ux, rfl, hox⟩ := hx
  obtain ⟨uy, rfl, hoy⟩ := hy
  obtain ⟨Ax, cx, rfl⟩ := own_len hox
  obtain ⟨Ay, cy, rfl⟩ := own_len hoy
  obtain ⟨W0, hW0⟩ : ∃ W0, W0 = ((w.alloc (.cells #[.bool x.1, .slice Ax x.2.length cx] 30)).alloc (.cells #[.bool y.1, .slice Ay y.2.length cy] 30)).alloc (.cells #[.bool false, .slice none 0 0] 30) := ⟨_, rfl⟩
  have hbb : Below w.heap.size w W0 := by rw [hW0]; exact below_al (below_al (below_al (Below.refl _ _) _) _) _
  have h3 := alloc3 w (.cells #[.bool x.1, .slice Ax x.2.length cx] 30) (.cells #[.bool y.1, .slice Ay y.2.length cy] 30) (.cells #[.bool false, .slice none 0 0] 30)
  rw [← hW0] at h3
  have kx : At [w.heap.size] (BoxAt w.heap.size #[.bool x.1, .slice Ax x.2.length cx] 30) W0 := box_at h3.1
  have ky : At [w.heap.size + 1] (BoxAt (w.heap.size + 1) #[.bool y.1, .slice Ay y.2.length cy] 30) W0 := box_at h3.2.1
  have kr : At [w.heap.size + 1 + 1] (BoxAt (w.heap.size + 1 + 1) #[.bool false, .slice none 0 0] 30) W0 := box_at h3.2.2.1
  have atx := own_at hox
  have aty := own_at hoy
  have ltx := atx.lt
  have lty := aty.lt
  have OFx := Lib.hid (show ∀ W, Chg [w.heap.size + 1 + 1] W0 W → OwnI (.slice Ax x.2.length cx) x.2 W from fun W hc => ((atx.below hbb).chg hc (fun i hi hm => by have := ltx i hi; simp at hm; omega)).here)
  have OFy := Lib.hid (show ∀ W, Chg [w.heap.size + 1 + 1] W0 W → OwnI (.slice Ay y.2.length cy) y.2 W from fun W hc => ((aty.below hbb).chg hc (fun i hi hm => by have := lty i hi; simp at hm; omega)).here)
  have KL := Lib.hid (show ∀ W, Chg [w.heap.size + 1 + 1] W0 W → W.cell? ⟨w.heap.size, 0, none⟩ = some (.bool x.1) ∧ W.cell? ⟨w.heap.size, 1, none⟩ = some (.slice Ax x.2.length cx) ∧ W.cell? ⟨w.heap.size + 1, 0, none⟩ = some (.bool y.1) ∧ W.cell? ⟨w.heap.size + 1, 1, none⟩ = some (.slice Ay y.2.length cy) ∧ Hid (Chg [w.heap.size + 1 + 1] W0 W) from
    fun W hc => ⟨(kx.chg hc (fun i hi hm => by simp at hi hm; omega)).here.cell 0 _ rfl, (kx.chg hc (fun i hi hm => by simp at hi hm; omega)).here.cell 1 _ rfl, (ky.chg hc (fun i hi hm => by simp at hi hm; omega)).here.cell 0 _ rfl, (ky.chg hc (fun i hi hm => by simp at hi hm; omega)).here.cell 1 _ rfl, Lib.hid hc⟩)
  have HW := Lib.hid hW0
  have RDx := (OwnS.mk (x := x) (OFx.out W0 (Chg.refl _ _))).rd
  have RDy := Lib.hid (show ∀ W, Below W0.heap.size W0 W → RdS W (.agg #[.bool y.1, .slice Ay y.2.length cy]) y from fun W hb => (OwnS.mk (x := y) (OFy.out W (Chg.of_below hb))).rd)
  have cx0 := kx.here.cell 0 _ rfl
  have cx1 := kx.here.cell 1 _ rfl
  have cy0 := ky.here.cell 0 _ rfl
  have cy1 := ky.here.cell 1 _ rfl
  have frz := Lib.frozen_of_heap kr.here
  clear h3 atx aty ltx lty hW0 hox hoy
  by_cases okx : okS x = true
  · by_cases oky : okS y = true
    · have px := okS_parts okx
      have py := okS_parts oky
      have HV := Lib.hid (show mulS x y = ofZ (valS x * valS y) by unfold mulS; rw [if_pos ⟨okx, oky⟩])
      have HPX := Lib.hid px.1
      have HPY := Lib.hid py.1
      have HMK := Lib.hid (fun L (hL : trimL L = limbs (nval x.2 * nval y.2).toNat) => mk_mul (n := x.1) (m := y.1) (L := L) hL px.1 py.1)
      clear px py
      go_enter Tryd.func72, Tryd.ntmps72
      go_wp2_with fail
      rw [← HW.out]
      refine (specIntOk_any _ x W0 hlx RDx).mono ?_
      rintro e w1 ⟨rfl, b1⟩
      rw [okx]
      have bb1 := Below.next hbb b1
      replace kx := kx.below b1
      replace ky := ky.below b1
      replace kr := kr.below b1
      clear cx0 cx1 cy0 cy1
      have cx0 := kx.here.cell 0 _ rfl
      have cx1 := kx.here.cell 1 _ rfl
      have cy0 := ky.here.cell 0 _ rfl
      have cy1 := ky.here.cell 1 _ rfl
      go_wp2_with fail
      refine (specIntOk_any _ y w1 hly (RDy.out w1 b1)).mono ?_
      rintro e w2 ⟨rfl, b2⟩
      rw [oky]
      have bb2 := Below.next bb1 b2
      have b02 := Below.next b1 b2
      replace kx := kx.below b2
      replace ky := ky.below b2
      replace kr := kr.below b2
      clear cx0 cx1 cy0 cy1
      have cx0 := kx.here.cell 0 _ rfl
      have cx1 := kx.here.cell 1 _ rfl
      have cy0 := ky.here.cell 0 _ rfl
      have cy1 := ky.here.cell 1 _ rfl
      go_wp2_with fail
      have KF := Lib.hid (show ∀ W, Chg [w.heap.size + 1 + 1] w2 W → Chg [w.heap.size + 1 + 1] W0 W from fun W hc => (Chg.of_below b02).trans hc)
      clear cx0 cx1 cy0 cy1
      go_region_held3 (fun W => W.cell? ⟨w.heap.size, 0, none⟩ = some (.bool x.1) ∧ W.cell? ⟨w.heap.size, 1, none⟩ = some (.slice Ax x.2.length cx) ∧ W.cell? ⟨w.heap.size + 1, 0, none⟩ = some (.bool y.1) ∧ W.cell? ⟨w.heap.size + 1, 1, none⟩ = some (.slice Ay y.2.length cy) ∧ Hid (Chg [w.heap.size + 1 + 1] W0 W))
        ((refine KL.out _ ?_; (first | exact HC2.out | exact HC1.out | exact (Chg.setCell (Chg.setCell HC2.out (by simp) _) (by simp) _) | exact KF.out _ ⟨rfl, rfl, rfl, Nat.le_refl _, fun _ _ _ => rfl⟩ | fail)))
        (first
          | (go_at_call 101; (have hBB := (‹_ ∧ _ ∧ _ ∧ _ ∧ Hid (Chg [w.heap.size + 1 + 1] W0 _)›).2.2.2.2); (with_reducible refine (l02Mul_ok _ _ x.2 y.2 _ HPX.out HPY.out (OFx.out _ hBB.out).row (OFy.out _ hBB.out).row).mono ?_); rintro e w3' ⟨L, hL1, hL2, u3', rfl, o3', b3'⟩; have HL1 := Lib.hid hL1; clear hL1; have HC1 := Lib.hid (hBB.out.trans (Chg.of_below b3')); (have kr3 := At.behind kr b3' rfl); (have bb3' := Below.next (show Below w.heap.size w w2.drew from bb2.drew) b3'); obtain ⟨A3', c3', rfl⟩ := own_len o3'; clear hBB)
          | (go_at_call 89; (have hBB := (‹_ ∧ _ ∧ _ ∧ _ ∧ Hid (Chg [w.heap.size + 1 + 1] W0 _)›).2.2.2.2); (with_reducible refine (l04Make_any _ _ L _ _ (by omega) o3').mono ?_); rintro e w3 ⟨u3, rfl, o3, b3⟩; have HC2 := Lib.hid (hBB.out.trans (Chg.of_below b3)); (have kr4 := kr3.below b3); (have bb3 := Below.next bb3' b3); (have cz0 := kr4.here.cell 0 _ rfl); (have cz1 := kr4.here.cell 1 _ rfl); (have fz0 := Lib.frozen_of_heap kr4.here 0); (have fz1 := Lib.frozen_of_heap kr4.here 1); obtain ⟨A3, c3, rfl⟩ := own_len o3; clear hBB))
      have HO := Lib.hid o3
      have HBB := Lib.hid bb3
      have HK := Lib.hid kr4
      have HZ := Lib.hid bb3'.size
      clear o3 bb3 kr kr3 kr4 kx ky o3' b3' b3
      go_wp2
      refine bodyPost_ret (v := .agg #[.bool _, .slice A3 _ c3]) (by simp [results, Tryd.results72, go_sem, cz0, cz1]; exact ⟨rfl, rfl⟩) rfl ?_
      rw [HV.out, ← HMK.out L HL1.out]
      exact newS_ret HK.out.here HO.out HZ.out (by omega) HBB.out
    · have oky2 : okS y = false := by simpa using oky
      have HV := Lib.hid (show mulS x y = zeroS by unfold mulS; rw [if_neg (fun h => oky h.2)])
      clear oky
      go_enter Tryd.func72, Tryd.ntmps72
      go_wp2_with fail
      rw [← HW.out]
      refine (specIntOk_any _ x W0 hlx RDx).mono ?_
      rintro e w1 ⟨rfl, b1⟩
      rw [okx]
      have bb1 := Below.next hbb b1
      replace kx := kx.below b1
      replace ky := ky.below b1
      replace kr := kr.below b1
      clear cx0 cx1 cy0 cy1
      have cx0 := kx.here.cell 0 _ rfl
      have cx1 := kx.here.cell 1 _ rfl
      have cy0 := ky.here.cell 0 _ rfl
      have cy1 := ky.here.cell 1 _ rfl
      go_wp2_with fail
      refine (specIntOk_any _ y w1 hly (RDy.out w1 b1)).mono ?_
      rintro e w2 ⟨rfl, b2⟩
      rw [oky2]
      have bb2 := Below.next bb1 b2
      replace kr := kr.below b2
      clear cx0 cx1 cy0 cy1
      have cz0 := kr.here.cell 0 _ rfl
      have cz1 := kr.here.cell 1 _ rfl
      have fz0 := Lib.frozen_of_heap kr.here 0
      have fz1 := Lib.frozen_of_heap kr.here 1
      have HBB := Lib.hid bb2
      clear kx ky kr
      go_wp2
      refine bodyPost_ret (v := .agg #[.bool false, .slice none 0 0]) (by simp [results, Tryd.results72, go_sem, cz0, cz1]) rfl ?_
      rw [HV.out]
      exact newS_zero (below_set2 HBB.out (by omega))
  · have okx2 : okS x = false := by simpa using okx
    have HV := Lib.hid (show mulS x y = zeroS by unfold mulS; rw [if_neg (fun h => okx h.1)])
    clear okx
    go_enter Tryd.func72, Tryd.ntmps72
    go_wp2_with fail
    rw [← HW.out]
    refine (specIntOk_any _ x W0 hlx RDx).mono ?_
    rintro e w1 ⟨rfl, b1⟩
    rw [okx2]
    have bb1 := Below.next hbb b1
    replace kx := kx.below b1
    replace ky := ky.below b1
    replace kr := kr.below b1
    clear cx0 cx1 cy0 cy1
    have cz0 := kr.here.cell 0 _ rfl
    have cz1 := kr.here.cell 1 _ rfl
    have fz0 := Lib.frozen_of_heap kr.here 0
    have fz1 := Lib.frozen_of_heap kr.here 1
    have HBB := Lib.hid bb1
    clear kx ky kr
    go_wp2
    refine bodyPost_ret (v := .agg #[.bool false, .slice none 0 0]) (by simp [results, Tryd.results72, go_sem, cz0, cz1]) rfl ?_
    rw [HV.out]
    exact newS_zero (below_set2 HBB.out (by omega))
end Go.Proofs.YtcenmdiblbooeaaDoor

namespace Go.Proofs.YtcenmdiblbooeaaDoor
open Go.RowKit

/-- what IntNum answers -/
def numS (x : SI) : Int × Bool := if okS x = true ∧ nval x.2 ≤ 9223372036854775807 then (valS x, true) else (0, false)


set_option maxHeartbeats 2000000 in
set_option maxRecDepth 100000 in
theorem specIntCmp_any (vx vy : Value) (x y : SI) (w : World) (hlx : x.2.length ≤ 1048576) (hly : y.2.length ≤ 1048576) (hx : OwnS vx x w) (hy : OwnS vy y w) :
    Calls Tryd.prog 74 #[vx, vy] w fun e w' => e = .returned (.int .i64 (cmpS x y)) ∧ Below w.heap.size w w' := by
  obtain ⟨ux, rfl, hox⟩ := hx
  obtain ⟨uy, rfl, hoy⟩ := hy
  obtain ⟨Ax, cx, rfl⟩ := own_len hox
  obtain ⟨Ay, cy, rfl⟩ := own_len hoy
  have hbb : Below w.heap.size w ((w.alloc (.cells #[.bool x.1, .slice Ax x.2.length cx] 30)).alloc (.cells #[.bool y.1, .slice Ay y.2.length cy] 30)) := below_al (below_al (Below.refl _ _) _) _
  have kx := (box_new w #[.bool x.1, .slice Ax x.2.length cx] 30).below (below_al (Below.refl _ _) (.cells #[.bool y.1, .slice Ay y.2.length cy] 30))
  have ky := box_new (w.alloc (.cells #[.bool x.1, .slice Ax x.2.length cx] 30)) #[.bool y.1, .slice Ay y.2.length cy] 30
  rw [show (w.alloc (.cells #[.bool x.1, .slice Ax x.2.length cx] 30)).heap.size = w.heap.size + 1 by simp] at ky
  have ox := own_below hox hbb
  have oy := own_below hoy hbb
  have rdx := (OwnS.mk (x := x) (ownI_of ox)).rd
  clear hox hoy
  by_cases okx : okS x = true
  · go_enter Tryd.func74, Tryd.ntmps74
    go_wp2_with fail
    refine (specIntOk_any _ x _ hlx rdx).mono ?_
    rintro e w1 ⟨rfl, b1⟩
    rw [okx]
    have bb1 := Below.next hbb b1
    replace kx := kx.below b1
    replace ky := ky.below b1
    replace ox := own_below ox b1
    replace oy := own_below oy b1
    have cy0 := ky.here.cell 0 _ rfl
    have cy1 := ky.here.cell 1 _ rfl
    clear rdx
    go_wp2_with fail
    refine (specIntOk_any _ y w1 hly (OwnS.mk (x := y) (ownI_of oy)).rd).mono ?_
    rintro e w2 ⟨rfl, b2⟩
    have bb2 := Below.next bb1 b2
    replace kx := kx.below b2
    replace ky := ky.below b2
    replace ox := own_below ox b2
    replace oy := own_below oy b2
    clear cy0 cy1
    by_cases oky : okS y = true
    · rw [oky]
      have HV := Lib.hid (show cmpS x y = cmpI (valS x) (valS y) by unfold cmpS; rw [if_pos ⟨okx, oky⟩])
      have px := okS_parts okx
      have py := okS_parts oky
      have h0x := nval_ok px.1
      have h0y := nval_ok py.1
      have Dx := Lib.hid (natOk_parts px.1)
      have Dy := Lib.hid (natOk_parts py.1)
      have cx0 := kx.here.cell 0 _ rfl
      have cx1 := kx.here.cell 1 _ rfl
      have cy0 := ky.here.cell 0 _ rfl
      have cy1 := ky.here.cell 1 _ rfl
      have hpx : x.1 = true → 0 < nval x.2 := fun h => okS_pos okx (px.2 h)
      have hpy : y.1 = true → 0 < nval y.2 := fun h => okS_pos oky (py.2 h)
      have HPX := Lib.hid hpx
      have HPY := Lib.hid hpy
      have rx := (ownI_of ox).row
      have ry := (ownI_of oy).row
      clear px py hpx hpy okx oky kx ky
      cases hx1 : x.1 <;> cases hy1 : y.1
      · rw [hx1] at cx0
        rw [hy1] at cy0
        have HC := Lib.hid (show cmpI (valS x) (valS y) = cmpI (nval x.2) (nval y.2) by unfold valS; rw [hx1, hy1]; rfl)
        clear hx1 hy1
        go_wp2_with fail
        refine (specCmp_any _ _ x.2 y.2 0 _ 0 _ w2 hlx hly ⟨Dx.out.1, Dx.out.2.2⟩ ⟨Dy.out.1, Dy.out.2.2⟩ rx ry).mono ?_
        rintro e w' ⟨rfl, q, rfl⟩
        go_wp2
        go_ret
        exact ⟨ret_int (by rw [HV.out, HC.out]), below_drewN bb2 q⟩
      · rw [hx1] at cx0
        rw [hy1] at cy0
        have HC := Lib.hid (show cmpI (valS x) (valS y) = 1 by have := HPY.out hy1; unfold valS; rw [hx1, hy1]; simp; unfold cmpI; rw [if_neg (by omega), if_pos (by omega)])
        clear hx1 hy1
        go_wp2
        go_ret
        exact ⟨ret_int (by rw [HV.out, HC.out]), bb2⟩
      · rw [hx1] at cx0
        rw [hy1] at cy0
        have HC := Lib.hid (show cmpI (valS x) (valS y) = -1 by have := HPX.out hx1; unfold valS; rw [hx1, hy1]; simp; unfold cmpI; rw [if_pos (by omega)])
        clear hx1 hy1
        go_wp2
        go_ret
        exact ⟨ret_int (by rw [HV.out, HC.out]), bb2⟩
      · rw [hx1] at cx0
        rw [hy1] at cy0
        have HC := Lib.hid (show cmpI (valS x) (valS y) = cmpI (nval y.2) (nval x.2) by unfold valS; rw [hx1, hy1]; simp; unfold cmpI; split <;> split <;> (try split) <;> (try split) <;> omega)
        clear hx1 hy1
        go_wp2_with fail
        refine (specCmp_any _ _ y.2 x.2 0 _ 0 _ w2 hly hlx ⟨Dy.out.1, Dy.out.2.2⟩ ⟨Dx.out.1, Dx.out.2.2⟩ ry rx).mono ?_
        rintro e w' ⟨rfl, q, rfl⟩
        go_wp2
        go_ret
        exact ⟨ret_int (by rw [HV.out, HC.out]), below_drewN bb2 q⟩
    · have oky' : okS y = false := by simpa using oky
      have HV := Lib.hid (show cmpS x y = 0 by unfold cmpS; rw [if_neg (fun h => oky h.2)])
      rw [oky']
      clear oky kx ky
      go_wp2
      go_ret
      exact ⟨ret_int HV.out.symm, bb2⟩
  · have okx' : okS x = false := by simpa using okx
    have HV := Lib.hid (show cmpS x y = 0 by unfold cmpS; rw [if_neg (fun h => okx h.1)])
    clear okx
    go_enter Tryd.func74, Tryd.ntmps74
    go_wp2_with fail
    refine (specIntOk_any _ x _ hlx rdx).mono ?_
    rintro e w1 ⟨rfl, b1⟩
    rw [okx']
    have bb1 := Below.next hbb b1
    clear kx ky rdx
    go_wp2
    go_ret
    exact ⟨ret_int HV.out.symm, bb1⟩

end Go.Proofs.YtcenmdiblbooeaaDoor

namespace Go.Proofs.YtcenmdiblbooeaaDoor
open Go.RowKit

/-- what a call answers that keeps the memory of its argument: an amount that leans on no other blocks, and a bool -/
def KeptM (S : List Nat) (R0 : MI) (R1 : Bool) (w : World) (e : Ending) (w' : World) : Prop :=
  ∃ (v : Value) (T : List Nat), e = .returned (.tuple #[v, .bool R1]) ∧ At T (OwnM v R0) w' ∧ (∀ i ∈ T, i ∈ S) ∧ Below w.heap.size w w'
theorem keptM_at {r : Nat} {S : List Nat} {c0 c1 c2 : Value} {x : MI} {b : Bool} {w W : World} (o : At S (OwnM (.agg #[c0, c1, c2]) x) W) (hS : ∀ i ∈ S, i < w.heap.size) (hr : w.heap.size ≤ r) (hW : Below w.heap.size w W) :
    KeptM S x b w (.returned (.tuple #[.agg #[c0, c1, c2], .bool b])) (((W.setCell ⟨r, 0, none⟩ c0).setCell ⟨r, 1, none⟩ c1).setCell ⟨r, 2, none⟩ c2) :=
  ⟨_, S, rfl, o.chg chg_set3M (fun i hi hm => by have := hS i hi; simp at hm; omega), fun i hi => hi, below_set3 hW hr⟩
theorem keptM_zero {S : List Nat} {w W : World} (hW : Below w.heap.size w W) : KeptM S zeroM false w (.returned (.tuple #[.agg #[.string ⟨#[]⟩, .bool false, .slice none 0 0], .bool false])) W :=
  ⟨_, [], rfl, atM_zero _, fun _ hi => absurd hi List.not_mem_nil, hW⟩
theorem keptM_eq {S : List Nat} {q p : MI × Bool} (e : q = p) {w w' : World} {n : Ending} (h : KeptM S q.1 q.2 w n w') : KeptM S p.1 p.2 w n w' := e ▸ h
set_option maxHeartbeats 1000000 in
set_option maxRecDepth 100000 in
theorem specMoneyOk_any (vm : Value) (m : MI) (w : World) (hl : m.2.2.length ≤ 1048576) (hm : OwnM vm m w) :
    Calls Tryd.prog 17 #[vm] w (Postb (okM m) w) := by
  have Hm := Lib.hid hm
  obtain ⟨Am, cm, rfl⟩ := ownM_form hm
  have OMm := Lib.hid (show ∀ W, Below w.heap.size w W → OwnM (.agg #[.string m.1, .bool m.2.1, .slice Am m.2.2.length cm]) m W from fun W hb => OwnM.below Hm.out hb)
  have OIm := Lib.hid (show ∀ W, Below w.heap.size w W → OwnI (.slice Am m.2.2.length cm) m.2.2 W from fun W hb => ownM_open (OMm.out W hb))
  have OSm := Lib.hid (show ∀ W, Below w.heap.size w W → OwnS (.agg #[.bool m.2.1, .slice Am m.2.2.length cm]) m.2 W from fun W hb => OwnS.mk (OIm.out W hb))
  clear hm
  have bb0 : Below w.heap.size w (w.alloc (.cells #[.string m.1, .bool m.2.1, .slice Am m.2.2.length cm] 32)) := below_al (Below.refl _ _) _
  have km := (box_new w #[.string m.1, .bool m.2.1, .slice Am m.2.2.length cm] 32)
  go_enter Tryd.func17, Tryd.ntmps17
  have km_c0 := km.here.cell 0 _ rfl
  have km_c1 := km.here.cell 1 _ rfl
  have km_c2 := km.here.cell 2 _ rfl
  go_wp2_with fail
  clear km_c0 km_c1 km_c2
  refine (specCurKnown_any m.1 _).mono ?_
  rintro e w1 ⟨rfl, b1⟩
  have bb1 := Below.next bb0 b1
  replace km := km.below b1
  by_cases ok0 : knownC m.1 = true
  · rw [ok0]
    have HO0 := Lib.hid ok0
    clear ok0
    have km_c0 := km.here.cell 0 _ rfl
    have km_c1 := km.here.cell 1 _ rfl
    have km_c2 := km.here.cell 2 _ rfl
    go_wp2_with fail
    clear km_c0 km_c1 km_c2
    refine (specIntOk_any _ m.2 _ hl (OwnS.rd (OSm.out _ bb1))).mono ?_
    rintro e w2 ⟨rfl, b2⟩
    have bb2 := Below.next bb1 b2
    replace km := km.below b2
    by_cases ok1 : okS m.2 = true
    · rw [ok1]
      have HO1 := Lib.hid ok1
      clear ok1
      have HV := Lib.hid (show okM m = decide ((m.2.2.length : Int) ≤ 4) by unfold okM; rw [HO0.out, HO1.out, Bool.true_and, Bool.true_and, decide_eq_decide]; omega)
      have km_c0 := km.here.cell 0 _ rfl
      have km_c1 := km.here.cell 1 _ rfl
      have km_c2 := km.here.cell 2 _ rfl
      clear hl
      go_wp2
      go_ret
      exact ⟨ret_bool HV.out.symm, bb2⟩
    · have ok1' : okS m.2 = false := by simpa using ok1
      have HV := Lib.hid (show okM m = false by unfold okM; rw [ok1', Bool.and_false, Bool.false_and])
      rw [ok1']
      clear ok1 ok1'
      go_wp2
      go_ret
      exact ⟨ret_bool HV.out.symm, bb2⟩
  · have ok0' : knownC m.1 = false := by simpa using ok0
    have HV := Lib.hid (show okM m = false by unfold okM; rw [ok0', Bool.false_and, Bool.false_and])
    rw [ok0']
    clear ok0 ok0'
    go_wp2
    go_ret
    exact ⟨ret_bool HV.out.symm, bb1⟩
set_option maxHeartbeats 1000000 in
set_option maxRecDepth 100000 in
theorem l09Make_any (cu : ByteArray) (vx : Value) (x : SI) (S : List Nat) (w : World) (hl : x.2.length ≤ 1048576) (hx : At S (OwnS vx x) w) :
    Calls Tryd.prog 55 #[.string cu, vx] w (KeptM S (makeM cu x).1 (makeM cu x).2 w) := by
  obtain ⟨Ax, cx, rfl⟩ := ownS_form hx.here
  have OX := Lib.hid (show ∀ W, Below w.heap.size w W → At S (OwnM (.agg #[.string cu, .bool x.1, .slice Ax x.2.length cx]) (cu, x)) W from fun W hb => (hx.below hb).imp fun _ h => OwnM.mk (q := (cu, x)) (ownS_openM h))
  have HLT := Lib.hid hx.lt
  clear hx
  have bb0 : Below w.heap.size w ((w.alloc (.cells #[.bool x.1, .slice Ax x.2.length cx] 30)).alloc (.cells #[.string ⟨#[]⟩, .bool false, .slice none 0 0] 32)) := below_al (below_al (Below.refl _ _) _) _
  have kx := (box_new w #[.bool x.1, .slice Ax x.2.length cx] 30).below (below_al (Below.refl _ _) (.cells #[.string ⟨#[]⟩, .bool false, .slice none 0 0] 32))
  have ko := (box_new (w.alloc (.cells #[.bool x.1, .slice Ax x.2.length cx] 30)) #[.string ⟨#[]⟩, .bool false, .slice none 0 0] 32)
  rw [show (w.alloc (.cells #[.bool x.1, .slice Ax x.2.length cx] 30)).heap.size = w.heap.size + 1 by simp] at ko
  have kd := box_new (((w.alloc (.cells #[.bool x.1, .slice Ax x.2.length cx] 30)).alloc (.cells #[.string ⟨#[]⟩, .bool false, .slice none 0 0] 32))) #[.string cu, .bool x.1, .slice Ax x.2.length cx] 32
  have ald := below_al (Below.refl (((w.alloc (.cells #[.bool x.1, .slice Ax x.2.length cx] 30)).alloc (.cells #[.string ⟨#[]⟩, .bool false, .slice none 0 0] 32))).heap.size (((w.alloc (.cells #[.bool x.1, .slice Ax x.2.length cx] 30)).alloc (.cells #[.string ⟨#[]⟩, .bool false, .slice none 0 0] 32)))) (.cells #[.string cu, .bool x.1, .slice Ax x.2.length cx] 32)
  have bbd := Below.next bb0 ald
  replace kx := kx.below ald
  replace ko := ko.below ald
  rw [show ((w.alloc (.cells #[.bool x.1, .slice Ax x.2.length cx] 30)).alloc (.cells #[.string ⟨#[]⟩, .bool false, .slice none 0 0] 32)).heap.size = w.heap.size + 1 + 1 by simp] at kd
  go_enter Tryd.func55, Tryd.ntmps55
  have kx_c0 := kx.here.cell 0 _ rfl
  have kx_c1 := kx.here.cell 1 _ rfl
  have kd_c0 := kd.here.cell 0 _ rfl
  have kd_c1 := kd.here.cell 1 _ rfl
  have kd_c2 := kd.here.cell 2 _ rfl
  go_wp2_with fail
  clear kx_c0 kx_c1 kd_c0 kd_c1 kd_c2
  refine (specMoneyOk_any _ (cu, x) _ hl (OX.out _ bbd).here).mono ?_
  rintro e w1 ⟨rfl, b1⟩
  have bb1 := Below.next bbd b1
  replace kx := kx.below b1
  replace ko := ko.below b1
  replace kd := kd.below b1
  by_cases ok : okM (cu, x) = true
  · rw [ok]
    have HV := Lib.hid (show makeM cu x = ((cu, x), true) by unfold makeM; rw [if_pos ok])
    clear ok kx
    have HW := Lib.hid (keptM_at (r := w.heap.size + 1) (b := true) (OX.out _ bb1) HLT.out (by omega) bb1)
    have kd_c0 := kd.here.cell 0 _ rfl
    have kd_c1 := kd.here.cell 1 _ rfl
    have kd_c2 := kd.here.cell 2 _ rfl
    have cz0 := ko.here.cell 0 _ rfl
    have fz0 := Lib.frozen_of_heap ko.here 0
    have cz1 := ko.here.cell 1 _ rfl
    have fz1 := Lib.frozen_of_heap ko.here 1
    have cz2 := ko.here.cell 2 _ rfl
    have fz2 := Lib.frozen_of_heap ko.here 2
    clear kd ko
    go_wp2
    refine bodyPost_ret (v := .tuple #[.agg #[.string cu, .bool x.1, .slice Ax x.2.length cx], .bool true]) (by simp [results, Tryd.results55, go_sem, cz0, cz1, cz2]) rfl ?_
    rw [HV.out]
    exact HW.out
  · have ok' : okM (cu, x) = false := by simpa using ok
    have HV := Lib.hid (show makeM cu x = (zeroM, false) by unfold makeM; rw [if_neg ok])
    rw [ok']
    clear ok ok' kx kd
    have cz0 := ko.here.cell 0 _ rfl
    have fz0 := Lib.frozen_of_heap ko.here 0
    have cz1 := ko.here.cell 1 _ rfl
    have fz1 := Lib.frozen_of_heap ko.here 1
    have cz2 := ko.here.cell 2 _ rfl
    have fz2 := Lib.frozen_of_heap ko.here 2
    go_wp2
    refine bodyPost_ret (v := .tuple #[.agg #[.string ⟨#[]⟩, .bool false, .slice none 0 0], .bool false]) (by simp [results, Tryd.results55, go_sem, cz0, cz1, cz2]) rfl ?_
    rw [HV.out]
    first | exact keptM_zero bb1 | exact keptM_zero (below_set3 bb1 (by omega))
set_option maxHeartbeats 1000000 in
set_option maxRecDepth 100000 in
theorem l09Both_any (va vb : Value) (a b : MI) (w : World) (hla : a.2.2.length ≤ 1048576) (hlb : b.2.2.length ≤ 1048576) (ha : OwnM va a w) (hb : OwnM vb b w) :
    Calls Tryd.prog 66 #[va, vb] w (Postb (bothM a b) w) := by
  have Ha := Lib.hid ha
  obtain ⟨Aa, ca, rfl⟩ := ownM_form ha
  have OMa := Lib.hid (show ∀ W, Below w.heap.size w W → OwnM (.agg #[.string a.1, .bool a.2.1, .slice Aa a.2.2.length ca]) a W from fun W hb => OwnM.below Ha.out hb)
  have OIa := Lib.hid (show ∀ W, Below w.heap.size w W → OwnI (.slice Aa a.2.2.length ca) a.2.2 W from fun W hb => ownM_open (OMa.out W hb))
  have OSa := Lib.hid (show ∀ W, Below w.heap.size w W → OwnS (.agg #[.bool a.2.1, .slice Aa a.2.2.length ca]) a.2 W from fun W hb => OwnS.mk (OIa.out W hb))
  clear ha
  have Hb := Lib.hid hb
  obtain ⟨Ab, cb, rfl⟩ := ownM_form hb
  have OMb := Lib.hid (show ∀ W, Below w.heap.size w W → OwnM (.agg #[.string b.1, .bool b.2.1, .slice Ab b.2.2.length cb]) b W from fun W hb => OwnM.below Hb.out hb)
  have OIb := Lib.hid (show ∀ W, Below w.heap.size w W → OwnI (.slice Ab b.2.2.length cb) b.2.2 W from fun W hb => ownM_open (OMb.out W hb))
  have OSb := Lib.hid (show ∀ W, Below w.heap.size w W → OwnS (.agg #[.bool b.2.1, .slice Ab b.2.2.length cb]) b.2 W from fun W hb => OwnS.mk (OIb.out W hb))
  clear hb
  have bb0 : Below w.heap.size w ((w.alloc (.cells #[.string a.1, .bool a.2.1, .slice Aa a.2.2.length ca] 32)).alloc (.cells #[.string b.1, .bool b.2.1, .slice Ab b.2.2.length cb] 32)) := below_al (below_al (Below.refl _ _) _) _
  have ka := (box_new w #[.string a.1, .bool a.2.1, .slice Aa a.2.2.length ca] 32).below (below_al (Below.refl _ _) (.cells #[.string b.1, .bool b.2.1, .slice Ab b.2.2.length cb] 32))
  have kb := (box_new (w.alloc (.cells #[.string a.1, .bool a.2.1, .slice Aa a.2.2.length ca] 32)) #[.string b.1, .bool b.2.1, .slice Ab b.2.2.length cb] 32)
  rw [show (w.alloc (.cells #[.string a.1, .bool a.2.1, .slice Aa a.2.2.length ca] 32)).heap.size = w.heap.size + 1 by simp] at kb
  go_enter Tryd.func66, Tryd.ntmps66
  have ka_c0 := ka.here.cell 0 _ rfl
  have ka_c1 := ka.here.cell 1 _ rfl
  have ka_c2 := ka.here.cell 2 _ rfl
  go_wp2_with fail
  clear ka_c0 ka_c1 ka_c2
  refine (specMoneyOk_any _ a _ hla (OMa.out _ bb0)).mono ?_
  rintro e w1 ⟨rfl, b1⟩
  have bb1 := Below.next bb0 b1
  replace ka := ka.below b1
  replace kb := kb.below b1
  by_cases oka : okM a = true
  · rw [oka]
    have HOa := Lib.hid oka
    clear oka
    have kb_c0 := kb.here.cell 0 _ rfl
    have kb_c1 := kb.here.cell 1 _ rfl
    have kb_c2 := kb.here.cell 2 _ rfl
    go_wp2_with fail
    clear kb_c0 kb_c1 kb_c2
    refine (specMoneyOk_any _ b _ hlb (OMb.out _ bb1)).mono ?_
    rintro e w2 ⟨rfl, b2⟩
    have bb2 := Below.next bb1 b2
    replace ka := ka.below b2
    replace kb := kb.below b2
    by_cases okb : okM b = true
    · rw [okb]
      have HOb := Lib.hid okb
      clear okb
      by_cases he : a.1 = b.1
      · have HV := Lib.hid (show bothM a b = true by unfold bothM; rw [HOa.out, HOb.out, decide_eq_true he]; rfl)
        have ka_c0 := ka.here.cell 0 _ rfl
        have ka_c1 := ka.here.cell 1 _ rfl
        have ka_c2 := ka.here.cell 2 _ rfl
        have kb_c0 := kb.here.cell 0 _ rfl
        have kb_c1 := kb.here.cell 1 _ rfl
        have kb_c2 := kb.here.cell 2 _ rfl
        rw [← he] at kb_c0
        clear he ka kb
        go_wp2
        go_ret
        exact ⟨ret_bool HV.out.symm, bb2⟩
      · have HV := Lib.hid (show bothM a b = false by unfold bothM; rw [decide_eq_false he, Bool.and_false])
        have hne := bytes_neC he
        have ka_c0 := ka.here.cell 0 _ rfl
        have ka_c1 := ka.here.cell 1 _ rfl
        have ka_c2 := ka.here.cell 2 _ rfl
        have kb_c0 := kb.here.cell 0 _ rfl
        have kb_c1 := kb.here.cell 1 _ rfl
        have kb_c2 := kb.here.cell 2 _ rfl
        clear he ka kb
        go_wp2
        go_ret
        exact ⟨ret_bool HV.out.symm, bb2⟩
    · have okb' : okM b = false := by simpa using okb
      have HV := Lib.hid (show bothM a b = false by unfold bothM; rw [okb']; simp)
      rw [okb']
      clear okb okb'
      go_wp2
      go_ret
      exact ⟨ret_bool HV.out.symm, bb2⟩
  · have oka' : okM a = false := by simpa using oka
    have HV := Lib.hid (show bothM a b = false by unfold bothM; rw [oka']; simp)
    rw [oka']
    clear oka oka'
    go_wp2
    go_ret
    exact ⟨ret_bool HV.out.symm, bb1⟩
set_option maxHeartbeats 4000000 in
set_option maxRecDepth 100000 in
theorem specMoneyAdd_any (va vb : Value) (a b : MI) (w : World) (hla : a.2.2.length ≤ 1048576) (hlb : b.2.2.length ≤ 1048576) (ha : OwnM va a w) (hb : OwnM vb b w) :
    Calls Tryd.prog 27 #[va, vb] w (PostMb (addM a b).1 (addM a b).2 w) := by
  have Ha := Lib.hid ha
  obtain ⟨Aa, ca, rfl⟩ := ownM_form ha
  have OMa := Lib.hid (show ∀ W, Below w.heap.size w W → OwnM (.agg #[.string a.1, .bool a.2.1, .slice Aa a.2.2.length ca]) a W from fun W hb => OwnM.below Ha.out hb)
  have OIa := Lib.hid (show ∀ W, Below w.heap.size w W → OwnI (.slice Aa a.2.2.length ca) a.2.2 W from fun W hb => ownM_open (OMa.out W hb))
  have OSa := Lib.hid (show ∀ W, Below w.heap.size w W → OwnS (.agg #[.bool a.2.1, .slice Aa a.2.2.length ca]) a.2 W from fun W hb => OwnS.mk (OIa.out W hb))
  clear ha
  have Hb := Lib.hid hb
  obtain ⟨Ab, cb, rfl⟩ := ownM_form hb
  have OMb := Lib.hid (show ∀ W, Below w.heap.size w W → OwnM (.agg #[.string b.1, .bool b.2.1, .slice Ab b.2.2.length cb]) b W from fun W hb => OwnM.below Hb.out hb)
  have OIb := Lib.hid (show ∀ W, Below w.heap.size w W → OwnI (.slice Ab b.2.2.length cb) b.2.2 W from fun W hb => ownM_open (OMb.out W hb))
  have OSb := Lib.hid (show ∀ W, Below w.heap.size w W → OwnS (.agg #[.bool b.2.1, .slice Ab b.2.2.length cb]) b.2 W from fun W hb => OwnS.mk (OIb.out W hb))
  clear hb
  have bb0 : Below w.heap.size w (((w.alloc (.cells #[.string a.1, .bool a.2.1, .slice Aa a.2.2.length ca] 32)).alloc (.cells #[.string b.1, .bool b.2.1, .slice Ab b.2.2.length cb] 32)).alloc (.cells #[.string ⟨#[]⟩, .bool false, .slice none 0 0] 32)) := below_al (below_al (below_al (Below.refl _ _) _) _) _
  have ka := (box_new w #[.string a.1, .bool a.2.1, .slice Aa a.2.2.length ca] 32).below (below_al (below_al (Below.refl _ _) (.cells #[.string b.1, .bool b.2.1, .slice Ab b.2.2.length cb] 32)) (.cells #[.string ⟨#[]⟩, .bool false, .slice none 0 0] 32))
  have kb := (box_new (w.alloc (.cells #[.string a.1, .bool a.2.1, .slice Aa a.2.2.length ca] 32)) #[.string b.1, .bool b.2.1, .slice Ab b.2.2.length cb] 32).below (below_al (Below.refl _ _) (.cells #[.string ⟨#[]⟩, .bool false, .slice none 0 0] 32))
  rw [show (w.alloc (.cells #[.string a.1, .bool a.2.1, .slice Aa a.2.2.length ca] 32)).heap.size = w.heap.size + 1 by simp] at kb
  have ko := (box_new ((w.alloc (.cells #[.string a.1, .bool a.2.1, .slice Aa a.2.2.length ca] 32)).alloc (.cells #[.string b.1, .bool b.2.1, .slice Ab b.2.2.length cb] 32)) #[.string ⟨#[]⟩, .bool false, .slice none 0 0] 32)
  rw [show ((w.alloc (.cells #[.string a.1, .bool a.2.1, .slice Aa a.2.2.length ca] 32)).alloc (.cells #[.string b.1, .bool b.2.1, .slice Ab b.2.2.length cb] 32)).heap.size = w.heap.size + 1 + 1 by simp] at ko
  have HKO := Lib.hid (ko.lt (w.heap.size + 1 + 1) (by simp))
  go_enter Tryd.func27, Tryd.ntmps27
  have ka_c0 := ka.here.cell 0 _ rfl
  have ka_c1 := ka.here.cell 1 _ rfl
  have ka_c2 := ka.here.cell 2 _ rfl
  have kb_c0 := kb.here.cell 0 _ rfl
  have kb_c1 := kb.here.cell 1 _ rfl
  have kb_c2 := kb.here.cell 2 _ rfl
  go_wp2_with fail
  clear ka_c0 ka_c1 ka_c2 kb_c0 kb_c1 kb_c2
  refine (l09Both_any _ _ a b _ hla hlb (OMa.out _ bb0) (OMb.out _ bb0)).mono ?_
  rintro e w1 ⟨rfl, b1⟩
  have bb1 := Below.next bb0 b1
  replace ka := ka.below b1
  replace kb := kb.below b1
  replace ko := ko.below b1
  by_cases ok : bothM a b = true
  · rw [ok]
    obtain ⟨Q, hQ⟩ : ∃ Q, addM a b = Q := ⟨_, rfl⟩
    have HV := Lib.hid hQ
    have EV := Lib.hid (show makeM a.1 (addS a.2 b.2) = Q by rw [← hQ]; unfold addM; rw [if_pos ok])
    clear hQ ok
    have hzS : (addS a.2 b.2).2.length ≤ 1048576 := by unfold addS; split; (have := ofZ_len (valS a.2 + valS b.2); omega); decide
    have hlko := ko.lt (w.heap.size + 1 + 1) (by simp)
    have hko := HKO.out
    have ka_c0 := ka.here.cell 0 _ rfl
    have ka_c1 := ka.here.cell 1 _ rfl
    have ka_c2 := ka.here.cell 2 _ rfl
    have kb_c0 := kb.here.cell 0 _ rfl
    have kb_c1 := kb.here.cell 1 _ rfl
    have kb_c2 := kb.here.cell 2 _ rfl
    go_wp2_with fail
    have HC0 := Lib.hid (show Chg [w.heap.size + 1 + 1] w1 w1.drew from (Chg.refl _ _).drew1)
    have HCr := Lib.hid (show Chg [w.heap.size + 1 + 1] w1 w1 from Chg.refl _ _)
    have KL := Lib.hid (show ∀ W, Chg [w.heap.size + 1 + 1] w1 W → W.cell? ⟨w.heap.size, 0, none⟩ = some (.string a.1) ∧ W.cell? ⟨w.heap.size, 1, none⟩ = some (.bool a.2.1) ∧ W.cell? ⟨w.heap.size, 2, none⟩ = some (.slice Aa a.2.2.length ca) ∧ W.cell? ⟨w.heap.size + 1, 0, none⟩ = some (.string b.1) ∧ W.cell? ⟨w.heap.size + 1, 1, none⟩ = some (.bool b.2.1) ∧ W.cell? ⟨w.heap.size + 1, 2, none⟩ = some (.slice Ab b.2.2.length cb) ∧ Hid (Chg [w.heap.size + 1 + 1] w1 W) from fun W hc => ⟨(ka.chg hc (fun i hi hm => by simp at hi hm; omega)).here.cell 0 _ rfl, (ka.chg hc (fun i hi hm => by simp at hi hm; omega)).here.cell 1 _ rfl, (ka.chg hc (fun i hi hm => by simp at hi hm; omega)).here.cell 2 _ rfl, (kb.chg hc (fun i hi hm => by simp at hi hm; omega)).here.cell 0 _ rfl, (kb.chg hc (fun i hi hm => by simp at hi hm; omega)).here.cell 1 _ rfl, (kb.chg hc (fun i hi hm => by simp at hi hm; omega)).here.cell 2 _ rfl, Lib.hid hc⟩)
    have BBF := Lib.hid (show ∀ W, Chg [w.heap.size + 1 + 1] w1 W → Below w.heap.size w W from fun W hc => below_chg bb1 hc bb1.size (fun i hi => by simp at hi; omega))
    clear ka_c0 ka_c1 ka_c2 kb_c0 kb_c1 kb_c2
    go_region_held3 (fun W => W.cell? ⟨w.heap.size, 0, none⟩ = some (.string a.1) ∧ W.cell? ⟨w.heap.size, 1, none⟩ = some (.bool a.2.1) ∧ W.cell? ⟨w.heap.size, 2, none⟩ = some (.slice Aa a.2.2.length ca) ∧ W.cell? ⟨w.heap.size + 1, 0, none⟩ = some (.string b.1) ∧ W.cell? ⟨w.heap.size + 1, 1, none⟩ = some (.bool b.2.1) ∧ W.cell? ⟨w.heap.size + 1, 2, none⟩ = some (.slice Ab b.2.2.length cb) ∧ Hid (Chg [w.heap.size + 1 + 1] w1 W))
      ((refine KL.out _ ?_; (first | exact HC3.out | exact HC2.out | exact HCr.out | exact HC0.out | exact HC3.out.drew1 | exact HC2.out.drew1 | exact HCr.out.drew1 | exact HC0.out.drew1 | exact HC3.out.trans (Chg.of_below (below_al (Below.refl _ _) _)) | exact HC2.out.trans (Chg.of_below (below_al (Below.refl _ _) _)) | exact HCr.out.trans (Chg.of_below (below_al (Below.refl _ _) _)) | exact HC0.out.trans (Chg.of_below (below_al (Below.refl _ _) _)) | exact (Chg.setCell HC3.out (by simp) _) | exact (Chg.setCell (Chg.setCell HC3.out (by simp) _) (by simp) _) | exact (Chg.setCell (Chg.setCell (Chg.setCell HC3.out (by simp) _) (by simp) _) (by simp) _) | fail)))
      (first
        | (go_at_call 67; (have hBB := (‹_ ∧ _ ∧ _ ∧ _ ∧ _ ∧ _ ∧ Hid (Chg [w.heap.size + 1 + 1] w1 _)›).2.2.2.2.2.2); (with_reducible refine ((specIntAdd_any _ _ a.2 b.2 _ (by omega) (by omega) (OSa.out _ (BBF.out _ hBB.out)) (OSb.out _ (BBF.out _ hBB.out))).mono fun _ _ h => NewS.newV h).mono ?_); rintro e w2 ⟨us, Ss, rfl, os, ls, b2⟩; have HC2 := Lib.hid (hBB.out.trans (Chg.of_below b2)); (have ko_2 := At.below (by first | exact ko | exact At.below ko (below_al (Below.refl _ _) _) | exact At.below (At.below ko (below_al (Below.refl _ _) _)) (below_al (Below.refl _ _) _) | exact At.move ko (fun _ _ => rfl) (Nat.le_refl _)) b2); obtain ⟨As, cs, rfl⟩ := ownS_form os.here; have HBZ2 := Lib.hid hBB.out.size; clear hBB)
        | (go_at_call 55; (have hBB := (‹_ ∧ _ ∧ _ ∧ _ ∧ _ ∧ _ ∧ Hid (Chg [w.heap.size + 1 + 1] w1 _)›).2.2.2.2.2.2); (with_reducible refine ((l09Make_any a.1 _ (addS a.2 b.2) _ _ hzS (by first | exact os | exact At.below os (below_al (Below.refl _ _) _) | exact At.below (At.below os (below_al (Below.refl _ _) _)) (below_al (Below.refl _ _) _) | exact At.move os (fun _ _ => rfl) (Nat.le_refl _))).mono fun _ _ h => keptM_eq EV.out h).mono ?_); rintro e w3 ⟨uf, Sf, rfl, of, sf, b3⟩; have HC3 := Lib.hid (hBB.out.trans (Chg.of_below b3)); (have ko_3 := At.below (by first | exact ko_2 | exact At.below ko_2 (below_al (Below.refl _ _) _) | exact At.below (At.below ko_2 (below_al (Below.refl _ _) _)) (below_al (Below.refl _ _) _) | exact At.move ko_2 (fun _ _ => rfl) (Nat.le_refl _)) b3); (have os_3 := At.below (by first | exact os | exact At.below os (below_al (Below.refl _ _) _) | exact At.below (At.below os (below_al (Below.refl _ _) _)) (below_al (Below.refl _ _) _) | exact At.move os (fun _ _ => rfl) (Nat.le_refl _)) b3); obtain ⟨Af, cf, rfl⟩ := ownM_form of.here; have cz0 := ko_3.here.cell 0 _ rfl; have fz0 := Lib.frozen_of_heap ko_3.here 0; have cz1 := ko_3.here.cell 1 _ rfl; have fz1 := Lib.frozen_of_heap ko_3.here 1; have cz2 := ko_3.here.cell 2 _ rfl; have fz2 := Lib.frozen_of_heap ko_3.here 2; have HBZ3 := Lib.hid hBB.out.size; clear hBB))
    have bb3 := BBF.out _ HC3.out
    replace ka := ka.chg HC3.out (fun i hi hm => by simp at hi hm; omega)
    replace kb := kb.chg HC3.out (fun i hi hm => by simp at hi hm; omega)
    replace ko := ko_3
    have os := os_3
    have lf : Within Sf _ _ := fun i hi => ⟨(ls i (sf i hi)).1, of.lt i hi⟩
    have HW := Lib.hid (newMb_at (r := w.heap.size + 1 + 1) (b := Q.2) of lf (by have := HBZ2.out; omega) (by omega) bb3)
    clear of ko os
    go_wp2
    refine bodyPost_ret (v := .tuple #[.agg #[.string _, .bool _, .slice Af _ cf], .bool _]) (by simp [results, Tryd.results27, go_sem, cz0, cz1, cz2]; exact ⟨⟨rfl, rfl, rfl⟩, rfl⟩) rfl ?_
    rw [HV.out]
    exact HW.out
  · have ok' : bothM a b = false := by simpa using ok
    have HV := Lib.hid (show addM a b = (zeroM, false) by unfold addM; rw [if_neg ok])
    rw [ok']
    clear ok ok'
    have cz0 := ko.here.cell 0 _ rfl
    have fz0 := Lib.frozen_of_heap ko.here 0
    have cz1 := ko.here.cell 1 _ rfl
    have fz1 := Lib.frozen_of_heap ko.here 1
    have cz2 := ko.here.cell 2 _ rfl
    have fz2 := Lib.frozen_of_heap ko.here 2
    go_wp2
    refine bodyPost_ret (v := .tuple #[.agg #[.string ⟨#[]⟩, .bool false, .slice none 0 0], .bool false]) (by simp [results, Tryd.results27, go_sem, cz0, cz1, cz2]) rfl ?_
    rw [HV.out]
    first | exact newMb_zero _ bb1 | exact newMb_zero _ (below_set3 bb1 (by omega))
set_option maxHeartbeats 4000000 in
set_option maxRecDepth 100000 in
theorem specMoneySub_any (va vb : Value) (a b : MI) (w : World) (hla : a.2.2.length ≤ 1048576) (hlb : b.2.2.length ≤ 1048576) (ha : OwnM va a w) (hb : OwnM vb b w) :
    Calls Tryd.prog 29 #[va, vb] w (PostMb (subM a b).1 (subM a b).2 w) := by
  have Ha := Lib.hid ha
  obtain ⟨Aa, ca, rfl⟩ := ownM_form ha
  have OMa := Lib.hid (show ∀ W, Below w.heap.size w W → OwnM (.agg #[.string a.1, .bool a.2.1, .slice Aa a.2.2.length ca]) a W from fun W hb => OwnM.below Ha.out hb)
  have OIa := Lib.hid (show ∀ W, Below w.heap.size w W → OwnI (.slice Aa a.2.2.length ca) a.2.2 W from fun W hb => ownM_open (OMa.out W hb))
  have OSa := Lib.hid (show ∀ W, Below w.heap.size w W → OwnS (.agg #[.bool a.2.1, .slice Aa a.2.2.length ca]) a.2 W from fun W hb => OwnS.mk (OIa.out W hb))
  clear ha
  have Hb := Lib.hid hb
  obtain ⟨Ab, cb, rfl⟩ := ownM_form hb
  have OMb := Lib.hid (show ∀ W, Below w.heap.size w W → OwnM (.agg #[.string b.1, .bool b.2.1, .slice Ab b.2.2.length cb]) b W from fun W hb => OwnM.below Hb.out hb)
  have OIb := Lib.hid (show ∀ W, Below w.heap.size w W → OwnI (.slice Ab b.2.2.length cb) b.2.2 W from fun W hb => ownM_open (OMb.out W hb))
  have OSb := Lib.hid (show ∀ W, Below w.heap.size w W → OwnS (.agg #[.bool b.2.1, .slice Ab b.2.2.length cb]) b.2 W from fun W hb => OwnS.mk (OIb.out W hb))
  clear hb
  have bb0 : Below w.heap.size w (((w.alloc (.cells #[.string a.1, .bool a.2.1, .slice Aa a.2.2.length ca] 32)).alloc (.cells #[.string b.1, .bool b.2.1, .slice Ab b.2.2.length cb] 32)).alloc (.cells #[.string ⟨#[]⟩, .bool false, .slice none 0 0] 32)) := below_al (below_al (below_al (Below.refl _ _) _) _) _
  have ka := (box_new w #[.string a.1, .bool a.2.1, .slice Aa a.2.2.length ca] 32).below (below_al (below_al (Below.refl _ _) (.cells #[.string b.1, .bool b.2.1, .slice Ab b.2.2.length cb] 32)) (.cells #[.string ⟨#[]⟩, .bool false, .slice none 0 0] 32))
  have kb := (box_new (w.alloc (.cells #[.string a.1, .bool a.2.1, .slice Aa a.2.2.length ca] 32)) #[.string b.1, .bool b.2.1, .slice Ab b.2.2.length cb] 32).below (below_al (Below.refl _ _) (.cells #[.string ⟨#[]⟩, .bool false, .slice none 0 0] 32))
  rw [show (w.alloc (.cells #[.string a.1, .bool a.2.1, .slice Aa a.2.2.length ca] 32)).heap.size = w.heap.size + 1 by simp] at kb
  have ko := (box_new ((w.alloc (.cells #[.string a.1, .bool a.2.1, .slice Aa a.2.2.length ca] 32)).alloc (.cells #[.string b.1, .bool b.2.1, .slice Ab b.2.2.length cb] 32)) #[.string ⟨#[]⟩, .bool false, .slice none 0 0] 32)
  rw [show ((w.alloc (.cells #[.string a.1, .bool a.2.1, .slice Aa a.2.2.length ca] 32)).alloc (.cells #[.string b.1, .bool b.2.1, .slice Ab b.2.2.length cb] 32)).heap.size = w.heap.size + 1 + 1 by simp] at ko
  have HKO := Lib.hid (ko.lt (w.heap.size + 1 + 1) (by simp))
  go_enter Tryd.func29, Tryd.ntmps29
  have ka_c0 := ka.here.cell 0 _ rfl
  have ka_c1 := ka.here.cell 1 _ rfl
  have ka_c2 := ka.here.cell 2 _ rfl
  have kb_c0 := kb.here.cell 0 _ rfl
  have kb_c1 := kb.here.cell 1 _ rfl
  have kb_c2 := kb.here.cell 2 _ rfl
  go_wp2_with fail
  clear ka_c0 ka_c1 ka_c2 kb_c0 kb_c1 kb_c2
  refine (l09Both_any _ _ a b _ hla hlb (OMa.out _ bb0) (OMb.out _ bb0)).mono ?_
  rintro e w1 ⟨rfl, b1⟩
  have bb1 := Below.next bb0 b1
  replace ka := ka.below b1
  replace kb := kb.below b1
  replace ko := ko.below b1
  by_cases ok : bothM a b = true
  · rw [ok]
    obtain ⟨Q, hQ⟩ : ∃ Q, subM a b = Q := ⟨_, rfl⟩
    have HV := Lib.hid hQ
    have EV := Lib.hid (show makeM a.1 (subS a.2 b.2) = Q by rw [← hQ]; unfold subM; rw [if_pos ok])
    clear hQ ok
    have hzS : (subS a.2 b.2).2.length ≤ 1048576 := by unfold subS; split; (have := ofZ_len (valS a.2 - valS b.2); omega); decide
    have hlko := ko.lt (w.heap.size + 1 + 1) (by simp)
    have hko := HKO.out
    have ka_c0 := ka.here.cell 0 _ rfl
    have ka_c1 := ka.here.cell 1 _ rfl
    have ka_c2 := ka.here.cell 2 _ rfl
    have kb_c0 := kb.here.cell 0 _ rfl
    have kb_c1 := kb.here.cell 1 _ rfl
    have kb_c2 := kb.here.cell 2 _ rfl
    go_wp2_with fail
    have HC0 := Lib.hid (show Chg [w.heap.size + 1 + 1] w1 w1.drew from (Chg.refl _ _).drew1)
    have HCr := Lib.hid (show Chg [w.heap.size + 1 + 1] w1 w1 from Chg.refl _ _)
    have KL := Lib.hid (show ∀ W, Chg [w.heap.size + 1 + 1] w1 W → W.cell? ⟨w.heap.size, 0, none⟩ = some (.string a.1) ∧ W.cell? ⟨w.heap.size, 1, none⟩ = some (.bool a.2.1) ∧ W.cell? ⟨w.heap.size, 2, none⟩ = some (.slice Aa a.2.2.length ca) ∧ W.cell? ⟨w.heap.size + 1, 0, none⟩ = some (.string b.1) ∧ W.cell? ⟨w.heap.size + 1, 1, none⟩ = some (.bool b.2.1) ∧ W.cell? ⟨w.heap.size + 1, 2, none⟩ = some (.slice Ab b.2.2.length cb) ∧ Hid (Chg [w.heap.size + 1 + 1] w1 W) from fun W hc => ⟨(ka.chg hc (fun i hi hm => by simp at hi hm; omega)).here.cell 0 _ rfl, (ka.chg hc (fun i hi hm => by simp at hi hm; omega)).here.cell 1 _ rfl, (ka.chg hc (fun i hi hm => by simp at hi hm; omega)).here.cell 2 _ rfl, (kb.chg hc (fun i hi hm => by simp at hi hm; omega)).here.cell 0 _ rfl, (kb.chg hc (fun i hi hm => by simp at hi hm; omega)).here.cell 1 _ rfl, (kb.chg hc (fun i hi hm => by simp at hi hm; omega)).here.cell 2 _ rfl, Lib.hid hc⟩)
    have BBF := Lib.hid (show ∀ W, Chg [w.heap.size + 1 + 1] w1 W → Below w.heap.size w W from fun W hc => below_chg bb1 hc bb1.size (fun i hi => by simp at hi; omega))
    clear ka_c0 ka_c1 ka_c2 kb_c0 kb_c1 kb_c2
    go_region_held3 (fun W => W.cell? ⟨w.heap.size, 0, none⟩ = some (.string a.1) ∧ W.cell? ⟨w.heap.size, 1, none⟩ = some (.bool a.2.1) ∧ W.cell? ⟨w.heap.size, 2, none⟩ = some (.slice Aa a.2.2.length ca) ∧ W.cell? ⟨w.heap.size + 1, 0, none⟩ = some (.string b.1) ∧ W.cell? ⟨w.heap.size + 1, 1, none⟩ = some (.bool b.2.1) ∧ W.cell? ⟨w.heap.size + 1, 2, none⟩ = some (.slice Ab b.2.2.length cb) ∧ Hid (Chg [w.heap.size + 1 + 1] w1 W))
      ((refine KL.out _ ?_; (first | exact HC3.out | exact HC2.out | exact HCr.out | exact HC0.out | exact HC3.out.drew1 | exact HC2.out.drew1 | exact HCr.out.drew1 | exact HC0.out.drew1 | exact HC3.out.trans (Chg.of_below (below_al (Below.refl _ _) _)) | exact HC2.out.trans (Chg.of_below (below_al (Below.refl _ _) _)) | exact HCr.out.trans (Chg.of_below (below_al (Below.refl _ _) _)) | exact HC0.out.trans (Chg.of_below (below_al (Below.refl _ _) _)) | exact (Chg.setCell HC3.out (by simp) _) | exact (Chg.setCell (Chg.setCell HC3.out (by simp) _) (by simp) _) | exact (Chg.setCell (Chg.setCell (Chg.setCell HC3.out (by simp) _) (by simp) _) (by simp) _) | fail)))
      (first
        | (go_at_call 68; (have hBB := (‹_ ∧ _ ∧ _ ∧ _ ∧ _ ∧ _ ∧ Hid (Chg [w.heap.size + 1 + 1] w1 _)›).2.2.2.2.2.2); (with_reducible refine ((specIntSub_any _ _ a.2 b.2 _ (by omega) (by omega) (OSa.out _ (BBF.out _ hBB.out)) (OSb.out _ (BBF.out _ hBB.out))).mono fun _ _ h => NewS.newV h).mono ?_); rintro e w2 ⟨us, Ss, rfl, os, ls, b2⟩; have HC2 := Lib.hid (hBB.out.trans (Chg.of_below b2)); (have ko_2 := At.below (by first | exact ko | exact At.below ko (below_al (Below.refl _ _) _) | exact At.below (At.below ko (below_al (Below.refl _ _) _)) (below_al (Below.refl _ _) _) | exact At.move ko (fun _ _ => rfl) (Nat.le_refl _)) b2); obtain ⟨As, cs, rfl⟩ := ownS_form os.here; have HBZ2 := Lib.hid hBB.out.size; clear hBB)
        | (go_at_call 55; (have hBB := (‹_ ∧ _ ∧ _ ∧ _ ∧ _ ∧ _ ∧ Hid (Chg [w.heap.size + 1 + 1] w1 _)›).2.2.2.2.2.2); (with_reducible refine ((l09Make_any a.1 _ (subS a.2 b.2) _ _ hzS (by first | exact os | exact At.below os (below_al (Below.refl _ _) _) | exact At.below (At.below os (below_al (Below.refl _ _) _)) (below_al (Below.refl _ _) _) | exact At.move os (fun _ _ => rfl) (Nat.le_refl _))).mono fun _ _ h => keptM_eq EV.out h).mono ?_); rintro e w3 ⟨uf, Sf, rfl, of, sf, b3⟩; have HC3 := Lib.hid (hBB.out.trans (Chg.of_below b3)); (have ko_3 := At.below (by first | exact ko_2 | exact At.below ko_2 (below_al (Below.refl _ _) _) | exact At.below (At.below ko_2 (below_al (Below.refl _ _) _)) (below_al (Below.refl _ _) _) | exact At.move ko_2 (fun _ _ => rfl) (Nat.le_refl _)) b3); (have os_3 := At.below (by first | exact os | exact At.below os (below_al (Below.refl _ _) _) | exact At.below (At.below os (below_al (Below.refl _ _) _)) (below_al (Below.refl _ _) _) | exact At.move os (fun _ _ => rfl) (Nat.le_refl _)) b3); obtain ⟨Af, cf, rfl⟩ := ownM_form of.here; have cz0 := ko_3.here.cell 0 _ rfl; have fz0 := Lib.frozen_of_heap ko_3.here 0; have cz1 := ko_3.here.cell 1 _ rfl; have fz1 := Lib.frozen_of_heap ko_3.here 1; have cz2 := ko_3.here.cell 2 _ rfl; have fz2 := Lib.frozen_of_heap ko_3.here 2; have HBZ3 := Lib.hid hBB.out.size; clear hBB))
    have bb3 := BBF.out _ HC3.out
    replace ka := ka.chg HC3.out (fun i hi hm => by simp at hi hm; omega)
    replace kb := kb.chg HC3.out (fun i hi hm => by simp at hi hm; omega)
    replace ko := ko_3
    have os := os_3
    have lf : Within Sf _ _ := fun i hi => ⟨(ls i (sf i hi)).1, of.lt i hi⟩
    have HW := Lib.hid (newMb_at (r := w.heap.size + 1 + 1) (b := Q.2) of lf (by have := HBZ2.out; omega) (by omega) bb3)
    clear of ko os
    go_wp2
    refine bodyPost_ret (v := .tuple #[.agg #[.string _, .bool _, .slice Af _ cf], .bool _]) (by simp [results, Tryd.results29, go_sem, cz0, cz1, cz2]; exact ⟨⟨rfl, rfl, rfl⟩, rfl⟩) rfl ?_
    rw [HV.out]
    exact HW.out
  · have ok' : bothM a b = false := by simpa using ok
    have HV := Lib.hid (show subM a b = (zeroM, false) by unfold subM; rw [if_neg ok])
    rw [ok']
    clear ok ok'
    have cz0 := ko.here.cell 0 _ rfl
    have fz0 := Lib.frozen_of_heap ko.here 0
    have cz1 := ko.here.cell 1 _ rfl
    have fz1 := Lib.frozen_of_heap ko.here 1
    have cz2 := ko.here.cell 2 _ rfl
    have fz2 := Lib.frozen_of_heap ko.here 2
    go_wp2
    refine bodyPost_ret (v := .tuple #[.agg #[.string ⟨#[]⟩, .bool false, .slice none 0 0], .bool false]) (by simp [results, Tryd.results29, go_sem, cz0, cz1, cz2]) rfl ?_
    rw [HV.out]
    first | exact newMb_zero _ bb1 | exact newMb_zero _ (below_set3 bb1 (by omega))
end Go.Proofs.YtcenmdiblbooeaaDoor

namespace Go.Proofs.YtcenmdiblbooeaaDoor
open Go.RowKit

theorem digB_true {d : Int} (h : digB d = true) : 0 ≤ d ∧ d ≤ 999999999 := of_decide_eq_true h
theorem digB_false {d : Int} (h : digB d = false) : ¬ (0 ≤ d ∧ d ≤ 999999999) := of_decide_eq_false h

set_option maxHeartbeats 400000 in
set_option maxRecDepth 100000 in
theorem implNatOk_same (v : Value) (xs : List Int) (lo hi : Nat) (w : World) (hl : xs.length ≤ 9223372036854775807) (hr : Row w lo hi v (intsV xs)) :
    Calls Tryd.prog 88 #[v] w fun e w' => e = .returned (.bool (natOkB xs)) ∧ w = w' := by
  obtain ⟨A, c, rfl, hA⟩ := hr
  have HA := Lib.hid hA
  rw [intsV_length]
  clear hA
  by_cases h50 : xs.length ≤ 50
  · go_enter Tryd.func88, Tryd.ntmps88
    go_wp2
    go_loop [10] (fun i => ∃ k : Nat, k ≤ xs.length ∧ i = .int .i64 k ∧ Hid ((xs.take k).all digB = true)) (fun i => xs.length - (intOf i).toNat)
    case atStart => exact ⟨0, Nat.zero_le _, rfl, Lib.hid rfl⟩
    case round =>
      obtain ⟨k, hk, rfl, HD⟩ := hrel
      by_cases hlt : k < xs.length
      · obtain ⟨a, rfl, _, _, hca⟩ := HA.out k _ (intsV_at xs k hlt)
        by_cases hd : digB xs[k] = true
        · have HS := Lib.hid (all_succ xs k hlt HD.out hd)
          have hd2 := digB_true hd
          have hd3 := hd2.1
          have hd4 := hd2.2
          clear hd2 hd
          go_wp2
          go_round
          case rel => exact ⟨k + 1, by omega, by go_num, HS⟩
          case measure => simp [intOf]; omega
        · have hd' : digB xs[k] = false := by simpa using hd
          have HN := Lib.hid (not_all xs k hlt hd')
          have hd2 := digB_false hd'
          by_cases hneg : xs[k] < 0
          · go_wp2
            go_ret
            exact ⟨ret_bool HN.out.symm, rfl⟩
          · have hbig : 1000000000 ≤ xs[k] := by omega
            go_wp2
            go_ret
            exact ⟨ret_bool HN.out.symm, rfl⟩
      · have HF := Lib.hid (all_upto xs k HD.out hlt)
        by_cases h0 : xs.length = 0
        · have hz : ((xs.length : Int) == 0) = true := by simp [h0]
          obtain rfl : xs = [] := List.eq_nil_of_length_eq_zero h0
          clear h0
          go_wp2
          go_ret
          exact ⟨rfl, rfl⟩
        · have hz : ((xs.length : Int) == 0) = false := by rw [beq_eq_false_iff_ne]; omega
          have hlt2 : xs.length - 1 < xs.length := by omega
          obtain ⟨a, rfl, _, _, hca⟩ := HA.out (xs.length - 1) _ (intsV_at xs (xs.length - 1) hlt2)
          have HL := Lib.hid (ok_last xs HF.out h50 hlt2)
          clear h0
          go_wp2
          go_ret
          exact ⟨ret_bool HL.out, rfl⟩
  · have HN := Lib.hid (ok_long xs h50)
    go_enter Tryd.func88, Tryd.ntmps88
    go_wp2
    go_ret
    exact ⟨ret_bool HN.out.symm, rfl⟩
theorem implNatOk_any (v : Value) (xs : List Int) (lo hi : Nat) (w : World) (hl : xs.length ≤ 1048576) (_ : hi ≤ w.heap.size) (hr : Row w lo hi v (intsV xs)) :
    Calls Tryd.prog 88 #[v] w fun e w' => e = .returned (.bool (natOkB xs)) ∧ Below w.heap.size w w' := by
  refine (implNatOk_same v xs lo hi w (by omega) hr).mono ?_
  rintro e w' ⟨rfl, rfl⟩
  exact ⟨rfl, Below.refl _ _⟩


/-- a callee that only computes, met inside a region that draws -/
theorem quiet_at {P : Program} {f : FuncId} {args : Array Value} {W : World} {X : Nat → World} {n : Nat} {v : Value} (hX : X n = W)
    (h : Calls P f args W fun e w' => e = .returned v ∧ W = w') : Calls P f args W fun e w'' => e = .returned v ∧ ∃ m, w'' = X m :=
  h.mono fun _ _ ⟨he, hm⟩ => ⟨he, n, hm.symm.trans hX.symm⟩

set_option maxHeartbeats 400000 in
set_option maxRecDepth 100000 in
theorem isNaN_any (x : Int) (w : World) : Calls Tryd.prog 134 #[.int .i64 x] w fun e w' => e = .returned (.bool false) ∧ w = w' := by
  go_enter Tryd.func134, Tryd.ntmps134
  go_wp2
  go_ret
  exact ⟨by simp, rfl⟩
set_option maxHeartbeats 400000 in
set_option maxRecDepth 100000 in
theorem compare_any (x y : Int) (w : World) : Calls Tryd.prog 120 #[.int .i64 x, .int .i64 y] w fun e w' => e = .returned (.int .i64 (cmpI x y)) ∧ w = w' := by
  go_enter Tryd.func120, Tryd.ntmps120
  go_wp2_with (go_at_call 134; refine (isNaN_any _ _).mono ?_; rintro e w' ⟨rfl, rfl⟩)
  all_goals (go_ret; refine ⟨?_, rfl⟩; unfold cmpI; (repeat' split) <;> first | rfl | (exfalso; omega))

set_option maxHeartbeats 1000000 in
set_option maxRecDepth 100000 in
theorem compareLimbs_any (va vb : Value) (a b : List Int) (la ha lb hb : Nat) (w : World) (hal : a.length ≤ 9223372036854775807) (_hbl : b.length ≤ 9223372036854775807) (oa : DigN a ∧ a.getLastD 1 ≠ 0) (ob : DigN b ∧ b.getLastD 1 ≠ 0)
    (hra : Row w la ha va (intsV a)) (hrb : Row w lb hb vb (intsV b)) :
    Calls Tryd.prog 104 #[va, vb] w fun e w' => e = .returned (.int .i64 (cmpI (nval a) (nval b))) ∧ ∃ q, w.drewN q = w' := by
  have OA := Lib.hid oa
  have OB := Lib.hid ob
  obtain ⟨A, c, rfl, hA⟩ := hra
  obtain ⟨B, d, rfl, hB⟩ := hrb
  rw [intsV_length]
  rw [intsV_length]
  have HA := Lib.hid hA
  have HB := Lib.hid hB
  clear hA hB oa ob
  by_cases hlen : a.length = b.length
  · have HL := Lib.hid hlen
    have hbe : ((a.length : Int) != (b.length : Int)) = false := by simp [hlen]
    clear hlen
    go_enter Tryd.func104, Tryd.ntmps104
    go_wp2
    go_loopw [5] (fun i wr => ∃ k q : Nat, k ≤ a.length ∧ i = .int .i64 ((k : Int) - 1) ∧ wr = w.drewN q ∧ Hid (a.drop k = b.drop k)) (fun i _ => (intOf i + 1).toNat)
    case atStart => exact ⟨a.length, 0, Nat.le_refl _, rfl, rfl, Lib.hid (by rw [List.drop_of_length_le (Nat.le_refl _), List.drop_of_length_le (by have := HL.out; omega)])⟩
    case round =>
      obtain ⟨k, q, hk, rfl, rfl, HT⟩ := hrel
      by_cases hz : 0 < k
      · obtain ⟨m, rfl⟩ : ∃ m, k = m + 1 := ⟨k - 1, by omega⟩
        have hlt : m < a.length := by omega
        have hlt2 : m < b.length := by have := HL.out; omega
        obtain ⟨p, rfl, _, _, hca⟩ := HA.out m _ (intsV_at a m hlt)
        obtain ⟨r, rfl, _, _, hcb⟩ := HB.out m _ (intsV_at b m hlt2)
        have hm1 : ((m + 1 : Nat) : Int) - 1 = (m : Int) := by omega
        rw [hm1]
        clear hm1 hz
        by_cases he : a[m] = b[m]
        · have hne : (a[m] != b[m]) = false := by simp [he]
          have HS := Lib.hid (drop_same a b m hlt hlt2 HT.out he)
          clear he
          go_wp2
          go_quiet (fail)
          go_wp2
          go_roundw
          case rel => exact ⟨m, _, by omega, rfl, rfl, HS⟩
          case measure => simp [intOf]
        · have hne : (a[m] != b[m]) = true := by rw [bne_iff_ne]; exact he
          have HV : Hid (cmpI a[m] b[m] = cmpI (nval a) (nval b)) := Lib.hid (by
            by_cases h1 : a[m] < b[m]
            · rw [cmp_lt h1, cmp_lt (nval_lt_down a b OA.out.1 OB.out.1 HL.out m (by rw [nval_drop a m hlt, nval_drop b m hlt2, HT.out]; omega))]
            · rw [cmp_gt (show b[m] < a[m] by omega), cmp_gt (nval_lt_down b a OB.out.1 OA.out.1 HL.out.symm m (by rw [nval_drop a m hlt, nval_drop b m hlt2, HT.out]; omega))])
          clear he
          go_wp2
          go_quiet (fail)
          go_wp2
          go_quiet ((go_at_call 120; exact quiet_at rfl (compare_any _ _ _)))
          go_wp2
          go_ret
          exact ⟨ret_int HV.out, drew_three _ _ _ _⟩
      · obtain rfl : k = 0 := by omega
        go_wp2
        go_ret
        exact ⟨ret_int (cmp_eq (by have := HT.out; rw [List.drop_zero, List.drop_zero] at this; rw [this])).symm, q, rfl⟩
  · have hbe : ((a.length : Int) != (b.length : Int)) = true := by simp; omega
    have HV : Hid (cmpI (a.length : Int) (b.length : Int) = cmpI (nval a) (nval b)) := Lib.hid (by
      by_cases hs : a.length < b.length
      · rw [cmp_lt (by omega), cmp_lt (nval_short a b OA.out.1 OB.out.1 hs OB.out.2)]
      · rw [cmp_gt (by omega), cmp_gt (nval_short b a OB.out.1 OA.out.1 (by omega) OA.out.2)])
    clear hlen
    go_enter Tryd.func104, Tryd.ntmps104
    go_wp2_with (go_at_call 120; refine (compare_any _ _ _).mono ?_; rintro e w' ⟨rfl, rfl⟩)
    go_ret
    exact ⟨ret_int HV.out, 0, rfl⟩


theorem max_limbs : limbs (9223372036854775807 : Int).toNat = [854775807, 223372036, 9] := by
  rw [show (9223372036854775807 : Int).toNat = 9223372036854775807 from rfl, limbs_pos _ (by decide), limbs_pos _ (by decide), limbs_pos _ (by decide), limbs, dif_pos (by decide)]
  rfl

end Go.Proofs.YtcenmdiblbooeaaDoor

namespace Go.Proofs.YtcenmdiblbooeaaDoor
open Go.RowKit

set_option maxHeartbeats 400000 in
set_option maxRecDepth 100000 in
theorem implIntOk_any (v : Value) (x : SI) (w : World) (hl : x.2.length ≤ 1048576) (h : RdS w v x) :
    Calls Tryd.prog 53 #[v] w fun e w' => e = .returned (.bool (okS x)) ∧ Below w.heap.size w w' := by
  obtain ⟨n, xs⟩ := x
  obtain ⟨u, rfl, hp⟩ := h
  obtain ⟨A, c, rfl⟩ := row_form hp
  rw [intsV_length] at hp ⊢
  simp only at hl hp ⊢
  have hbx : Below w.heap.size w (w.alloc (.cells #[.bool n, .slice A xs.length c] 30)) := below_al (Below.refl _ _) _
  have HV := Lib.hid (show okS (n, xs) = (natOkB xs && (!n || decide (0 < xs.length))) from rfl)
  by_cases ok : natOkB xs = true
  · rw [ok] at HV
    go_enter Tryd.func53, Tryd.ntmps53
    go_wp2_with fail
    refine (implNatOk_same _ xs 0 w.heap.size _ (by omega) (hp.below hbx (Nat.le_refl _))).mono ?_
    rintro e w1 ⟨rfl, rfl⟩
    rw [ok]
    by_cases hz : xs.length = 0
    · have hb : ((xs.length : Int) == 0) = true := by rw [hz]; rfl
      have hd : decide (0 < xs.length) = false := decide_eq_false (by omega)
      rw [hd] at HV
      clear hz hd
      cases n <;>
      · go_wp2
        go_ret
        exact ⟨ret_bool (by rw [HV.out]; rfl), hbx⟩
    · have hb : ((xs.length : Int) == 0) = false := by rw [beq_eq_false_iff_ne]; omega
      have hd : decide (0 < xs.length) = true := decide_eq_true (by omega)
      rw [hd] at HV
      clear hz hd
      cases n <;>
      · go_wp2
        go_ret
        exact ⟨ret_bool (by rw [HV.out]; rfl), hbx⟩
  · have ok' : natOkB xs = false := by simpa using ok
    rw [ok'] at HV
    clear ok
    go_enter Tryd.func53, Tryd.ntmps53
    go_wp2_with fail
    refine (implNatOk_same _ xs 0 w.heap.size _ (by omega) (hp.below hbx (Nat.le_refl _))).mono ?_
    rintro e w1 ⟨rfl, rfl⟩
    rw [ok']
    go_wp2
    go_ret
    exact ⟨ret_bool (by rw [HV.out]; rfl), hbx⟩

theorem Below.drew1 {B : Nat} {w w1 : World} (h : Below B w w1) : Below B w w1.drew := ⟨h.os, h.tape, h.output, h.size, h.block⟩
end Go.Proofs.YtcenmdiblbooeaaDoor

namespace Go.Proofs.YtcenmdiblbooeaaDoor
open Go.RowKit

/-- what a nat lies in: the cells behind its limbs, and the type of the block (a nat alone, or the head of an integer) -/
structure NatK where
  rest : List Value
  ty : TypeId
  ne : ty ≠ 3
@[reducible] def natK : NatK := ⟨[], 102, by decide⟩
/-- the pointer at block b leads to a nat of the call's own whose limbs are xs -/
def NatX (K : NatK) (B b : Nat) (xs : List Int) (w : World) : Prop :=
  B ≤ b ∧ ∃ v, w.heap[b]? = some (.cells (v :: K.rest).toArray K.ty (0, 0)) ∧ w.ownsRow B 3 1 v xs.length (intsV xs) ∧ v.ownBlock ≠ some b

abbrev NatAt (B b : Nat) (xs : List Int) (w : World) : Prop := NatX natK B b xs w

theorem NatX.lt {K : NatK} {B b : Nat} {xs : List Int} {w : World} (h : NatX K B b xs w) : b < w.heap.size := by
  obtain ⟨_, v, hb, _⟩ := h
  exact (Array.getElem?_eq_some_iff.1 hb).1
theorem NatX.cell {K : NatK} {v : Value} {b : Nat} {w : World} (hb : w.heap[b]? = some (.cells (v :: K.rest).toArray K.ty (0, 0))) : w.cell? ⟨b, 0, none⟩ = some v := by
  rw [Lib.cell_of_heap hb]; simp
theorem NatX.cell1 {K : NatK} {v u : Value} {b : Nat} {w : World} (hb : w.heap[b]? = some (.cells (v :: K.rest).toArray K.ty (0, 0))) (j : Nat) (hj : K.rest[j]? = some u) : w.cell? ⟨b, j + 1, none⟩ = some u := by
  rw [Lib.cell_of_heap hb]; simpa using hj
/-- new limbs laid into it -/
theorem NatX.put {K : NatK} {B b : Nat} {v v' : Value} {ys : List Int} {w : World} (hB : B ≤ b) (hb : w.heap[b]? = some (.cells (v :: K.rest).toArray K.ty (0, 0))) (hown : w.ownsRow B 3 1 v' ys.length (intsV ys)) :
    NatX K B b ys (w.setCell ⟨b, 0, none⟩ v') := by
  have hne := Lib.ownBlock_ne hown hb K.ne
  refine ⟨hB, v', ?_, ?_, hne⟩
  · simp [World.setCell, Array.getElem?_modify, hb]
  · exact hown.kept (row := some b) ⟨rfl, rfl, rfl, by simp [World.setCell], fun k _ hk => Below.heap_setCell _ _ _ _ (fun e => hk (by simp [e]))⟩ (Or.inr hne)
theorem NatAt.put {B b : Nat} {v v' : Value} {ys : List Int} {w : World} (hB : B ≤ b) (hb : w.heap[b]? = some (.cells #[v] 102 (0, 0))) (hown : w.ownsRow B 3 1 v' ys.length (intsV ys)) :
    NatAt B b ys (w.setCell ⟨b, 0, none⟩ v') := NatX.put (K := natK) hB hb hown
theorem NatX.new {K : NatK} {B : Nat} {v : Value} {xs : List Int} {w : World} (hB : B ≤ w.heap.size) (hown : w.ownsRow B 3 1 v xs.length (intsV xs)) : NatX K B w.heap.size xs (w.alloc (.cells (v :: K.rest).toArray K.ty)) := by
  refine ⟨hB, v, heap_alloc_new w _, own_alloc hown _, fun h => ?_⟩
  have := (own_lt hown h).2
  omega
theorem NatAt.new {B : Nat} {v : Value} {xs : List Int} {w : World} (hB : B ≤ w.heap.size) (hown : w.ownsRow B 3 1 v xs.length (intsV xs)) : NatAt B w.heap.size xs (w.alloc (.cells #[v] 102)) :=
  NatX.new (K := natK) hB hown

set_option maxHeartbeats 1000000 in
set_option maxRecDepth 100000 in
theorem cloneI_any (v : Value) (xs : List Int) (lo hi : Nat) (w : World) (hl : xs.length ≤ 1048576) (hr : Row w lo hi v (intsV xs)) :
    Calls Tryd.prog 150 #[v] w (NewInts xs w) := by
  obtain ⟨i0, hi0, hz0, hz1, hz2⟩ := info_parts intInfo
  obtain ⟨A, c, rfl, hA⟩ := hr
  have q22 : ∀ (w : World) (a : Option Addr) (n c n' c' : Nat), (binOp .eql 23 (.slice a n c) (.slice none n' c')).run Tryd.prog w = .ok (.bool a.isNone) w := fun w a n c n' c' => Lib.run_eql_slice_nil w _ _ a n c n' c' Tryd.underlying23
  cases A with
  | none =>
    obtain rfl : xs = [] := by
      cases xs with
      | nil => rfl
      | cons x r =>
        obtain ⟨a, e, _⟩ := hA 0 _ rfl
        cases e
    clear hA
    go_enter Tryd.func150, Tryd.ntmps150
    go_wp2
    go_ret
    exact ⟨_, rfl, World.ownsRow_nil _ _ _ _, Below.refl _ _⟩
  | some a =>
    have HA := Lib.hid hA
    clear hA
    rw [intsV_length]
    go_enter Tryd.func150, Tryd.ntmps150
    go_wp2_with (at_builtin; refine wpList_append_own _ rfl _ _ 23 rfl w.heap.size 3 i0 (.int .i64 0) 1 8 Tryd.underlying23 hi0 hz0 hz1 hz2 rfl (by decide) _ _ _ rfl (World.ownsRow_made w #[] 0 (Nat.le_refl _) (Nat.zero_le _) rfl) a xs.length c (intsV xs) rfl ?qc1 ?qc2 ?qc3 ?qc4 ?qc5 ?qc6 ?_)
    case qc1 => simp [intsV_length]
    case qc2 =>
      intro j u hj
      obtain ⟨p, e, h1, h2, h3⟩ := HA.out j u hj
      cases e
      exact Lib.cell?_alloc_some _ h3
    case qc3 => intro u hu; obtain ⟨x, _, rfl⟩ := List.mem_map.1 hu; rfl
    case qc4 => unfold maxLen; omega
    case qc5 => omega
    case qc6 => simp
    intro v' w1 hown hgrow hnil
    go_wp2
    go_ret
    exact ⟨v', rfl, by simpa using hown, ((Below.refl _ w).alloc (Nat.le_refl _) _).grown hgrow (by simp) (by intro k hk; simp [Value.ownBlock] at hk; omega)⟩

/-- a new nat that holds xs -/
def NewNat (xs : List Int) (w : World) (e : Ending) (w' : World) : Prop :=
  ∃ b, e = .returned (.pointer (some ⟨b, 0, none⟩)) ∧ NatAt w.heap.size b xs w' ∧ Below w.heap.size w w'

set_option maxHeartbeats 400000 in
set_option maxRecDepth 100000 in
theorem copyNat_any (v : Value) (xs : List Int) (lo hi : Nat) (w : World) (hl : xs.length ≤ 1048576) (hr : Row w lo hi v (intsV xs)) :
    Calls Tryd.prog 137 #[v] w (NewNat xs w) := by
  go_enter Tryd.func137, Tryd.ntmps137
  go_wp2_with fail
  refine (cloneI_any v xs lo hi _ hl hr).mono ?_
  rintro e w1 ⟨v1, rfl, o1, b1⟩
  obtain ⟨A1, c1, rfl⟩ := own_len o1
  go_wp2
  go_ret
  exact ⟨_, rfl, NatAt.new b1.size o1, b1.alloc b1.size _⟩

set_option maxHeartbeats 400000 in
set_option maxRecDepth 100000 in
theorem natResult_any {K : NatK} (B b : Nat) (xs : List Int) (w : World) (hl : xs.length ≤ 1048576) (h : NatX K B b xs w) :
    Calls Tryd.prog 110 #[.pointer (some ⟨b, 0, none⟩)] w (OwnPost B (capL xs) w) := by
  obtain ⟨hB, v, hb, hown, hne⟩ := h
  have hc : w.cell? ⟨b, 0, none⟩ = some v := NatX.cell hb
  obtain ⟨A, c, rfl⟩ := own_len hown
  have HB := Lib.hid hb
  have HO := Lib.hid hown
  clear hb hown hne
  by_cases h50 : 50 < xs.length
  · have HR := Lib.hid (show capL xs = [] by unfold capL; rw [if_pos h50])
    go_enter Tryd.func110, Tryd.ntmps110
    go_wp2
    go_ret
    exact ⟨rfl, _, rfl, by rw [HR.out]; exact World.ownsRow_nil _ _ _ _⟩
  · have HR := Lib.hid (show capL xs = xs by unfold capL; rw [if_neg h50])
    go_enter Tryd.func110, Tryd.ntmps110
    go_wp2
    go_ret
    exact ⟨rfl, _, rfl, by rw [HR.out]; exact HO.out⟩
end Go.Proofs.YtcenmdiblbooeaaDoor
