/-
  What l03Div and NatDiv of package spec return.
-/
import Derived.Test.YtipbdpdmefcofaaDoorDivSpec
import Derived.Laws.AppendOwnNone
namespace Go.Proofs.YtipbdpdmefcofaaDoor
open Go.RowKit

/-- append of a row of the call's own, nil let in -/
theorem append_owned {P : Program} {w : World} {ops : Array Oper} {rest : List Oper} {o : Oper} {a : Act} {Q : Exit → Act → World → Prop} (hgd : o.guard = none) (s x : Operand) (t : TypeId)
    (ho : o.op = .call { callee := .builtin .append, args := #[s, x], argTypes := #[t, t] }) (base : Nat) (e : TypeId) (i : TypeInfo) (z : Value) (bytes : Nat) (ht : P.underlying t = some (.slice e)) (hi : P.info? e = some i)
    (hz : i.zero = some z) (hsize : i.size = 1) (hby : i.bytes = bytes) (hzs : z.cells.size = 1) (v : Value) (n : Nat) (xs : List Value) (hs : a.eval s = v) (hown : w.ownsRow base e 1 v n xs)
    (vx : Value) (m base2 : Nat) (e2 : TypeId) (news : List Value) (hx : a.eval x = vx) (hsrc : w.ownsRow base2 e2 1 vx m news) (h1 : ∀ u ∈ news, u.oneCell' = true) (h63 : n + m ≤ maxLen) (hbytes : (n + m) * bytes ≤ 140737488355328) (hbase : base ≤ w.heap.size)
    (h : ∀ v' w', w'.ownsRow base e 1 v' (n + m) (xs ++ news) → w.grownBy w' v.ownBlock → wpList P ops Q rest (a.put o.dst v') w') : wpList P ops Q (o :: rest) a w := by
  have hm : news.length = m := by have := hsrc.1; omega
  rcases hsrc.2 with ⟨rfl, rfl⟩ | ⟨g, cap, cur, rfl, _⟩
  · obtain rfl : news = [] := List.eq_nil_of_length_eq_zero hm
    exact wpList_append_own_none hgd s x t ho base e i 1 ht hi v n xs hs hown hx (h v w (by simpa using hown) (World.grownBy.refl _ _))
  · refine wpList_append_own _ hgd s x t ho base e i z 1 bytes ht hi hz hsize hby hzs (by omega) v n xs hs hown ⟨g, 0, none⟩ m cap news hx (by omega) (fun j u hu => hsrc.cells (g := g) rfl j u hu) h1 h63 hbytes hbase ?_
    intro v' w' h2 h3 _
    exact h v' w' h2 h3

/-- two new rows apart from each other -/
def TwoRows (xs ys : List Int) (w : World) (e : Ending) (w' : World) : Prop :=
  ∃ v1 v2, e = .returned (.tuple #[v1, v2]) ∧ w'.ownsRow w.heap.size 3 1 v1 xs.length (intsV xs) ∧ w'.ownsRow w.heap.size 3 1 v2 ys.length (intsV ys) ∧
    (∀ x y, v1.ownBlock = some x → v2.ownBlock = some y → x ≠ y) ∧ Below w.heap.size w w'

theorem limbs_mono {m n : Int} (h0 : 0 ≤ m) (h : m ≤ n) : (limbs m.toNat).length ≤ (limbs n.toNat).length := by
  rcases Nat.lt_or_ge (limbs n.toNat).length (limbs m.toNat).length with hl | hl
  · have := nval_short (limbs n.toNat) (limbs m.toNat) (limbs_digN _) (limbs_digN _) hl (limbs_lastN _)
    rw [limbs_toNat m h0, limbs_toNat n (by omega)] at this
    omega
  · exact hl
theorem own_base {w : World} {base base' n : Nat} {e : TypeId} {v : Value} {xs : List Value} (h : w.ownsRow base e 1 v n xs) (hb : base' ≤ base) : w.ownsRow base' e 1 v n xs := by
  obtain ⟨hl, h | ⟨g, cap, cur, rfl, hg, r⟩⟩ := h
  · exact ⟨hl, .inl h⟩
  · exact ⟨hl, .inr ⟨g, cap, cur, rfl, by omega, r⟩⟩
/-- limb k of a division brought down -/
theorem down_limb {x R : Int} (hx0 : 0 ≤ x) (hx1 : x ≤ 999999999) (hR : 0 ≤ R) : trimL (x :: limbs R.toNat) = limbs (R * 1000000000 + x).toNat := by
  have hd : DigN (x :: limbs R.toNat) := DigN.cons hx0 hx1 (limbs_digN _)
  rw [trim_limbs _ hd]
  congr 2
  show x + 1000000000 * nval (limbs R.toNat) = _
  rw [limbs_toNat R hR]
  omega
/-- the state of the loop: the quotient so far, and the rest -/
def DivS (w : World) (a : List Int) (D : Int) (k : Nat) (v : Value) (wr : World) : Prop :=
  ∃ (R : Int) (qs : List Int), DivR a D k R qs ∧ wr.ownsRow w.heap.size 3 1 (.slice (some ⟨w.heap.size, 0, none⟩) a.length a.length) a.length (intsV (List.replicate k 0 ++ qs)) ∧
    wr.ownsRow (w.heap.size + 1) 3 1 v (limbs R.toNat).length (intsV (limbs R.toNat)) ∧ Below w.heap.size w wr

set_option maxHeartbeats 2000000 in
set_option maxRecDepth 100000 in
theorem specDivBig_any (va vb : Value) (a b : List Int) (la ha lb hb_ : Nat) (w : World) (hal : a.length ≤ 50) (hbl : b.length ≤ 50) (hb2 : 2 ≤ b.length) (hha : ha ≤ w.heap.size) (hhb : hb_ ≤ w.heap.size) (oa : DigN a) (ob : DigN b ∧ b.getLastD 1 ≠ 0)
    (hra : Row w la ha va (intsV a)) (hrb : Row w lb hb_ vb (intsV b)) :
    Calls Tryd.prog 37 #[va, vb] w (TwoRows (limbs (nval a / nval b).toNat) (limbs (nval a % nval b).toNat) w) := by
  obtain ⟨i0, hi0, hz0, hz1, hz2⟩ := info_parts intInfo
  have hD : 0 < nval b := by
    have h1 := nval_ge b ob.1 ob.2 (by omega)
    have h2 := bp_pos (b.length - 1)
    omega
  have hra0 := hra
  have hrb0 := hrb
  obtain ⟨A, c, rfl, hA⟩ := hra
  obtain ⟨B, d, rfl, hB⟩ := hrb
  rw [intsV_length] at hra0 hrb0 ⊢
  rw [intsV_length]
  have HA := Lib.hid hA
  have OA := Lib.hid oa
  have OB := Lib.hid ob
  have HDP := Lib.hid hD
  have hmk := make_ints a.length (by omega)
  have hb1 : ((b.length : Int) == 1) = false := by rw [beq_eq_false_iff_ne]; omega
  clear hA hB oa ob hD
  go_enter Tryd.func37, Tryd.ntmps37
  go_wp2
  go_loopw [9, 10] (fun v i wr => ∃ k : Nat, k ≤ a.length ∧ i = .int .i64 ((k : Int) - 1) ∧ DivS w a (nval b) k v wr) (fun _ i _ => (intOf i + 1).toNat)
  case atStart =>
    refine ⟨a.length, Nat.le_refl _, rfl, 0, [], DivR.start a (nval b), ?_, ?_, ((Below.refl _ _).alloc (Nat.le_refl _) _).alloc (by simp) _⟩
    · have h := World.ownsRow_lit (e := 3) (size := 1) (base := w.heap.size) w (madeCells #[.int .i64 0] a.length) a.length (Nat.le_refl _) (by unfold maxLen; omega) (by rw [size_madeCells, Nat.mul_one])
      rw [toList_madeCells_one] at h
      exact own_alloc (by simpa [intsV] using h) _
    · rw [show limbs (0 : Int).toNat = [] from limbs_none]
      have h := World.ownsRow_made (w.alloc (.cells (madeCells #[.int .i64 0] a.length) 3)) (e := 3) (size := 1) (base := w.heap.size + 1) #[] 0 (by simp) (Nat.zero_le _) rfl
      simpa [intsV] using h
  case round =>
    obtain ⟨k, hk, rfl, R, qs, hR, hout, hrest, hb⟩ := hrel
    have hRb := hR.bound HDP.out
    have hR0 := hRb.1
    have HR := Lib.hid hR
    have HRB := Lib.hid hRb
    clear hR hRb
    have hsz := hb.size
    have hsz2 : w.heap.size < wr.heap.size := (own_lt hout (g := w.heap.size) rfl).2
    by_cases hz : 0 < k
    · obtain ⟨j, rfl⟩ : ∃ j, k = j + 1 := ⟨k - 1, by omega⟩
      have hlt : j < a.length := by omega
      obtain ⟨p, rfl, _, hpb, hca⟩ := HA.out j _ (intsV_at a j hlt)
      have hca' : wr.cell? (p.add j) = some (.int .i64 a[j]) := (hb.cell (by rw [block_add]; omega)).trans hca
      have hda := OA.out.at_ j hlt
      have hm1 : ((j + 1 : Nat) : Int) - 1 = (j : Int) := by omega
      rw [hm1]
      have HDN := Lib.hid (down_limb hda.1 hda.2 hR0)
      have hrl : (limbs R.toNat).length ≤ 50 := limbs_length_le _ 50 (by
        have h1 := nval_lt b OB.out.1
        have h2 := bp_mono hbl
        have := HRB.out
        omega)
      have hown0 : (wr.alloc (.cells #[.int .i64 a[j]] 3)).ownsRow (w.heap.size + 1) 3 1 (.slice (some ⟨wr.heap.size, 0, none⟩) 1 1) 1 [.int .i64 a[j]] :=
        ⟨rfl, .inr ⟨wr.heap.size, 1, _, rfl, by omega, heap_alloc_new wr _, Nat.le_refl _, by unfold maxLen; omega, rfl, rfl⟩⟩
      clear hm1 hz hca
      go_wp2_with (at_builtin; refine append_owned rfl _ _ 22 rfl (w.heap.size + 1) 3 i0 (.int .i64 0) 8 Tryd.underlying22 hi0 hz0 hz1 hz2 rfl (.slice (some ⟨wr.heap.size, 0, none⟩) 1 1) 1 [.int .i64 a[j]] rfl hown0 _ _ _ _ _ rfl (own_alloc hrest _) ?c2 ?c3 ?c4 ?c5 ?_)
      case c2 => intro u hu; obtain ⟨x, _, rfl⟩ := List.mem_map.1 hu; rfl
      case c3 => unfold maxLen; omega
      case c4 => omega
      case c5 => simp; omega
      intro v1 w1 hown1 hg1
      have hown2 : w1.ownsRow (w.heap.size + 1) 3 1 v1 (a[j] :: limbs R.toNat).length (intsV (a[j] :: limbs R.toNat)) := by
        rw [List.length_cons, Nat.add_comm (limbs R.toNat).length]
        exact hown1
      have hout1 := own_apart (own_alloc hout _) hg1 (fun g k hg hk => by simp [Value.ownBlock] at hg hk; omega)
      have hbb1 : Below w.heap.size w w1 := (hb.alloc hsz _).grown hg1 (by simp; omega) (fun k hk => by cases hk; exact hsz)
      clear hown0 hown1 hg1 hout hrest
      go_wp2_with fail
      refine (specTrim_any v1 (a[j] :: limbs R.toNat) (w.heap.size + 1) _ (by simp; omega) hown2).mono ?_
      rintro e w2 ⟨rfl, v2, rfl, ho2⟩
      rw [HDN.out] at ho2
      clear hown2
      have hda0 := hda.1
      have hda1 := hda.2
      have HN := Lib.hid (HR.out.next HDP.out OA.out hlt)
      have HDG := Lib.hid (HR.out.digit HDP.out OA.out hlt)
      have hqsl := Lib.hid HR.out.2.2.2
      have HBD : Hid (R * 1000000000 + a[j] < 1000000000 * nval b) := Lib.hid (by have := HRB.out.2; omega)
      obtain ⟨N, HNE⟩ : ∃ N, Hid (N = R * 1000000000 + a[j]) := ⟨_, Lib.hid rfl⟩
      rw [← HNE.out] at ho2 HN HDG HBD
      have hN0 : 0 ≤ N := by rw [HNE.out]; omega
      have HNV := Lib.hid (limbs_toNat N hN0)
      have hnl : (limbs N.toNat).length ≤ 51 := limbs_length_le _ 51 (by
        have h1 := nval_lt b OB.out.1
        have h2 := bp_mono hbl
        have h3 : bp 51 = 1000000000 * bp 50 := rfl
        have := HBD.out
        omega)
      have hsz1 := hbb1.size
      have r2 := Row.of_own ho2
      go_wp2_with fail
      refine (specCmp_any v2 _ (limbs N.toNat) b _ _ lb hb_ _ (by omega) (by omega) ⟨limbs_digN _, limbs_lastN _⟩ OB.out r2 (hrb0.below hbb1 hhb)).mono ?_
      rintro e w3 ⟨rfl, q3, rfl⟩
      rw [HNV.out]
      have hout3 := own_drew hout1 q3
      have ho3 := own_drew ho2 q3
      have hbb3 := below_drewN hbb1 q3
      clear r2 hout1 ho2
      by_cases hless : N < nval b
      · have HC := Lib.hid (cmp_lt hless)
        have HS : Hid (DivS w a (nval b) j v2 (w1.drewN q3)) := Lib.hid (by
          have h := HN.out
          rw [Int.emod_eq_of_lt hN0 hless, Int.ediv_eq_zero_of_lt hN0 hless] at h
          refine ⟨N, 0 :: qs, h, ?_, ho3, hbb3⟩
          rw [show List.replicate j (0 : Int) ++ 0 :: qs = List.replicate (j + 1) 0 ++ qs by rw [List.replicate_succ', List.append_assoc]; rfl]
          exact hout3)
        clear hless
        rw [HC.out]
        go_wp2
        exact ⟨⟨j, by omega, rfl, HS.out⟩, by simp [intOf]⟩
      · have hcd : ¬ cmpI N (nval b) < 0 := by unfold cmpI; rw [if_neg hless]; split <;> omega
        have HG := Lib.hid (show nval b ≤ N by omega)
        clear hless
        go_wp2_with fail
        refine (specDigit_any v2 _ (limbs N.toNat) b _ _ lb hb_ _ (by omega) hbl (Nat.le_refl _) (by have := hbb3.size; omega) ⟨limbs_digN _, limbs_lastN _⟩ OB.out HDP.out (by rw [HNV.out]; exact HBD.out) (Row.of_own ho3) (hrb0.below hbb3 hhb)).mono ?_
        rintro e w4 ⟨rfl, b4⟩
        rw [HNV.out]
        have hout4 := own_below hout3 b4
        have ho4 := own_below ho3 b4
        have hbb4 : Below w.heap.size w w4 := Below.next hbb3 b4
        have hq0 := HDG.out.1
        have hq1 := HDG.out.2
        obtain ⟨q, HQE⟩ : ∃ q, Hid (q = N / nval b) := ⟨_, Lib.hid rfl⟩
        rw [← HQE.out] at hq0 hq1 HN ⊢
        have hlen : (List.replicate (j + 1) (0 : Int) ++ qs).length = a.length := by have := hqsl.out; simp; omega
        obtain ⟨cu, hcell⟩ : ∃ u, w4.cell? ⟨w.heap.size, j, none⟩ = some u := ⟨_, (hout4.cellAt j (by omega)).trans (List.getElem?_eq_getElem (by rw [intsV_length, hlen]; exact hlt))⟩
        have hfr := hout4.frozenAt j
        obtain ⟨hout5, hg5⟩ := hout4.stored j (.int .i64 q)
        rw [intsV_set, zeros_set] at hout5
        have ho5 := own_apart ho4 hg5 (fun g k hg hk => by cases hk; have := (own_lt ho4 hg).1; omega)
        have hbb5 := hbb4.grown hg5 hbb4.size (fun g hg => by cases hg; exact Nat.le_refl _)
        clear hout3 ho3 hbb3 hout4 ho4 hg5 hlen hcd hb hbb1
        go_wp2_with fail
        refine (specNatOf_any q _ (by omega)).mono ?_
        rintro e w6 ⟨v6, rfl, o6, b6⟩
        have hbb6 : Below w.heap.size w w6 := Below.next hbb5 b6
        have hout6 := own_below hout5 b6
        have ho6 := own_below ho5 b6
        clear hout5 ho5 hbb5 hbb4
        go_wp2_with fail
        refine (specMulV_any _ v6 b (limbs q.toNat) lb hb_ _ _ _ hbl (Nat.le_trans (limbs_length_le _ 1 (by show ((q.toNat : Nat) : Int) < 1000000000 * 1; omega)) (by decide)) (by have := hbb6.size; omega) (Nat.le_refl _) OB.out.1 (limbs_digN _) (hrb0.below hbb6 hhb) (Row.of_own o6)).mono ?_
        rintro e w7 ⟨v7, rfl, o7, b7⟩
        rw [limbs_toNat q hq0] at o7
        have hbb7 : Below w.heap.size w w7 := Below.next hbb6 b7
        have hout7 := own_below hout6 b7
        have ho7 := own_below ho6 b7
        clear hout6 ho6 hbb6 o6
        have HP : Hid (0 ≤ nval b * q ∧ nval b * q ≤ N ∧ N - nval b * q = N % nval b) := Lib.hid (by
          have h1 := Int.emod_add_mul_ediv N (nval b)
          have h2 := Int.emod_nonneg N (show nval b ≠ 0 by have := HDP.out; omega)
          rw [← HQE.out] at h1
          exact ⟨Int.mul_nonneg (by have := HDP.out; omega) hq0, by omega, by omega⟩)
        go_wp2_with fail
        refine (specSubV_any v2 v7 (limbs N.toNat) (limbs (nval b * q).toNat) _ _ _ _ _ (by omega) (limbs_mono HP.out.1 HP.out.2.1) (Nat.le_refl _) (Nat.le_refl _) (limbs_digN _) (limbs_digN _) (by rw [HNV.out, limbs_toNat _ HP.out.1]; exact HP.out.2.1) (Row.of_own ho7) (Row.of_own o7)).mono ?_
        rintro e w8 ⟨v8, rfl, o8, b8⟩
        rw [HNV.out, limbs_toNat _ HP.out.1, HP.out.2.2] at o8
        have HS : Hid (DivS w a (nval b) j v8 w8) := Lib.hid ⟨_, _, HN.out, own_below hout7 b8, own_base o8 (by have := (own_lt hout7 (g := w.heap.size) rfl).2; omega), Below.next hbb7 b8⟩
        clear hout7 ho7 o7 o8
        go_wp2
        exact ⟨⟨j, by omega, rfl, HS.out⟩, by simp [intOf]⟩
    · obtain rfl : k = 0 := by omega
      have HF := Lib.hid HR.out.done
      have hql : qs.length = a.length := by have := HR.out.2.2.2; omega
      have hqb : qs.length ≤ 50 := by omega
      have HT := Lib.hid (fun W : World => specTrim_at (some ⟨w.heap.size, 0, none⟩) a.length qs w.heap.size W (by omega))
      have HO : Hid (wr.ownsRow w.heap.size 3 1 (.slice (some ⟨w.heap.size, 0, none⟩) a.length a.length) a.length (intsV qs)) := Lib.hid (by simpa using hout)
      rw [hql] at HT
      clear hql hout hqb
      go_wp2_with fail
      refine (HT.out _ HO.out).mono ?_
      rintro e w2 ⟨rfl, rfl, ho2⟩
      rw [HF.out.1] at ho2 ⊢
      go_wp2
      go_ret2
      refine ⟨_, _, rfl, ho2, ?_, ?_, hb⟩
      · rw [← HF.out.2]
        exact own_base hrest (by omega)
      · intro x y hx hy
        have h1 := (own_lt hrest hy).1
        have h2 : w.heap.size = x := by simpa [Value.ownBlock] using hx
        omega
end Go.Proofs.YtipbdpdmefcofaaDoor
