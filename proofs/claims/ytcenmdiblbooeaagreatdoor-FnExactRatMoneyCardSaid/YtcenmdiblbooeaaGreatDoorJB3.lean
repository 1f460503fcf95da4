/-
  What l03Div and NatDiv of package spec return.
  What NatDiv, NatGcd, NatTen, NatScale, NatCut and NatEven of package spec return.
  What NatGcd, NatTen, NatScale, NatCut and NatEven of package spec return.
  Chapter 5 of package spec: what its functions on signed numbers return.
  Chapter 5 of package spec: IntNum, IntCmp, IntSign.
  Chapter 5 of package spec: sums of signed numbers.
  Chapter 6 of package spec: what its functions on fractions return (begun: l05Gcd).
  What RatOk of package spec returns.
  What l05Low of package spec returns: a fraction in lowest terms.
  Plain facts on the parts of fractions: how long products and sums of theirs are.
  Plain facts of chapter 7: the modes and their names.
  Plain facts of chapter 7: rounded fractions.
  Comparing: a number with itself, and two numbers turned round.
  Plain facts behind the laws of fractions: fractions of few limbs, reckoned as rational numbers.
  Plain facts behind the laws of chapter 7: how far a rounded number is off, and in which order the modes stand.
-/
import Derived.Laws.AppendOwnNone
import Derived.Deep.LoopGhost
import Derived.Deep.RegionHeld3
import Derived.Test.YtcenmdiblbooeaaGreatDoorJB2
namespace Go.Proofs.YtcenmdiblbooeaaGreatDoor
open Go.RowKit

/-- append of a row of the call's own, nil let in -/
theorem append_owned {P : Program} {w : World} {ops : Array Oper} {rest : List Oper} {o : Oper} {a : Act} {Q : Exit → Act → World → Prop} (hgd : o.guard = none) (s x : Operand) (t : TypeId)
    (ho : o.op = .call { callee := .builtin .append, args := #[s, x], argTypes := #[t, t] }) (base : Nat) (e : TypeId) (i : TypeInfo) (z : Value) (bytes : Nat) (ht : P.underlying t = some (.slice e)) (hi : P.info? e = some i)
    (hz : i.zero = some z) (hsize : i.size = 1) (hby : i.bytes = bytes) (hzs : z.cells.size = 1) (v : Value) (n : Nat) (xs : List Value) (hs : a.eval s = v) (hown : w.ownsRow base e 1 v n xs)
    (vx : Value) (m base2 : Nat) (e2 : TypeId) (news : List Value) (hx : a.eval x = vx) (hsrc : w.ownsRow base2 e2 1 vx m news) (h1 : ∀ u ∈ news, u.oneCell' = true) (h63 : n + m ≤ maxLen) (hbytes : (n + m) * bytes ≤ 140737488355328) (hbase : base ≤ w.heap.size)
    (h : ∀ v' w', w'.ownsRow base e 1 v' (n + m) (xs ++ news) → w.grownBy w' v.ownBlock → wpList P ops Q rest (a.put o.dst v') w') : wpList P ops Q (o :: rest) a w := by
  have hm : news.length = m := by have := hsrc.1; omega
  rcases hsrc.2 with ⟨rfl, rfl⟩ | ⟨g, cap, cur, rfl, _⟩
  · obtain rfl : news = [] := List.eq_nil_of_length_eq_zero hm
    exact wpList_append_own_none hgd s x t ho base e i 1 ht hi v n xs hs hown hx (h v w (by simpa using hown) (World.grownBy.refl _ _))
  · refine wpList_append_own _ hgd s x t ho base e i z 1 bytes ht hi hz hsize hby hzs (by omega) v n xs hs hown ⟨g, 0, none⟩ m cap news hx (by omega) (fun j u hu => hsrc.cells (g := g) rfl j u hu) h1 h63 hbytes hbase ?_
    intro v' w' h2 h3 _
    exact h v' w' h2 h3

/-- two new rows apart from each other -/
def TwoRows (xs ys : List Int) (w : World) (e : Ending) (w' : World) : Prop :=
  ∃ v1 v2, e = .returned (.tuple #[v1, v2]) ∧ w'.ownsRow w.heap.size 3 1 v1 xs.length (intsV xs) ∧ w'.ownsRow w.heap.size 3 1 v2 ys.length (intsV ys) ∧
    (∀ x y, v1.ownBlock = some x → v2.ownBlock = some y → x ≠ y) ∧ Below w.heap.size w w'

theorem limbs_mono {m n : Int} (h0 : 0 ≤ m) (h : m ≤ n) : (limbs m.toNat).length ≤ (limbs n.toNat).length := by
  rcases Nat.lt_or_ge (limbs n.toNat).length (limbs m.toNat).length with hl | hl
  · have := nval_short (limbs n.toNat) (limbs m.toNat) (limbs_digN _) (limbs_digN _) hl (limbs_lastN _)
    rw [limbs_toNat m h0, limbs_toNat n (by omega)] at this
    omega
  · exact hl
theorem own_base {w : World} {base base' n : Nat} {e : TypeId} {v : Value} {xs : List Value} (h : w.ownsRow base e 1 v n xs) (hb : base' ≤ base) : w.ownsRow base' e 1 v n xs := by
  obtain ⟨hl, h | ⟨g, cap, cur, rfl, hg, r⟩⟩ := h
  · exact ⟨hl, .inl h⟩
  · exact ⟨hl, .inr ⟨g, cap, cur, rfl, by omega, r⟩⟩
/-- limb k of a division brought down -/
theorem down_limb {x R : Int} (hx0 : 0 ≤ x) (hx1 : x ≤ 999999999) (hR : 0 ≤ R) : trimL (x :: limbs R.toNat) = limbs (R * 1000000000 + x).toNat := by
  have hd : DigN (x :: limbs R.toNat) := DigN.cons hx0 hx1 (limbs_digN _)
  rw [trim_limbs _ hd]
  congr 2
  show x + 1000000000 * nval (limbs R.toNat) = _
  rw [limbs_toNat R hR]
  omega
/-- the state of the loop: the quotient so far, and the rest -/
def DivS (w : World) (a : List Int) (D : Int) (k : Nat) (v : Value) (wr : World) : Prop :=
  ∃ (R : Int) (qs : List Int), DivR a D k R qs ∧ wr.ownsRow w.heap.size 3 1 (.slice (some ⟨w.heap.size, 0, none⟩) a.length a.length) a.length (intsV (List.replicate k 0 ++ qs)) ∧
    wr.ownsRow (w.heap.size + 1) 3 1 v (limbs R.toNat).length (intsV (limbs R.toNat)) ∧ Below w.heap.size w wr

set_option maxHeartbeats 2000000 in
set_option maxRecDepth 100000 in
theorem specDivBig_any (va vb : Value) (a b : List Int) (la ha lb hb_ : Nat) (w : World) (hal : a.length ≤ 50) (hbl : b.length ≤ 50) (hb2 : 2 ≤ b.length) (hha : ha ≤ w.heap.size) (hhb : hb_ ≤ w.heap.size) (oa : DigN a) (ob : DigN b ∧ b.getLastD 1 ≠ 0)
    (hra : Row w la ha va (intsV a)) (hrb : Row w lb hb_ vb (intsV b)) :
    Calls Tryz.prog 164 #[va, vb] w (TwoRows (limbs (nval a / nval b).toNat) (limbs (nval a % nval b).toNat) w) := by
  obtain ⟨i0, hi0, hz0, hz1, hz2⟩ := info_parts intInfo
  have hD : 0 < nval b := by
    have h1 := nval_ge b ob.1 ob.2 (by omega)
    have h2 := bp_pos (b.length - 1)
    omega
  have hra0 := hra
  have hrb0 := hrb
  obtain ⟨A, c, rfl, hA⟩ := hra
  obtain ⟨B, d, rfl, hB⟩ := hrb
  rw [intsV_length] at hra0 hrb0 ⊢
  rw [intsV_length]
  have HA := Lib.hid hA
  have OA := Lib.hid oa
  have OB := Lib.hid ob
  have HDP := Lib.hid hD
  have hmk := make_ints a.length (by omega)
  have hb1 : ((b.length : Int) == 1) = false := by rw [beq_eq_false_iff_ne]; omega
  clear hA hB oa ob hD
  go_enter Tryz.func164, Tryz.ntmps164
  go_wp2
  go_loopw [9, 10] (fun v i wr => ∃ k : Nat, k ≤ a.length ∧ i = .int .i64 ((k : Int) - 1) ∧ DivS w a (nval b) k v wr) (fun _ i _ => (intOf i + 1).toNat)
  case atStart =>
    refine ⟨a.length, Nat.le_refl _, rfl, 0, [], DivR.start a (nval b), ?_, ?_, ((Below.refl _ _).alloc (Nat.le_refl _) _).alloc (by simp) _⟩
    · have h := World.ownsRow_lit (e := 3) (size := 1) (base := w.heap.size) w (madeCells #[.int .i64 0] a.length) a.length (Nat.le_refl _) (by unfold maxLen; omega) (by rw [size_madeCells, Nat.mul_one])
      rw [toList_madeCells_one] at h
      exact own_alloc (by simpa [intsV] using h) _
    · rw [show limbs (0 : Int).toNat = [] from limbs_none]
      have h := World.ownsRow_made (w.alloc (.cells (madeCells #[.int .i64 0] a.length) 3)) (e := 3) (size := 1) (base := w.heap.size + 1) #[] 0 (by simp) (Nat.zero_le _) rfl
      simpa [intsV] using h
  case round =>
    obtain ⟨k, hk, rfl, R, qs, hR, hout, hrest, hb⟩ := hrel
    have hRb := hR.bound HDP.out
    have hR0 := hRb.1
    have HR := Lib.hid hR
    have HRB := Lib.hid hRb
    clear hR hRb
    have hsz := hb.size
    have hsz2 : w.heap.size < wr.heap.size := (own_lt hout (g := w.heap.size) rfl).2
    by_cases hz : 0 < k
    · obtain ⟨j, rfl⟩ : ∃ j, k = j + 1 := ⟨k - 1, by omega⟩
      have hlt : j < a.length := by omega
      obtain ⟨p, rfl, _, hpb, hca⟩ := HA.out j _ (intsV_at a j hlt)
      have hca' : wr.cell? (p.add j) = some (.int .i64 a[j]) := (hb.cell (by rw [block_add]; omega)).trans hca
      have hda := OA.out.at_ j hlt
      have hm1 : ((j + 1 : Nat) : Int) - 1 = (j : Int) := by omega
      rw [hm1]
      have HDN := Lib.hid (down_limb hda.1 hda.2 hR0)
      have hrl : (limbs R.toNat).length ≤ 50 := limbs_length_le _ 50 (by
        have h1 := nval_lt b OB.out.1
        have h2 := bp_mono hbl
        have := HRB.out
        omega)
      have hown0 : (wr.alloc (.cells #[.int .i64 a[j]] 3)).ownsRow (w.heap.size + 1) 3 1 (.slice (some ⟨wr.heap.size, 0, none⟩) 1 1) 1 [.int .i64 a[j]] :=
        ⟨rfl, .inr ⟨wr.heap.size, 1, _, rfl, by omega, heap_alloc_new wr _, Nat.le_refl _, by unfold maxLen; omega, rfl, rfl⟩⟩
      clear hm1 hz hca
      go_wp2_with (at_builtin; refine append_owned rfl _ _ 23 rfl (w.heap.size + 1) 3 i0 (.int .i64 0) 8 Tryz.underlying23 hi0 hz0 hz1 hz2 rfl (.slice (some ⟨wr.heap.size, 0, none⟩) 1 1) 1 [.int .i64 a[j]] rfl hown0 _ _ _ _ _ rfl (own_alloc hrest _) ?c2 ?c3 ?c4 ?c5 ?_)
      case c2 => intro u hu; obtain ⟨x, _, rfl⟩ := List.mem_map.1 hu; rfl
      case c3 => unfold maxLen; omega
      case c4 => omega
      case c5 => simp; omega
      intro v1 w1 hown1 hg1
      have hown2 : w1.ownsRow (w.heap.size + 1) 3 1 v1 (a[j] :: limbs R.toNat).length (intsV (a[j] :: limbs R.toNat)) := by
        rw [List.length_cons, Nat.add_comm (limbs R.toNat).length]
        exact hown1
      have hout1 := own_apart (own_alloc hout _) hg1 (fun g k hg hk => by simp [Value.ownBlock] at hg hk; omega)
      have hbb1 : Below w.heap.size w w1 := (hb.alloc hsz _).grown hg1 (by simp; omega) (fun k hk => by cases hk; exact hsz)
      clear hown0 hown1 hg1 hout hrest
      go_wp2_with fail
      refine (specTrim_any v1 (a[j] :: limbs R.toNat) (w.heap.size + 1) _ (by simp; omega) hown2).mono ?_
      rintro e w2 ⟨rfl, v2, rfl, ho2⟩
      rw [HDN.out] at ho2
      clear hown2
      have hda0 := hda.1
      have hda1 := hda.2
      have HN := Lib.hid (HR.out.next HDP.out OA.out hlt)
      have HDG := Lib.hid (HR.out.digit HDP.out OA.out hlt)
      have hqsl := Lib.hid HR.out.2.2.2
      have HBD : Hid (R * 1000000000 + a[j] < 1000000000 * nval b) := Lib.hid (by have := HRB.out.2; omega)
      obtain ⟨N, HNE⟩ : ∃ N, Hid (N = R * 1000000000 + a[j]) := ⟨_, Lib.hid rfl⟩
      rw [← HNE.out] at ho2 HN HDG HBD
      have hN0 : 0 ≤ N := by rw [HNE.out]; omega
      have HNV := Lib.hid (limbs_toNat N hN0)
      have hnl : (limbs N.toNat).length ≤ 51 := limbs_length_le _ 51 (by
        have h1 := nval_lt b OB.out.1
        have h2 := bp_mono hbl
        have h3 : bp 51 = 1000000000 * bp 50 := rfl
        have := HBD.out
        omega)
      have hsz1 := hbb1.size
      have r2 := Row.of_own ho2
      go_wp2_with fail
      refine (specCmp_any v2 _ (limbs N.toNat) b _ _ lb hb_ _ (by omega) (by omega) ⟨limbs_digN _, limbs_lastN _⟩ OB.out r2 (hrb0.below hbb1 hhb)).mono ?_
      rintro e w3 ⟨rfl, q3, rfl⟩
      rw [HNV.out]
      have hout3 := own_drew hout1 q3
      have ho3 := own_drew ho2 q3
      have hbb3 := below_drewN hbb1 q3
      clear r2 hout1 ho2
      by_cases hless : N < nval b
      · have HC := Lib.hid (cmp_lt hless)
        have HS : Hid (DivS w a (nval b) j v2 (w1.drewN q3)) := Lib.hid (by
          have h := HN.out
          rw [Int.emod_eq_of_lt hN0 hless, Int.ediv_eq_zero_of_lt hN0 hless] at h
          refine ⟨N, 0 :: qs, h, ?_, ho3, hbb3⟩
          rw [show List.replicate j (0 : Int) ++ 0 :: qs = List.replicate (j + 1) 0 ++ qs by rw [List.replicate_succ', List.append_assoc]; rfl]
          exact hout3)
        clear hless
        rw [HC.out]
        go_wp2
        exact ⟨⟨j, by omega, rfl, HS.out⟩, by simp [intOf]⟩
      · have hcd : ¬ cmpI N (nval b) < 0 := by unfold cmpI; rw [if_neg hless]; split <;> omega
        have HG := Lib.hid (show nval b ≤ N by omega)
        clear hless
        go_wp2_with fail
        refine (specDigit_any v2 _ (limbs N.toNat) b _ _ lb hb_ _ (by omega) hbl (Nat.le_refl _) (by have := hbb3.size; omega) ⟨limbs_digN _, limbs_lastN _⟩ OB.out HDP.out (by rw [HNV.out]; exact HBD.out) (Row.of_own ho3) (hrb0.below hbb3 hhb)).mono ?_
        rintro e w4 ⟨rfl, b4⟩
        rw [HNV.out]
        have hout4 := own_below hout3 b4
        have ho4 := own_below ho3 b4
        have hbb4 : Below w.heap.size w w4 := Below.next hbb3 b4
        have hq0 := HDG.out.1
        have hq1 := HDG.out.2
        obtain ⟨q, HQE⟩ : ∃ q, Hid (q = N / nval b) := ⟨_, Lib.hid rfl⟩
        rw [← HQE.out] at hq0 hq1 HN ⊢
        have hlen : (List.replicate (j + 1) (0 : Int) ++ qs).length = a.length := by have := hqsl.out; simp; omega
        obtain ⟨cu, hcell⟩ : ∃ u, w4.cell? ⟨w.heap.size, j, none⟩ = some u := ⟨_, (hout4.cellAt j (by omega)).trans (List.getElem?_eq_getElem (by rw [intsV_length, hlen]; exact hlt))⟩
        have hfr := hout4.frozenAt j
        obtain ⟨hout5, hg5⟩ := hout4.stored j (.int .i64 q)
        rw [intsV_set, zeros_set] at hout5
        have ho5 := own_apart ho4 hg5 (fun g k hg hk => by cases hk; have := (own_lt ho4 hg).1; omega)
        have hbb5 := hbb4.grown hg5 hbb4.size (fun g hg => by cases hg; exact Nat.le_refl _)
        clear hout3 ho3 hbb3 hout4 ho4 hg5 hlen hcd hb hbb1
        go_wp2_with fail
        refine (specNatOf_any q _ (by omega)).mono ?_
        rintro e w6 ⟨v6, rfl, o6, b6⟩
        have hbb6 : Below w.heap.size w w6 := Below.next hbb5 b6
        have hout6 := own_below hout5 b6
        have ho6 := own_below ho5 b6
        clear hout5 ho5 hbb5 hbb4
        go_wp2_with fail
        refine (specMulV_any _ v6 b (limbs q.toNat) lb hb_ _ _ _ hbl (Nat.le_trans (limbs_length_le _ 1 (by show ((q.toNat : Nat) : Int) < 1000000000 * 1; omega)) (by decide)) (by have := hbb6.size; omega) (Nat.le_refl _) OB.out.1 (limbs_digN _) (hrb0.below hbb6 hhb) (Row.of_own o6)).mono ?_
        rintro e w7 ⟨v7, rfl, o7, b7⟩
        rw [limbs_toNat q hq0] at o7
        have hbb7 : Below w.heap.size w w7 := Below.next hbb6 b7
        have hout7 := own_below hout6 b7
        have ho7 := own_below ho6 b7
        clear hout6 ho6 hbb6 o6
        have HP : Hid (0 ≤ nval b * q ∧ nval b * q ≤ N ∧ N - nval b * q = N % nval b) := Lib.hid (by
          have h1 := Int.emod_add_mul_ediv N (nval b)
          have h2 := Int.emod_nonneg N (show nval b ≠ 0 by have := HDP.out; omega)
          rw [← HQE.out] at h1
          exact ⟨Int.mul_nonneg (by have := HDP.out; omega) hq0, by omega, by omega⟩)
        go_wp2_with fail
        refine (specSubV_any v2 v7 (limbs N.toNat) (limbs (nval b * q).toNat) _ _ _ _ _ (by omega) (limbs_mono HP.out.1 HP.out.2.1) (Nat.le_refl _) (Nat.le_refl _) (limbs_digN _) (limbs_digN _) (by rw [HNV.out, limbs_toNat _ HP.out.1]; exact HP.out.2.1) (Row.of_own ho7) (Row.of_own o7)).mono ?_
        rintro e w8 ⟨v8, rfl, o8, b8⟩
        rw [HNV.out, limbs_toNat _ HP.out.1, HP.out.2.2] at o8
        have HS : Hid (DivS w a (nval b) j v8 w8) := Lib.hid ⟨_, _, HN.out, own_below hout7 b8, own_base o8 (by have := (own_lt hout7 (g := w.heap.size) rfl).2; omega), Below.next hbb7 b8⟩
        clear hout7 ho7 o7 o8
        go_wp2
        exact ⟨⟨j, by omega, rfl, HS.out⟩, by simp [intOf]⟩
    · obtain rfl : k = 0 := by omega
      have HF := Lib.hid HR.out.done
      have hql : qs.length = a.length := by have := HR.out.2.2.2; omega
      have hqb : qs.length ≤ 50 := by omega
      have HT := Lib.hid (fun W : World => specTrim_at (some ⟨w.heap.size, 0, none⟩) a.length qs w.heap.size W (by omega))
      have HO : Hid (wr.ownsRow w.heap.size 3 1 (.slice (some ⟨w.heap.size, 0, none⟩) a.length a.length) a.length (intsV qs)) := Lib.hid (by simpa using hout)
      rw [hql] at HT
      clear hql hout hqb
      go_wp2_with fail
      refine (HT.out _ HO.out).mono ?_
      rintro e w2 ⟨rfl, rfl, ho2⟩
      rw [HF.out.1] at ho2 ⊢
      go_wp2
      go_ret2
      refine ⟨_, _, rfl, ho2, ?_, ?_, hb⟩
      · rw [← HF.out.2]
        exact own_base hrest (by omega)
      · intro x y hx hy
        have h1 := (own_lt hrest hy).1
        have h2 : w.heap.size = x := by simpa [Value.ownBlock] using hx
        omega
end Go.Proofs.YtcenmdiblbooeaaGreatDoor

namespace Go.Proofs.YtcenmdiblbooeaaGreatDoor
open Go.RowKit

/-- a nil slice of the call's own, or an argument, has no capacity -/
def NoCap (v : Value) : Prop := ∀ n c, v = .slice none n c → c = 0
theorem own_noCap {w : World} {base n : Nat} {e : TypeId} {v : Value} {xs : List Value} (h : w.ownsRow base e 1 v n xs) : NoCap v := by
  intro m c e1
  rcases h.2 with ⟨rfl, _⟩ | ⟨g, cap, cur, rfl, _⟩
  · injection e1 with _ _ e3
    exact e3.symm
  · cases e1
/-- append of a slice that reads as a list, nil let in -/
theorem append_row {P : Program} {w : World} {ops : Array Oper} {rest : List Oper} {o : Oper} {a : Act} {Q : Exit → Act → World → Prop} (hgd : o.guard = none) (s x : Operand) (t : TypeId)
    (ho : o.op = .call { callee := .builtin .append, args := #[s, x], argTypes := #[t, t] }) (base : Nat) (e : TypeId) (i : TypeInfo) (z : Value) (bytes : Nat) (ht : P.underlying t = some (.slice e)) (hi : P.info? e = some i)
    (hz : i.zero = some z) (hsize : i.size = 1) (hby : i.bytes = bytes) (hzs : z.cells.size = 1) (v : Value) (n : Nat) (xs : List Value) (hs : a.eval s = v) (hown : w.ownsRow base e 1 v n xs)
    (vx : Value) (lo hi' : Nat) (news : List Value) (hx : a.eval x = vx) (hr : Row w lo hi' vx news) (hnc : NoCap vx) (h1 : ∀ u ∈ news, u.oneCell' = true) (h63 : n + news.length ≤ maxLen) (hbytes : (n + news.length) * bytes ≤ 140737488355328) (hbase : base ≤ w.heap.size)
    (h : ∀ v' w', w'.ownsRow base e 1 v' (n + news.length) (xs ++ news) → w.grownBy w' v.ownBlock → wpList P ops Q rest (a.put o.dst v') w') : wpList P ops Q (o :: rest) a w := by
  obtain ⟨A, c, rfl, hA⟩ := hr
  cases A with
  | none =>
    obtain rfl : news = [] := by
      cases news with
      | nil => rfl
      | cons y r => obtain ⟨_, e, _⟩ := hA 0 y rfl; cases e
    obtain rfl : c = 0 := hnc _ _ rfl
    exact wpList_append_own_none hgd s x t ho base e i 1 ht hi v n xs hs hown hx (h v w (by simpa using hown) (World.grownBy.refl _ _))
  | some ad =>
    refine wpList_append_own _ hgd s x t ho base e i z 1 bytes ht hi hz hsize hby hzs (by omega) v n xs hs hown ad news.length c news hx (by omega) (fun j u hu => ?_) h1 h63 hbytes hbase ?_
    · obtain ⟨p, e, _, _, hc⟩ := hA j u hu
      cases e
      exact hc
    · intro v' w' h2 h3 _
      exact h v' w' h2 h3

set_option maxHeartbeats 400000 in
set_option maxRecDepth 100000 in
theorem specDivOne_any (va vb : Value) (a : List Int) (d : Int) (la ha lb hb_ : Nat) (w : World) (hal : a.length ≤ 1048576) (hha : ha ≤ w.heap.size) (oa : DigN a) (hd0 : 0 < d) (hd1 : d ≤ 999999999)
    (hra : Row w la ha va (intsV a)) (hrb : Row w lb hb_ vb (intsV [d])) :
    Calls Tryz.prog 164 #[va, vb] w (TwoRows (limbs (nval a / d).toNat) (limbs (nval a % d).toNat) w) := by
  obtain ⟨B, c, rfl, hB⟩ := hrb
  obtain ⟨p, rfl, _, _, hcb⟩ := hB 0 _ rfl
  have hcb0 : w.cell? p = some (.int .i64 d) := hcb
  rw [intsV_length]
  have OA := Lib.hid oa
  have hm := Lib.hid (show 0 ≤ nval a % d ∧ nval a % d < d from ⟨Int.emod_nonneg _ (by omega), Int.emod_lt_of_pos _ hd0⟩)
  clear hB oa
  go_enter Tryz.func164, Tryz.ntmps164
  go_wp2_with fail
  refine (specSmall_any va a d la ha _ hal hha hd0 hd1 OA.out hra).mono ?_
  rintro e w1 ⟨v1, rfl, o1, b1⟩
  go_wp2_with fail
  refine (specNatOf_any _ _ (by have := hm.out; omega)).mono ?_
  rintro e w2 ⟨v2, rfl, o2, b2⟩
  go_wp2
  go_ret2
  exact ⟨v1, v2, rfl, own_below o1 b2, own_base o2 b1.size, (Lies.of o1).apart (Lies.of o2) (.inl (Nat.le_refl _)), Below.next b1 b2⟩

theorem one_of_len {b : List Int} (h : b.length = 1) : b = [b[0]] := by
  match b, h with
  | [x], _ => rfl
theorem specDiv_any (va vb : Value) (a b : List Int) (la ha lb hb_ : Nat) (w : World) (hal : a.length ≤ 50) (hbl : b.length ≤ 50) (hb0 : 0 < b.length) (hha : ha ≤ w.heap.size) (hhb : hb_ ≤ w.heap.size) (oa : DigN a) (ob : DigN b ∧ b.getLastD 1 ≠ 0)
    (hra : Row w la ha va (intsV a)) (hrb : Row w lb hb_ vb (intsV b)) :
    Calls Tryz.prog 164 #[va, vb] w (TwoRows (limbs (nval a / nval b).toNat) (limbs (nval a % nval b).toNat) w) := by
  by_cases h1 : b.length = 1
  · have hv : nval b = b[0] := by
      conv => lhs; rw [one_of_len h1]
      show b[0] + 1000000000 * 0 = _
      omega
    have hd := ob.1.at_ 0 hb0
    have hne : b[0] ≠ 0 := by
      have := ob.2
      rw [one_of_len h1] at this
      simpa using this
    rw [hv]
    exact specDivOne_any va vb a b[0] la ha lb hb_ w (by omega) hha oa (by omega) hd.2 hra (by rw [← one_of_len h1]; exact hrb)
  · exact specDivBig_any va vb a b la ha lb hb_ w hal hbl (by omega) hha hhb oa ob hra hrb

/-- what NatDiv answers -/
def divN (a b : List Int) : List Int × List Int := if natOkB a = true ∧ natOkB b = true ∧ 0 < b.length then (limbs (nval a / nval b).toNat, limbs (nval a % nval b).toNat) else ([], [])
theorem two_nil {w w' : World} (hb : Below w.heap.size w w') : TwoRows [] [] w (.returned (.tuple #[.slice none 0 0, .slice none 0 0])) w' := ⟨_, _, rfl, nil_own, nil_own, (fun x y hx _ => by cases hx), hb⟩

end Go.Proofs.YtcenmdiblbooeaaGreatDoor

namespace Go.Proofs.YtcenmdiblbooeaaGreatDoor
open Go.RowKit

/-- what NatGcd answers -/
def gcdN (a b : List Int) : List Int := if natOkB a = true ∧ natOkB b = true then limbs (Nat.gcd (nval a).toNat (nval b).toNat) else []
theorem gcd_step (X Y : Nat) : Nat.gcd Y (X % Y) = Nat.gcd X Y := by
  rw [Nat.gcd_comm Y, ← Nat.gcd_rec, Nat.gcd_comm]
theorem limbs_empty {n : Nat} (h : ¬ 0 < (limbs n).length) : n = 0 := by
  rcases Nat.eq_zero_or_pos n with h0 | h0
  · exact h0
  · rw [limbs, dif_neg (by omega)] at h
    simp at h
theorem limbs_some {n : Nat} (h : 0 < (limbs n).length) : 0 < n := by
  rcases Nat.eq_zero_or_pos n with h0 | h0
  · subst h0; rw [limbs, dif_pos rfl] at h; simp at h
  · exact h0
theorem limbs_mod_len (X Y : Nat) (h : (limbs Y).length ≤ 50) (h0 : 0 < Y) : (limbs (X % Y)).length ≤ 50 := by
  have hm := Nat.mod_lt X h0
  have := limbs_mono (m := ((X % Y : Nat) : Int)) (n := (Y : Int)) (by omega) (by omega)
  rw [Int.toNat_natCast, Int.toNat_natCast] at this
  omega
/-- the state of NatGcd's loop -/
def GcdS (w : World) (G : Nat) (n : Nat) (x y : Value) (wr : World) : Prop :=
  ∃ X Y : Nat, n = Y ∧ Nat.gcd X Y = G ∧ (limbs X).length ≤ 50 ∧ (limbs Y).length ≤ 50 ∧ wr.ownsRow w.heap.size 3 1 x (limbs X).length (intsV (limbs X)) ∧ wr.ownsRow w.heap.size 3 1 y (limbs Y).length (intsV (limbs Y)) ∧ Below w.heap.size w wr

set_option maxHeartbeats 1000000 in
set_option maxRecDepth 100000 in
theorem specNatGcd_any (va vb : Value) (a b : List Int) (la ha lb hb_ : Nat) (w : World) (hal : a.length ≤ 1048576) (hbl : b.length ≤ 1048576) (hha : ha ≤ w.heap.size) (hhb : hb_ ≤ w.heap.size) (hna : NoCap va) (hnb : NoCap vb)
    (hra : Row w la ha va (intsV a)) (hrb : Row w lb hb_ vb (intsV b)) :
    Calls Tryz.prog 163 #[va, vb] w (NewInts (gcdN a b) w) := by
  obtain ⟨i0, hi0, hz0, hz1, hz2⟩ := info_parts intInfo
  by_cases oa : natOkB a = true
  · by_cases ob : natOkB b = true
    · have HV := Lib.hid (show gcdN a b = limbs (Nat.gcd (nval a).toNat (nval b).toNat) by unfold gcdN; rw [if_pos ⟨oa, ob⟩])
      have LA := Lib.hid (natOk_limbs oa)
      have LB := Lib.hid (natOk_limbs ob)
      have ha50 := (natOk_parts oa).2.1
      have hb50 := (natOk_parts ob).2.1
      go_enter Tryz.func163, Tryz.ntmps163
      go_wp2_with fail
      refine (specNatOk_any va a la ha _ hal hra).mono ?_
      rintro e w' ⟨rfl, rfl⟩
      rw [oa]
      go_wp2_with fail
      refine (specNatOk_any vb b lb hb_ _ hbl hrb).mono ?_
      rintro e w' ⟨rfl, rfl⟩
      rw [ob]
      clear oa ob
      have hone : ∀ l : List Int, ∀ u ∈ intsV l, u.oneCell' = true := fun l u hu => by obtain ⟨x, _, rfl⟩ := List.mem_map.1 hu; rfl
      have HONE := Lib.hid hone
      clear hone
      go_wp2_with (at_builtin; refine append_row rfl _ _ 23 rfl w.heap.size 3 i0 (.int .i64 0) 8 Tryz.underlying23 hi0 hz0 hz1 hz2 rfl _ 0 [] rfl (World.ownsRow_made w #[] 0 (Nat.le_refl _) (Nat.zero_le _) rfl) va la ha (intsV a) rfl (hra.below ((Below.refl _ _).alloc (Nat.le_refl _) _) hha) hna (HONE.out a) ?c3 ?c4 ?c5 ?_)
      case c3 => rw [intsV_length]; unfold maxLen; omega
      case c4 => rw [intsV_length]; omega
      case c5 => simp
      intro v1 w1 o1 g1
      have b1 : Below w.heap.size w w1 := ((Below.refl _ w).alloc (Nat.le_refl _) _).grown g1 (by simp) (fun k hk => by cases hk; exact Nat.le_refl _)
      rw [intsV_length] at o1
      clear g1
      have z1 := b1.size
      have r1 := hrb.below b1 hhb
      go_wp2_with (at_builtin; refine append_row rfl _ _ 23 rfl w1.heap.size 3 i0 (.int .i64 0) 8 Tryz.underlying23 hi0 hz0 hz1 hz2 rfl _ 0 [] rfl (World.ownsRow_made w1 #[] 0 (Nat.le_refl _) (Nat.zero_le _) rfl) vb lb hb_ (intsV b) rfl (r1.below ((Below.refl _ _).alloc (Nat.le_refl _) _) (by omega)) hnb (HONE.out b) ?d3 ?d4 ?d5 ?_)
      case d3 => rw [intsV_length]; unfold maxLen; omega
      case d4 => rw [intsV_length]; omega
      case d5 => simp
      intro v2 w2 o2 g2
      have b2 : Below w1.heap.size w1 w2 := ((Below.refl _ w1).alloc (Nat.le_refl _) _).grown g2 (by simp) (fun k hk => by cases hk; exact Nat.le_refl _)
      rw [intsV_length] at o2
      clear g2 r1
      have HS : Hid (GcdS w (Nat.gcd (nval a).toNat (nval b).toNat) (nval b).toNat v1 v2 w2) := Lib.hid ⟨(nval a).toNat, (nval b).toNat, rfl, rfl, by rw [← LA.out]; exact ha50, by rw [← LB.out]; exact hb50, by rw [← LA.out]; exact own_below o1 b2, by rw [← LB.out]; exact own_base o2 z1, Below.next b1 b2⟩
      clear o1 o2
      go_wp2
      go_loopg [5, 6] (nval b).toNat (fun n x y wr => GcdS w (Nat.gcd (nval a).toNat (nval b).toNat) n x y wr)
      case atStart => exact HS.out
      case round =>
        clear HS b1 b2 z1
        obtain ⟨X, Y, hn, hG, hX, hY, ox, oy, hb⟩ := hrel
        have HNE := Lib.hid hn
        have HG := Lib.hid hG
        clear hn hG
        have oy0 := oy
        obtain ⟨B, c, rfl⟩ := own_len oy
        by_cases hpos : 0 < (limbs Y).length
        · have hY0 := limbs_some hpos
          go_wp2_with fail
          refine (specDiv_any _ _ (limbs X) (limbs Y) _ _ _ _ _ hX hY hpos (Nat.le_refl _) (Nat.le_refl _) (limbs_digN _) ⟨limbs_digN _, limbs_lastN _⟩ (Row.of_own ox) (Row.of_own oy0)).mono ?_
          rintro e w3 ⟨v3, v4, rfl, o3, o4, _, b3⟩
          rw [limbs_val, limbs_val, show ((X : Int) % (Y : Int)).toNat = X % Y by omega] at o4
          have HS2 : Hid (GcdS w (Nat.gcd (nval a).toNat (nval b).toNat) (X % Y) (.slice B (limbs Y).length c) v4 w3) := Lib.hid ⟨Y, X % Y, rfl, by rw [gcd_step]; exact HG.out, hY, limbs_mod_len X Y hY hY0, own_below oy0 b3, own_base o4 hb.size, Below.next hb b3⟩
          clear ox oy oy0 o3 o4
          go_wp2
          go_roundg (X % Y)
          case measure => rw [HNE.out]; exact Nat.mod_lt X hY0
          case rel => exact HS2.out
        · have hY0 := Lib.hid (limbs_empty hpos)
          have HF : Hid (X = Nat.gcd (nval a).toNat (nval b).toNat) := Lib.hid (by have := HG.out; rw [hY0.out, Nat.gcd_zero_right] at this; exact this)
          go_wp2
          go_ret
          exact ⟨_, rfl, by rw [HV.out, ← HF.out]; exact ox, hb⟩
    · have ob' : natOkB b = false := by simpa using ob
      have HN := Lib.hid (show gcdN a b = [] by unfold gcdN; rw [if_neg (fun h => ob h.2)])
      clear ob
      go_enter Tryz.func163, Tryz.ntmps163
      go_wp2_with fail
      refine (specNatOk_any va a la ha _ hal hra).mono ?_
      rintro e w' ⟨rfl, rfl⟩
      rw [oa]
      go_wp2_with fail
      refine (specNatOk_any vb b lb hb_ _ hbl hrb).mono ?_
      rintro e w' ⟨rfl, rfl⟩
      rw [ob']
      go_wp2
      go_ret
      rw [HN.out]
      exact new_nil (Below.refl _ _)
  · have oa' : natOkB a = false := by simpa using oa
    have HN := Lib.hid (show gcdN a b = [] by unfold gcdN; rw [if_neg (fun h => oa h.1)])
    clear oa
    go_enter Tryz.func163, Tryz.ntmps163
    go_wp2_with fail
    refine (specNatOk_any va a la ha _ hal hra).mono ?_
    rintro e w' ⟨rfl, rfl⟩
    rw [oa']
    go_wp2
    go_ret
    rw [HN.out]
    exact new_nil (Below.refl _ _)

/-- powers of ten -/
def tenN (k : Int) : List Int := if 0 ≤ k ∧ k ≤ 449 then limbs (10 ^ k.toNat) else []
theorem bp_ten (m : Nat) : bp m = 10 ^ (9 * m) := by
  induction m with
  | zero => rfl
  | succ m ih =>
    show 1000000000 * bp m = _
    rw [ih, show 9 * (m + 1) = 9 * m + 9 by omega, Int.pow_add, Int.mul_comm]
    rfl
theorem ten_pos (k : Nat) : (0 : Int) < 10 ^ k := Int.pow_pos (by omega)
theorem ten_eight (k : Nat) (h : k ≤ 8) : (10 : Int) ^ k ≤ 100000000 := by
  match k, h with
  | 0, _ => decide
  | 1, _ => decide
  | 2, _ => decide
  | 3, _ => decide
  | 4, _ => decide
  | 5, _ => decide
  | 6, _ => decide
  | 7, _ => decide
  | 8, _ => decide
theorem ten_limbs (k : Nat) : limbs (10 ^ k) = List.replicate (k / 9) 0 ++ [(10 : Int) ^ (k % 9)] := by
  have h8 := ten_eight (k % 9) (by omega)
  have hp := ten_pos (k % 9)
  have hd : DigN (List.replicate (k / 9) 0 ++ [(10 : Int) ^ (k % 9)]) := (dig_zeros _).append (dig_one (by omega) (by omega))
  have hl : (List.replicate (k / 9) 0 ++ [(10 : Int) ^ (k % 9)]).getLastD 1 ≠ 0 := by
    rw [List.getLastD_eq_getLast?, List.getLast?_append]
    simp
    omega
  have hv : nval (List.replicate (k / 9) 0 ++ [(10 : Int) ^ (k % 9)]) = 10 ^ k := by
    rw [nval_append, nval_zeros, List.length_replicate, bp_ten]
    show 0 + 10 ^ (9 * (k / 9)) * (10 ^ (k % 9) + 1000000000 * 0) = _
    rw [Int.mul_zero, Int.add_zero, Int.zero_add, ← Int.pow_add, Nat.div_add_mod]
  rw [← trim_last _ hl, trim_limbs _ hd, hv]
  congr 1


/-- what NatScale answers -/
def scaleN (a : List Int) (k : Int) : List Int := if k < 0 then [] else mulN a (tenN k)
theorem tenN_len (k : Int) : (tenN k).length ≤ 50 := by
  unfold tenN
  split
  · rename_i h
    rw [ten_limbs]
    simp
    omega
  · simp

/-- what NatCut answers -/
def cutN (a : List Int) (k : Int) : List Int × List Int := if 0 ≤ k ∧ k ≤ 440 then divN a (tenN k) else ([], [])

/-- what NatEven answers -/
def evenB (a : List Int) : Bool := natOkB a && decide (a.headD 0 % 2 = 0)
set_option maxHeartbeats 400000 in
set_option maxRecDepth 100000 in
theorem specNatEven_any (va : Value) (a : List Int) (la ha : Nat) (w : World) (hal : a.length ≤ 1048576) (hra : Row w la ha va (intsV a)) :
    Calls Tryz.prog 195 #[va] w fun e w' => e = .returned (.bool (evenB a)) ∧ w = w' := by
  have hra0 := hra
  obtain ⟨A, c, rfl, hA⟩ := hra
  rw [intsV_length] at hra0 ⊢
  by_cases oa : natOkB a = true
  · by_cases h0 : a.length = 0
    · have HV := Lib.hid (show evenB a = true by unfold evenB; rw [oa, List.eq_nil_of_length_eq_zero h0]; rfl)
      have H0 := Lib.hid h0
      clear h0 hA
      go_enter Tryz.func195, Tryz.ntmps195
      go_wp2_with fail
      refine (specNatOk_any _ a la ha _ hal hra0).mono ?_
      rintro e w' ⟨rfl, rfl⟩
      rw [oa]
      have h0 := H0.out
      go_wp2
      go_ret
      exact ⟨ret_bool HV.out.symm, rfl⟩
    · have hz : ((a.length : Int) == 0) = false := by rw [beq_eq_false_iff_ne]; omega
      have hpos : 0 < a.length := by omega
      obtain ⟨p, rfl, _, _, hc⟩ := hA 0 _ (intsV_at a 0 hpos)
      have hc0 : w.cell? p = some (.int .i64 a[0]) := hc
      have hda := (natOk_parts oa).1.at_ 0 hpos
      have hda0 := hda.1
      have hda1 := hda.2
      have HV := Lib.hid (show evenB a = (a[0] % 2 == 0) by
        unfold evenB
        rw [oa, Bool.true_and]
        have : a.headD 0 = a[0] := by cases a with | nil => simp at hpos | cons x r => rfl
        rw [this, Bool.eq_iff_iff, decide_eq_true_eq, beq_iff_eq])
      clear h0 hA hc hda
      generalize a[0] = x at *
      go_enter Tryz.func195, Tryz.ntmps195
      go_wp2_with fail
      refine (specNatOk_any _ a la ha _ hal hra0).mono ?_
      rintro e w' ⟨rfl, rfl⟩
      rw [oa]
      go_wp2
      go_ret
      exact ⟨ret_bool HV.out.symm, rfl⟩
  · have oa' : natOkB a = false := by simpa using oa
    have HV := Lib.hid (show evenB a = false by unfold evenB; rw [oa']; rfl)
    clear oa hA
    go_enter Tryz.func195, Tryz.ntmps195
    go_wp2_with fail
    refine (specNatOk_any _ a la ha _ hal hra0).mono ?_
    rintro e w' ⟨rfl, rfl⟩
    rw [oa']
    go_wp2
    go_ret
    exact ⟨ret_bool HV.out.symm, rfl⟩
end Go.Proofs.YtcenmdiblbooeaaGreatDoor

namespace Go.Proofs.YtcenmdiblbooeaaGreatDoor
open Go.RowKit

/-- a parameter's box, new -/
theorem own_up {w w' : World} {base n : Nat} {e : TypeId} {v : Value} {xs : List Value} (h : w.ownsRow base e 1 v n xs) (hb : Below w.heap.size w w') : w'.ownsRow base e 1 v n xs := own_below h hb

set_option maxHeartbeats 400000 in
set_option maxRecDepth 100000 in
theorem specIntOk_any (v : Value) (x : SI) (w : World) (hl : x.2.length ≤ 1048576) (h : RdS w v x) :
    Calls Tryz.prog 125 #[v] w fun e w' => e = .returned (.bool (okS x)) ∧ Below w.heap.size w w' := by
  obtain ⟨n, xs⟩ := x
  obtain ⟨u, rfl, hp⟩ := h
  obtain ⟨A, c, rfl⟩ := row_form hp
  rw [intsV_length] at hp ⊢
  simp only at hl hp ⊢
  have hbx : Below w.heap.size w (w.alloc (.cells #[.bool n, .slice A xs.length c] 25)) := below_al (Below.refl _ _) _
  have HV := Lib.hid (show okS (n, xs) = (natOkB xs && (!n || decide (0 < xs.length))) from rfl)
  by_cases ok : natOkB xs = true
  · rw [ok] at HV
    go_enter Tryz.func125, Tryz.ntmps125
    go_wp2_with fail
    refine (specNatOk_any _ xs 0 w.heap.size _ hl (hp.below hbx (Nat.le_refl _))).mono ?_
    rintro e w1 ⟨rfl, rfl⟩
    rw [ok]
    cases n with
    | false =>
      go_wp2
      go_ret
      exact ⟨ret_bool (by rw [HV.out]; rfl), hbx⟩
    | true =>
      go_wp2
      go_ret
      exact ⟨ret_bool (by rw [HV.out]; simp), hbx⟩
  · have ok' : natOkB xs = false := by simpa using ok
    rw [ok'] at HV
    clear ok
    go_enter Tryz.func125, Tryz.ntmps125
    go_wp2_with fail
    refine (specNatOk_any _ xs 0 w.heap.size _ hl (hp.below hbx (Nat.le_refl _))).mono ?_
    rintro e w1 ⟨rfl, rfl⟩
    rw [ok']
    go_wp2
    go_ret
    exact ⟨ret_bool (by rw [HV.out]; rfl), hbx⟩

set_option maxHeartbeats 1000000 in
set_option maxRecDepth 100000 in
theorem l04Make_any (n : Bool) (v : Value) (xs : List Int) (base : Nat) (w : World) (hl : xs.length ≤ 1048576) (ho : w.ownsRow base 3 1 v xs.length (intsV xs)) :
    Calls Tryz.prog 67 #[.bool n, v] w (NewS (mkS n (trimL xs)) w) := by
  obtain ⟨i0, hi0, hz0, hz1, hz2⟩ := info_parts intInfo
  have hbx : Below w.heap.size w (w.alloc (.cells #[.bool false, .slice none 0 0] 25)) := below_al (Below.refl _ _) _
  obtain ⟨A, c, rfl⟩ := own_len ho
  have HO := Lib.hid ho
  clear ho
  have hcl : (capL (trimL xs)).length ≤ 50 := by
    unfold capL
    split
    · simp
    · omega
  have HR := Lib.hid (show mkS n (trimL xs) = (n && decide (0 < (capL (trimL xs)).length), capL (trimL xs)) from rfl)
  have hmade : ((w.alloc (.cells #[.bool false, .slice none 0 0] 25)).alloc (.cells #[] 3)).ownsRow w.heap.size 3 1 (.slice (some ⟨w.heap.size + 1, 0, none⟩) 0 0) 0 [] := by
    have h := World.ownsRow_made (base := w.heap.size) (e := 3) (size := 1) (w.alloc (.cells #[.bool false, .slice none 0 0] 25)) #[] 0 hbx.size (Nat.zero_le _) rfl
    simpa using h
  have hbx2 := below_al hbx (.cells #[] 3)
  have HM := Lib.hid hmade
  clear hmade
  have hone : Hid (∀ l : List Int, ∀ u ∈ intsV l, u.oneCell' = true) := Lib.hid (fun l u hu => by obtain ⟨x, _, rfl⟩ := List.mem_map.1 hu; rfl)
  have hsz1 : (w.alloc (.cells #[.bool false, .slice none 0 0] 25)).heap.size = w.heap.size + 1 := by simp
  cases n
  all_goals
    go_enter Tryz.func67, Tryz.ntmps67
    go_wp2_with fail
    refine (specCap_any _ xs base _ hl (own_up HO.out hbx)).mono ?_
    rintro e w1 ⟨rfl, v1, rfl, o1⟩
    have HO1 := Lib.hid (own_alloc o1 (.cells #[] 3))
    have HR2 := HR.out
    generalize capL (trimL xs) = ys at *
    obtain ⟨A1, c1, rfl⟩ := own_len o1
    have HRR := Lib.hid HR2
    clear o1 HR2 HR
    go_wp2_with (at_builtin; refine append_owned rfl _ _ 23 rfl w.heap.size 3 i0 (.int .i64 0) 8 Tryz.underlying23 hi0 hz0 hz1 hz2 rfl _ 0 [] rfl HM.out _ ys.length base 3 (intsV ys) rfl HO1.out (hone.out ys) (by unfold maxLen; omega) (by omega) hbx2.size ?_)
    intro v2 w2 o2 g2
    obtain ⟨A2, c2, rfl⟩ := own_len o2
    have b2 : Below w.heap.size w w2 := hbx2.grown g2 hbx2.size (fun k hk => by cases hk; show w.heap.size ≤ w.heap.size + 1; omega)
    have hbox : At [w.heap.size] (BoxAt w.heap.size #[.bool false, .slice none 0 0] 25) w2 :=
      ((box_new w #[.bool false, .slice none 0 0] 25).below (below_al (Below.refl _ _) (.cells #[] 3))).chg (Chg.of_grown g2) (fun i hi hm => by simp at hi; simp [Value.ownBlock] at hm; omega)
    have cz0 : w2.cell? ⟨w.heap.size, 0, none⟩ = some (.bool false) := hbox.here.cell 0 _ rfl
    have cz1 : w2.cell? ⟨w.heap.size, 1, none⟩ = some (.slice none 0 0) := hbox.here.cell 1 _ rfl
    have fz0 := Lib.frozen_of_heap hbox.here 0
    have fz1 := Lib.frozen_of_heap hbox.here 1
    have HO2 := Lib.hid o2
    have HBX := Lib.hid hbox
    have HB2 := Lib.hid b2
    clear o2 g2 hbox b2 hbx2 hbx
    go_wp2
    refine bodyPost_ret (v := .agg #[.bool _, .slice A2 ys.length c2]) (by simp [results, Tryz.results67, go_sem, cz0, cz1]; rfl) rfl ?_
    rw [HRR.out]
    refine ⟨.slice A2 ys.length c2, rfl, ?_, below_set2 HB2.out (Nat.le_refl _)⟩
    have hne := Lib.ownBlock_ne HO2.out HBX.out.here (by decide)
    refine own_stays HO2.out fun i hi => ?_
    have : i ≠ w.heap.size := fun e => hne (by rw [hi, e])
    exact (Below.heap_setCell _ _ _ _ this).trans (Below.heap_setCell _ _ _ _ this)

/-- a result that lies in its cell at block r -/
theorem newS_ret {r : Nat} {u c0 c1 : Value} {x : SI} {w W : World} {B : Nat} (hb : BoxAt r #[c0, c1] 25 W) (o : W.ownsRow B 3 1 u x.2.length (intsV x.2)) (hB : w.heap.size ≤ B) (hr : w.heap.size ≤ r) (hW : Below w.heap.size w W) :
    NewS x w (.returned (.agg #[.bool x.1, u])) ((W.setCell ⟨r, 0, none⟩ (.bool x.1)).setCell ⟨r, 1, none⟩ u) := by
  have hne := Lib.ownBlock_ne o hb (by decide)
  refine ⟨u, rfl, own_low (own_stays o fun i hi => ?_) hB, below_set2 hW hr⟩
  have : i ≠ r := fun e => hne (by rw [hi, e])
  exact (Below.heap_setCell _ _ _ _ this).trans (Below.heap_setCell _ _ _ _ this)
theorem newS_zero {w W : World} (hW : Below w.heap.size w W) : NewS zeroS w (.returned (.agg #[.bool false, .slice none 0 0])) W := ⟨_, rfl, World.ownsRow_nil _ _ _ _, hW⟩
theorem ok_trimL {xs : List Int} (h : natOkB xs = true) : trimL xs = limbs (nval xs).toNat := by rw [trim_limbs xs (natOk_parts h).1]
theorem negS_mk {x : SI} (h : okS x = true) : mkS (!x.1) (trimL x.2) = negS x := by
  have hp := okS_parts h
  have h0 := nval_ok hp.1
  unfold negS
  rw [if_pos h, ok_trimL hp.1, mkS_limbs]
  congr 1
  unfold valS
  cases x.1 <;> simp <;> omega
theorem absS_mk {x : SI} (h : okS x = true) : mkS false (trimL x.2) = absS x := by
  have hp := okS_parts h
  have h0 := nval_ok hp.1
  unfold absS
  rw [if_pos h, ok_trimL hp.1, mkS_limbs, valS_abs x hp.1]
  rfl

set_option maxHeartbeats 1000000 in
set_option maxRecDepth 100000 in
theorem specIntNeg_any (v : Value) (x : SI) (w : World) (hl : x.2.length ≤ 1048576) (h : OwnS v x w) :
    Calls Tryz.prog 168 #[v] w (NewS (negS x) w) := by
  obtain ⟨u, rfl, ho⟩ := h
  obtain ⟨A, c, rfl⟩ := own_len ho
  have hbb : Below w.heap.size w ((w.alloc (.cells #[.bool x.1, .slice A x.2.length c] 25)).alloc (.cells #[.bool false, .slice none 0 0] 25)) := below_al (below_al (Below.refl _ _) _) _
  have kb := (box_new w #[.bool x.1, .slice A x.2.length c] 25).below (below_al (Below.refl _ _) (.cells #[.bool false, .slice none 0 0] 25))
  have kr := box_new (w.alloc (.cells #[.bool x.1, .slice A x.2.length c] 25)) #[.bool false, .slice none 0 0] 25
  rw [show (w.alloc (.cells #[.bool x.1, .slice A x.2.length c] 25)).heap.size = w.heap.size + 1 by simp] at kr
  have hoB := own_below ho hbb
  have hrd : RdS _ (.agg #[.bool x.1, .slice A x.2.length c]) x := (OwnS.mk (x := x) (ownI_of hoB)).rd
  by_cases ok : okS x = true
  · have HV := Lib.hid (negS_mk ok)
    go_enter Tryz.func168, Tryz.ntmps168
    go_wp2_with fail
    refine (specIntOk_any _ x _ hl hrd).mono ?_
    rintro e w1 ⟨rfl, b1⟩
    rw [ok]
    clear ok
    have bb1 := Below.next hbb b1
    replace kb := kb.below b1
    replace kr := kr.below b1
    have ho1 := own_below hoB b1
    have cb0 := kb.here.cell 0 _ rfl
    have cb1 := kb.here.cell 1 _ rfl
    clear hoB hrd ho
    go_wp2_with fail
    refine (l04Make_any _ _ x.2 0 _ hl ho1).mono ?_
    rintro e w2 ⟨u2, rfl, o2, b2⟩
    obtain ⟨A2, c2, rfl⟩ := own_len o2
    have bb2 := Below.next bb1 b2
    replace kr := kr.below b2
    have cz0 := kr.here.cell 0 _ rfl
    have cz1 := kr.here.cell 1 _ rfl
    have fz0 := Lib.frozen_of_heap kr.here 0
    have fz1 := Lib.frozen_of_heap kr.here 1
    have HO2 := Lib.hid o2
    have HK := Lib.hid kr
    clear o2 kr kb cb0 cb1 ho1
    go_wp2
    refine bodyPost_ret (v := .agg #[.bool _, .slice A2 _ c2]) (by simp [results, Tryz.results168, go_sem, cz0, cz1]; exact ⟨rfl, rfl⟩) rfl ?_
    rw [← HV.out]
    exact newS_ret HK.out.here HO2.out bb1.size (by omega) bb2
  · have ok' : okS x = false := by simpa using ok
    have HV := Lib.hid (show negS x = zeroS by unfold negS; rw [if_neg ok])
    clear ok
    go_enter Tryz.func168, Tryz.ntmps168
    go_wp2_with fail
    refine (specIntOk_any _ x _ hl hrd).mono ?_
    rintro e w1 ⟨rfl, b1⟩
    rw [ok']
    have bb1 := Below.next hbb b1
    replace kr := kr.below b1
    have cz0 := kr.here.cell 0 _ rfl
    have cz1 := kr.here.cell 1 _ rfl
    have fz0 := Lib.frozen_of_heap kr.here 0
    have fz1 := Lib.frozen_of_heap kr.here 1
    clear kb hoB hrd ho
    go_wp2
    refine bodyPost_ret (v := .agg #[.bool false, .slice none 0 0]) (by simp [results, Tryz.results168, go_sem, cz0, cz1]) rfl ?_
    rw [HV.out]
    exact newS_zero (below_set2 bb1 (by omega))

theorem trimL_limbs (m : Nat) : trimL (limbs m) = limbs m := trim_last _ (limbs_lastN m)
theorem min_limbs : limbs 9223372036854775808 = [854775808, 223372036, 9] := by
  rw [limbs_pos _ (by decide), limbs_pos _ (by decide), limbs_pos _ (by decide), limbs, dif_pos (by decide)]
  rfl
theorem ofZ_neg {n : Int} (h : n < 0) : mkS true (trimL (limbs (-n).toNat)) = ofZ n := by
  rw [trimL_limbs, mkS_limbs]
  congr 1
  simp
  omega
theorem ofZ_pos {n : Int} (h : ¬ n < 0) : mkS false (trimL (limbs n.toNat)) = ofZ n := by
  rw [trimL_limbs, mkS_limbs]
  congr 1
  simp
  omega
theorem Row.lit3 (w : World) (x y z : Value) (t : TypeId) : (w.alloc (.cells #[x, y, z] t)).ownsRow w.heap.size t 1 (.slice (some ⟨w.heap.size, 0, none⟩) 3 3) 3 [x, y, z] := by
  have h := World.ownsRow_lit (e := t) (size := 1) (base := w.heap.size) w #[x, y, z] 3 (Nat.le_refl _) (by unfold maxLen; omega) rfl
  simpa using h

set_option maxHeartbeats 1000000 in
set_option maxRecDepth 100000 in
theorem specIntOf_any (n : Int) (w : World) (h0 : -9223372036854775808 ≤ n) (h1 : n ≤ 9223372036854775807) :
    Calls Tryz.prog 66 #[.int .i64 n] w (NewS (ofZ n) w) := by
  have hbb : Below w.heap.size w (w.alloc (.cells #[.bool false, .slice none 0 0] 25)) := below_al (Below.refl _ _) _
  have kr := box_new w #[.bool false, .slice none 0 0] 25
  by_cases hmin : n = -9223372036854775808
  · subst hmin
    have HV := Lib.hid (show mkS true (trimL [854775808, 223372036, 9]) = ofZ (-9223372036854775808) by rw [← min_limbs]; exact ofZ_neg (n := -9223372036854775808) (by decide))
    have ho := Row.lit3 (w.alloc (.cells #[.bool false, .slice none 0 0] 25)) (.int .i64 854775808) (.int .i64 223372036) (.int .i64 9) 3
    rw [show (w.alloc (.cells #[.bool false, .slice none 0 0] 25)).heap.size = w.heap.size + 1 by simp] at ho
    have bb1 := below_al hbb (.cells #[.int .i64 854775808, .int .i64 223372036, .int .i64 9] 3)
    replace kr := kr.below (below_al (Below.refl _ _) (.cells #[.int .i64 854775808, .int .i64 223372036, .int .i64 9] 3))
    have HO := Lib.hid ho
    clear ho
    go_enter Tryz.func66, Tryz.ntmps66
    go_wp2_with fail
    refine (l04Make_any _ _ [854775808, 223372036, 9] (w.heap.size + 1) _ (by decide) HO.out).mono ?_
    rintro e w2 ⟨u2, rfl, o2, b2⟩
    obtain ⟨A2, c2, rfl⟩ := own_len o2
    have bb2 := Below.next bb1 b2
    replace kr := kr.below b2
    have cz0 := kr.here.cell 0 _ rfl
    have cz1 := kr.here.cell 1 _ rfl
    have fz0 := Lib.frozen_of_heap kr.here 0
    have fz1 := Lib.frozen_of_heap kr.here 1
    have HO2 := Lib.hid o2
    have HK := Lib.hid kr
    clear o2 kr
    go_wp2
    refine bodyPost_ret (v := .agg #[.bool _, .slice A2 _ c2]) (by simp [results, Tryz.results66, go_sem, cz0, cz1]; exact ⟨rfl, rfl⟩) rfl ?_
    rw [← HV.out]
    exact newS_ret HK.out.here HO2.out bb1.size (by omega) bb2
  · have hmb : (n == -9223372036854775808) = false := by rw [beq_eq_false_iff_ne]; exact hmin
    by_cases hneg : n < 0
    · have HV := Lib.hid (ofZ_neg hneg)
      have hm2 : -9223372036854775807 ≤ n := by omega
      clear hmin h0
      go_enter Tryz.func66, Tryz.ntmps66
      go_wp2_with fail
      refine (specNatOf_any (-n) _ (by omega)).mono ?_
      rintro e w1 ⟨u1, rfl, o1, b1⟩
      have bb1 := Below.next hbb b1
      replace kr := kr.below b1
      go_wp2_with fail
      refine (l04Make_any _ _ (limbs (-n).toNat) _ _ (Nat.le_trans (limbs_length_le _ 3 (by show _ < (1000000000 * (1000000000 * (1000000000 * 1)) : Int); omega)) (by decide)) o1).mono ?_
      rintro e w2 ⟨u2, rfl, o2, b2⟩
      obtain ⟨A2, c2, rfl⟩ := own_len o2
      have bb2 := Below.next bb1 b2
      replace kr := kr.below b2
      have cz0 := kr.here.cell 0 _ rfl
      have cz1 := kr.here.cell 1 _ rfl
      have fz0 := Lib.frozen_of_heap kr.here 0
      have fz1 := Lib.frozen_of_heap kr.here 1
      have HO2 := Lib.hid o2
      have HK := Lib.hid kr
      clear o2 kr o1
      go_wp2
      refine bodyPost_ret (v := .agg #[.bool _, .slice A2 _ c2]) (by simp [results, Tryz.results66, go_sem, cz0, cz1]; exact ⟨rfl, rfl⟩) rfl ?_
      rw [← HV.out]
      exact newS_ret HK.out.here HO2.out bb1.size (by omega) bb2
    · have HV := Lib.hid (ofZ_pos hneg)
      clear hmin h0
      go_enter Tryz.func66, Tryz.ntmps66
      go_wp2_with fail
      refine (specNatOf_any n _ (by omega)).mono ?_
      rintro e w1 ⟨u1, rfl, o1, b1⟩
      have bb1 := Below.next hbb b1
      replace kr := kr.below b1
      go_wp2_with fail
      refine (l04Make_any _ _ (limbs n.toNat) _ _ (Nat.le_trans (limbs_length_le _ 3 (by show _ < (1000000000 * (1000000000 * (1000000000 * 1)) : Int); omega)) (by decide)) o1).mono ?_
      rintro e w2 ⟨u2, rfl, o2, b2⟩
      obtain ⟨A2, c2, rfl⟩ := own_len o2
      have bb2 := Below.next bb1 b2
      replace kr := kr.below b2
      have cz0 := kr.here.cell 0 _ rfl
      have cz1 := kr.here.cell 1 _ rfl
      have fz0 := Lib.frozen_of_heap kr.here 0
      have fz1 := Lib.frozen_of_heap kr.here 1
      have HO2 := Lib.hid o2
      have HK := Lib.hid kr
      clear o2 kr o1
      go_wp2
      refine bodyPost_ret (v := .agg #[.bool _, .slice A2 _ c2]) (by simp [results, Tryz.results66, go_sem, cz0, cz1]; exact ⟨rfl, rfl⟩) rfl ?_
      rw [← HV.out]
      exact newS_ret HK.out.here HO2.out bb1.size (by omega) bb2
end Go.Proofs.YtcenmdiblbooeaaGreatDoor

namespace Go.Proofs.YtcenmdiblbooeaaGreatDoor
open Go.RowKit

/-- what IntNum answers -/
def numS (x : SI) : Int × Bool := if okS x = true ∧ nval x.2 ≤ 9223372036854775807 then (valS x, true) else (0, false)



end Go.Proofs.YtcenmdiblbooeaaGreatDoor

namespace Go.Proofs.YtcenmdiblbooeaaGreatDoor
open Go.RowKit

theorem At.behind {S : List Nat} {φ : World → Prop} {w w1 w2 : World} (h : At S φ w) (hb : Below w1.heap.size w1 w2) (hh : w1.heap = w.heap) : At S φ w2 :=
  (At.move (w' := w1) h (fun _ _ => by rw [hh]) (by rw [hh]; exact Nat.le_refl _)).below hb
theorem Chg.drew1 {T : List Nat} {w w1 : World} (h : Chg T w w1) : Chg T w w1.drew := ⟨h.os, h.tape, h.output, h.size, h.block⟩
theorem mk_add {n : Bool} {a b : List Int} (oa : natOkB a = true) (ob : natOkB b = true) : mkS n (trimL (addL a b 0)) = ofZ (if n = true then -(nval a + nval b) else nval a + nval b) := by
  have hv := addL_val a b 0 (natOk_parts oa).1 (natOk_parts ob).1 (by omega) (by omega)
  have h1 := nval_ok oa
  have h2 := nval_ok ob
  rw [trim_limbs _ hv.2.1, hv.1, mkS_limbs]
  congr 1
  split <;> omega
theorem mk_sub {n : Bool} {a b : List Int} (oa : natOkB a = true) (ob : natOkB b = true) (hle : nval b ≤ nval a) : mkS n (trimL (trimL (subL a b 0))) = ofZ (if n = true then -(nval a - nval b) else nval a - nval b) ∧ (subL a b 0).length = a.length := by
  have pa := natOk_parts oa
  have pb := natOk_parts ob
  have hll := len_of_le a b pa.1 ⟨pb.1, pb.2.2⟩ hle
  have hv := subL_val a b 0 pa.1 pb.1 hll (by omega) (by omega) (by omega)
  have h1 := nval_ok oa
  have h2 := nval_ok ob
  refine ⟨?_, hv.2.2⟩
  rw [trim_limbs (subL a b 0) hv.2.1, trimL_limbs, hv.1, mkS_limbs]
  congr 1
  split <;> omega

set_option maxHeartbeats 4000000 in
set_option maxRecDepth 100000 in
theorem l04Add_any (vx vy : Value) (x y : SI) (w : World) (okx : okS x = true) (oky : okS y = true) (hx : OwnS vx x w) (hy : OwnS vy y w) :
    Calls Tryz.prog 170 #[vx, vy] w (NewS (ofZ (valS x + valS y)) w) := by
  obtain ⟨ux, rfl, hox⟩ := hx
  obtain ⟨uy, rfl, hoy⟩ := hy
  obtain ⟨Ax, cx, rfl⟩ := own_len hox
  obtain ⟨Ay, cy, rfl⟩ := own_len hoy
  have px := okS_parts okx
  have py := okS_parts oky
  have DX := natOk_parts px.1
  have DY := natOk_parts py.1
  have hlx := DX.2.1
  have hly := DY.2.1
  have Dx := Lib.hid DX
  have Dy := Lib.hid DY
  obtain ⟨W0, hW0⟩ : ∃ W0, W0 = ((w.alloc (.cells #[.bool x.1, .slice Ax x.2.length cx] 25)).alloc (.cells #[.bool y.1, .slice Ay y.2.length cy] 25)).alloc (.cells #[.bool false, .slice none 0 0] 25) := ⟨_, rfl⟩
  have hbb : Below w.heap.size w W0 := by rw [hW0]; exact below_al (below_al (below_al (Below.refl _ _) _) _) _
  have h3 := alloc3 w (.cells #[.bool x.1, .slice Ax x.2.length cx] 25) (.cells #[.bool y.1, .slice Ay y.2.length cy] 25) (.cells #[.bool false, .slice none 0 0] 25)
  rw [← hW0] at h3
  have kx : At [w.heap.size] (BoxAt w.heap.size #[.bool x.1, .slice Ax x.2.length cx] 25) W0 := box_at h3.1
  have ky : At [w.heap.size + 1] (BoxAt (w.heap.size + 1) #[.bool y.1, .slice Ay y.2.length cy] 25) W0 := box_at h3.2.1
  have kr : At [w.heap.size + 1 + 1] (BoxAt (w.heap.size + 1 + 1) #[.bool false, .slice none 0 0] 25) W0 := box_at h3.2.2.1
  have atx := own_at hox
  have aty := own_at hoy
  have ltx := atx.lt
  have lty := aty.lt
  have OFx := Lib.hid (show ∀ W, Chg [w.heap.size + 1 + 1] W0 W → OwnI (.slice Ax x.2.length cx) x.2 W from fun W hc => ((atx.below hbb).chg hc (fun i hi hm => by have := ltx i hi; simp at hm; omega)).here)
  have OFy := Lib.hid (show ∀ W, Chg [w.heap.size + 1 + 1] W0 W → OwnI (.slice Ay y.2.length cy) y.2 W from fun W hc => ((aty.below hbb).chg hc (fun i hi hm => by have := lty i hi; simp at hm; omega)).here)
  have KL := Lib.hid (show ∀ W, Chg [w.heap.size + 1 + 1] W0 W → W.cell? ⟨w.heap.size, 0, none⟩ = some (.bool x.1) ∧ W.cell? ⟨w.heap.size, 1, none⟩ = some (.slice Ax x.2.length cx) ∧ W.cell? ⟨w.heap.size + 1, 0, none⟩ = some (.bool y.1) ∧ W.cell? ⟨w.heap.size + 1, 1, none⟩ = some (.slice Ay y.2.length cy) ∧ Hid (Chg [w.heap.size + 1 + 1] W0 W) from
    fun W hc => ⟨(kx.chg hc (fun i hi hm => by simp at hi hm; omega)).here.cell 0 _ rfl, (kx.chg hc (fun i hi hm => by simp at hi hm; omega)).here.cell 1 _ rfl, (ky.chg hc (fun i hi hm => by simp at hi hm; omega)).here.cell 0 _ rfl, (ky.chg hc (fun i hi hm => by simp at hi hm; omega)).here.cell 1 _ rfl, Lib.hid hc⟩)
  have HW := Lib.hid hW0
  clear h3 atx aty ltx lty DX DY hW0
  by_cases hs : x.1 = y.1
  · have HV : Hid (mkS x.1 (trimL (addL x.2 y.2 0)) = ofZ (valS x + valS y)) := Lib.hid (by
      rw [mk_add px.1 py.1]
      unfold valS
      rw [← hs]
      congr 1
      split <;> omega)
    have hsb : (x.1 == y.1) = true := by rw [hs]; simp
    have hal := (addL_val x.2 y.2 0 Dx.out.1 Dy.out.1 (by omega) (by omega)).2.2
    have cx0 := kx.here.cell 0 _ rfl
    have cx1 := kx.here.cell 1 _ rfl
    have cy0 := ky.here.cell 0 _ rfl
    have cy1 := ky.here.cell 1 _ rfl
    clear hs px py hox hoy okx oky
    go_enter Tryz.func170, Tryz.ntmps170
    go_wp2_with fail
    rw [← HW.out]
    clear cx0 cx1 cy0 cy1
    go_region_held3 (fun W => W.cell? ⟨w.heap.size, 0, none⟩ = some (.bool x.1) ∧ W.cell? ⟨w.heap.size, 1, none⟩ = some (.slice Ax x.2.length cx) ∧ W.cell? ⟨w.heap.size + 1, 0, none⟩ = some (.bool y.1) ∧ W.cell? ⟨w.heap.size + 1, 1, none⟩ = some (.slice Ay y.2.length cy) ∧ Hid (Chg [w.heap.size + 1 + 1] W0 W))
      ((refine KL.out _ ?_; (first | exact HC2.out | exact HC1.out | exact (Chg.setCell (Chg.setCell HC2.out (by simp) _) (by simp) _) | exact Chg.drew1 HC0.out | exact ⟨rfl, rfl, rfl, Nat.le_refl _, fun _ _ _ => rfl⟩ | fail)))
      (first
        | (go_at_call 166; (have hBB := (‹_ ∧ _ ∧ _ ∧ _ ∧ Hid (Chg [w.heap.size + 1 + 1] W0 _)›).2.2.2.2); (with_reducible refine (specAdd_any _ _ x.2 y.2 0 _ 0 _ _ (by omega) (by omega) (Nat.le_refl _) (Nat.le_refl _) Dx.out.1 Dy.out.1 (OFx.out _ hBB.out).row (OFy.out _ hBB.out).row).mono ?_); rintro e w3 ⟨u3, rfl, o3, b3⟩; have HC1 := Lib.hid (hBB.out.trans (Chg.of_below b3)); (have kr3 := At.behind kr b3 rfl); obtain ⟨A3, c3, rfl⟩ := own_len o3; clear hBB)
        | (go_at_call 67; (have hBB := (‹_ ∧ _ ∧ _ ∧ _ ∧ Hid (Chg [w.heap.size + 1 + 1] W0 _)›).2.2.2.2); (with_reducible refine (l04Make_any _ _ (addL x.2 y.2 0) _ _ (by omega) o3).mono ?_); rintro e w4 ⟨u4, rfl, o4, b4⟩; have HC2 := Lib.hid (hBB.out.trans (Chg.of_below b4)); (have kr4 := kr3.below b4); (have cz0 := kr4.here.cell 0 _ rfl); (have cz1 := kr4.here.cell 1 _ rfl); (have fz0 := Lib.frozen_of_heap kr4.here 0); (have fz1 := Lib.frozen_of_heap kr4.here 1); obtain ⟨A4, c4, rfl⟩ := own_len o4; clear hBB))
    have HO4 := Lib.hid o4
    have HK := Lib.hid kr4
    have HW0 := HW.out
    have hB4 : w.heap.size ≤ w3.heap.size := by have h1 := HC1.out.size; have h2 := hbb.size; omega
    have hBW : Below w.heap.size w w4 := below_chg hbb HC2.out hbb.size (fun g hg => by simp at hg; omega)
    have HB4 := Lib.hid hB4
    have HBW := Lib.hid hBW
    clear o4 kr4 kr3 o3 b3 b4 hB4 hBW kr kx ky HW0
    go_wp2
    refine bodyPost_ret (v := .agg #[.bool _, .slice A4 _ c4]) (by simp [results, Tryz.results170, go_sem, cz0, cz1]; exact ⟨rfl, rfl⟩) rfl ?_
    rw [← HV.out]
    exact newS_ret HK.out.here HO4.out HB4.out (by omega) HBW.out
  · have HS := Lib.hid hs
    have hsb : (x.1 == y.1) = false := by rw [beq_eq_false_iff_ne]; exact hs
    have h0x := nval_ok px.1
    have h0y := nval_ok py.1
    clear hs
    by_cases hle : nval y.2 ≤ nval x.2
    · have hle' : nval y.2 ≤ nval x.2 := by omega
      have hms := mk_sub (n := x.1) px.1 py.1 hle'
      have HV : Hid (mkS x.1 (trimL (trimL (subL x.2 y.2 0))) = ofZ (valS x + valS y)) := Lib.hid (by
        rw [hms.1]
        congr 1
        have hd := HS.out
        unfold valS
        cases hx1 : x.1 <;> cases hy1 : y.1 <;> simp_all <;> omega)
      have HSL := Lib.hid hms.2
      have hal := trimL_length (subL x.2 y.2 0)
      rw [hms.2] at hal
      have hz : 0 ≤ cmpI (nval x.2) (nval y.2) := by unfold cmpI; split <;> (try split) <;> omega
      have cx0 := kx.here.cell 0 _ rfl
      have cx1 := kx.here.cell 1 _ rfl
      have cy0 := ky.here.cell 0 _ rfl
      have cy1 := ky.here.cell 1 _ rfl
      have rx := (OFx.out W0 (Chg.refl _ _)).row
      have ry := (OFy.out W0 (Chg.refl _ _)).row
      clear px py hox hoy okx oky hms hle hle'
      go_enter Tryz.func170, Tryz.ntmps170
      go_wp2_with fail
      rw [← HW.out]
      refine (specCmp_any _ _ x.2 y.2 0 _ 0 _ W0 (by omega) (by omega) ⟨Dx.out.1, Dx.out.2.2⟩ ⟨Dy.out.1, Dy.out.2.2⟩ rx ry).mono ?_
      rintro e w' ⟨rfl, q, rfl⟩
      generalize cmpI (nval x.2) (nval y.2) = z at *
      clear rx ry
      obtain ⟨W1, hW1⟩ : ∃ W1, W1 = W0.drewN q := ⟨_, rfl⟩
      have HC0 := Lib.hid (show Chg [w.heap.size + 1 + 1] W0 W1 by rw [hW1]; exact ⟨rfl, rfl, rfl, Nat.le_refl _, fun _ _ _ => rfl⟩)
      replace kr := At.move (w' := W1) kr (fun _ _ => by rw [hW1]; rfl) (by rw [hW1]; exact Nat.le_refl _)
      have kl := KL.out W1 HC0.out
      have cx0' := kl.1
      have cx1' := kl.2.1
      have cy0' := kl.2.2.1
      have cy1' := kl.2.2.2.1
      rw [← hW1]
      clear hW1 kl cx0 cx1 cy0 cy1
      go_wp2_with fail
      clear cx0' cx1' cy0' cy1'
      go_region_held3 (fun W => W.cell? ⟨w.heap.size, 0, none⟩ = some (.bool x.1) ∧ W.cell? ⟨w.heap.size, 1, none⟩ = some (.slice Ax x.2.length cx) ∧ W.cell? ⟨w.heap.size + 1, 0, none⟩ = some (.bool y.1) ∧ W.cell? ⟨w.heap.size + 1, 1, none⟩ = some (.slice Ay y.2.length cy) ∧ Hid (Chg [w.heap.size + 1 + 1] W0 W))
        ((refine KL.out _ ?_; (first | exact HC2.out | exact HC1.out | exact (Chg.setCell (Chg.setCell HC2.out (by simp) _) (by simp) _) | exact Chg.drew1 HC0.out | exact ⟨rfl, rfl, rfl, Nat.le_refl _, fun _ _ _ => rfl⟩ | fail)))
        (first
          | (go_at_call 194; (have hBB := (‹_ ∧ _ ∧ _ ∧ _ ∧ Hid (Chg [w.heap.size + 1 + 1] W0 _)›).2.2.2.2); (with_reducible refine (specSub_any _ _ x.2 y.2 0 _ 0 _ _ (by omega) (by omega) (Nat.le_refl _) (Nat.le_refl _) Dx.out.1 Dy.out.1 (OFx.out _ hBB.out).row (OFy.out _ hBB.out).row HSL.out).mono ?_); rintro e w3 ⟨u3, rfl, o3, b3⟩; have HC1 := Lib.hid (hBB.out.trans (Chg.of_below b3)); (have kr3 := At.behind kr b3 rfl); obtain ⟨A3, c3, rfl⟩ := own_len o3; clear hBB)
          | (go_at_call 67; (have hBB := (‹_ ∧ _ ∧ _ ∧ _ ∧ Hid (Chg [w.heap.size + 1 + 1] W0 _)›).2.2.2.2); (with_reducible refine (l04Make_any _ _ (trimL (subL x.2 y.2 0)) _ _ (by omega) o3).mono ?_); rintro e w4 ⟨u4, rfl, o4, b4⟩; have HC2 := Lib.hid (hBB.out.trans (Chg.of_below b4)); (have kr4 := kr3.below b4); (have cz0 := kr4.here.cell 0 _ rfl); (have cz1 := kr4.here.cell 1 _ rfl); (have fz0 := Lib.frozen_of_heap kr4.here 0); (have fz1 := Lib.frozen_of_heap kr4.here 1); obtain ⟨A4, c4, rfl⟩ := own_len o4; clear hBB))
      have HO4 := Lib.hid o4
      have HK := Lib.hid kr4
      have HW0 := HW.out
      have hB4 : w.heap.size ≤ w3.heap.size := by have h1 := HC1.out.size; have h2 := hbb.size; omega
      have hBW : Below w.heap.size w w4 := below_chg hbb HC2.out hbb.size (fun g hg => by simp at hg; omega)
      have HB4 := Lib.hid hB4
      have HBW := Lib.hid hBW
      clear o4 kr4 kr3 o3 b3 b4 hB4 hBW kr kx ky HW0
      go_wp2
      refine bodyPost_ret (v := .agg #[.bool _, .slice A4 _ c4]) (by simp [results, Tryz.results170, go_sem, cz0, cz1]; exact ⟨rfl, rfl⟩) rfl ?_
      rw [← HV.out]
      exact newS_ret HK.out.here HO4.out HB4.out (by omega) HBW.out
    · have hle' : nval x.2 ≤ nval y.2 := by omega
      have hms := mk_sub (n := y.1) py.1 px.1 hle'
      have HV : Hid (mkS y.1 (trimL (trimL (subL y.2 x.2 0))) = ofZ (valS x + valS y)) := Lib.hid (by
        rw [hms.1]
        congr 1
        have hd := HS.out
        unfold valS
        cases hx1 : x.1 <;> cases hy1 : y.1 <;> simp_all <;> omega)
      have HSL := Lib.hid hms.2
      have hal := trimL_length (subL y.2 x.2 0)
      rw [hms.2] at hal
      have hz : cmpI (nval x.2) (nval y.2) < 0 := by unfold cmpI; split <;> (try split) <;> omega
      have cx0 := kx.here.cell 0 _ rfl
      have cx1 := kx.here.cell 1 _ rfl
      have cy0 := ky.here.cell 0 _ rfl
      have cy1 := ky.here.cell 1 _ rfl
      have rx := (OFx.out W0 (Chg.refl _ _)).row
      have ry := (OFy.out W0 (Chg.refl _ _)).row
      clear px py hox hoy okx oky hms hle hle'
      go_enter Tryz.func170, Tryz.ntmps170
      go_wp2_with fail
      rw [← HW.out]
      refine (specCmp_any _ _ x.2 y.2 0 _ 0 _ W0 (by omega) (by omega) ⟨Dx.out.1, Dx.out.2.2⟩ ⟨Dy.out.1, Dy.out.2.2⟩ rx ry).mono ?_
      rintro e w' ⟨rfl, q, rfl⟩
      generalize cmpI (nval x.2) (nval y.2) = z at *
      clear rx ry
      obtain ⟨W1, hW1⟩ : ∃ W1, W1 = W0.drewN q := ⟨_, rfl⟩
      have HC0 := Lib.hid (show Chg [w.heap.size + 1 + 1] W0 W1 by rw [hW1]; exact ⟨rfl, rfl, rfl, Nat.le_refl _, fun _ _ _ => rfl⟩)
      replace kr := At.move (w' := W1) kr (fun _ _ => by rw [hW1]; rfl) (by rw [hW1]; exact Nat.le_refl _)
      have kl := KL.out W1 HC0.out
      have cx0' := kl.1
      have cx1' := kl.2.1
      have cy0' := kl.2.2.1
      have cy1' := kl.2.2.2.1
      rw [← hW1]
      clear hW1 kl cx0 cx1 cy0 cy1
      go_wp2_with fail
      clear cx0' cx1' cy0' cy1'
      go_region_held3 (fun W => W.cell? ⟨w.heap.size, 0, none⟩ = some (.bool x.1) ∧ W.cell? ⟨w.heap.size, 1, none⟩ = some (.slice Ax x.2.length cx) ∧ W.cell? ⟨w.heap.size + 1, 0, none⟩ = some (.bool y.1) ∧ W.cell? ⟨w.heap.size + 1, 1, none⟩ = some (.slice Ay y.2.length cy) ∧ Hid (Chg [w.heap.size + 1 + 1] W0 W))
        ((refine KL.out _ ?_; (first | exact HC2.out | exact HC1.out | exact (Chg.setCell (Chg.setCell HC2.out (by simp) _) (by simp) _) | exact Chg.drew1 HC0.out | exact ⟨rfl, rfl, rfl, Nat.le_refl _, fun _ _ _ => rfl⟩ | fail)))
        (first
          | (go_at_call 194; (have hBB := (‹_ ∧ _ ∧ _ ∧ _ ∧ Hid (Chg [w.heap.size + 1 + 1] W0 _)›).2.2.2.2); (with_reducible refine (specSub_any _ _ y.2 x.2 0 _ 0 _ _ (by omega) (by omega) (Nat.le_refl _) (Nat.le_refl _) Dy.out.1 Dx.out.1 (OFy.out _ hBB.out).row (OFx.out _ hBB.out).row HSL.out).mono ?_); rintro e w3 ⟨u3, rfl, o3, b3⟩; have HC1 := Lib.hid (hBB.out.trans (Chg.of_below b3)); (have kr3 := At.behind kr b3 rfl); obtain ⟨A3, c3, rfl⟩ := own_len o3; clear hBB)
          | (go_at_call 67; (have hBB := (‹_ ∧ _ ∧ _ ∧ _ ∧ Hid (Chg [w.heap.size + 1 + 1] W0 _)›).2.2.2.2); (with_reducible refine (l04Make_any _ _ (trimL (subL y.2 x.2 0)) _ _ (by omega) o3).mono ?_); rintro e w4 ⟨u4, rfl, o4, b4⟩; have HC2 := Lib.hid (hBB.out.trans (Chg.of_below b4)); (have kr4 := kr3.below b4); (have cz0 := kr4.here.cell 0 _ rfl); (have cz1 := kr4.here.cell 1 _ rfl); (have fz0 := Lib.frozen_of_heap kr4.here 0); (have fz1 := Lib.frozen_of_heap kr4.here 1); obtain ⟨A4, c4, rfl⟩ := own_len o4; clear hBB))
      have HO4 := Lib.hid o4
      have HK := Lib.hid kr4
      have HW0 := HW.out
      have hB4 : w.heap.size ≤ w3.heap.size := by have h1 := HC1.out.size; have h2 := hbb.size; omega
      have hBW : Below w.heap.size w w4 := below_chg hbb HC2.out hbb.size (fun g hg => by simp at hg; omega)
      have HB4 := Lib.hid hB4
      have HBW := Lib.hid hBW
      clear o4 kr4 kr3 o3 b3 b4 hB4 hBW kr kx ky HW0
      go_wp2
      refine bodyPost_ret (v := .agg #[.bool _, .slice A4 _ c4]) (by simp [results, Tryz.results170, go_sem, cz0, cz1]; exact ⟨rfl, rfl⟩) rfl ?_
      rw [← HV.out]
      exact newS_ret HK.out.here HO4.out HB4.out (by omega) HBW.out



theorem mk_mul {n m : Bool} {a b L : List Int} (hL : trimL L = limbs (nval a * nval b).toNat) (oa : natOkB a = true) (ob : natOkB b = true) : mkS (n != m) (trimL L) = ofZ (valS (n, a) * valS (m, b)) := by
  have h1 := nval_ok oa
  have h2 := nval_ok ob
  have h3 := Int.mul_nonneg h1 h2
  rw [hL, mkS_limbs]
  congr 1
  unfold valS
  cases n <;> cases m <;> simp [Int.toNat_of_nonneg h3, Int.mul_neg, Int.neg_mul] <;> omega
def MulPost (z : Int) (w : World) (e : Ending) (w' : World) : Prop := ∃ L, trimL L = limbs z.toNat ∧ L.length ≤ 200 ∧ NewInts L w e w'
theorem l02Mul_ok (va vb : Value) (a b : List Int) (w : World) (oa : natOkB a = true) (ob : natOkB b = true) (hra : Row w 0 w.heap.size va (intsV a)) (hrb : Row w 0 w.heap.size vb (intsV b)) :
    Calls Tryz.prog 169 #[va, vb] w (MulPost (nval a * nval b) w) := by
  have pa := natOk_parts oa
  have pb := natOk_parts ob
  by_cases h0 : a.length = 0 ∨ b.length = 0
  · refine (specMul_nil va vb a b _ _ _ _ w pa.2.1 pb.2.1 h0 hra hrb).mono fun e w' h => ⟨[], ?_, by simp, h⟩
    have hz : nval a * nval b = 0 := by
      rcases h0 with h0 | h0
      · rw [List.eq_nil_of_length_eq_zero h0]; exact Int.zero_mul _
      · rw [List.eq_nil_of_length_eq_zero h0]; exact Int.mul_zero _
    rw [hz]
    show _ = limbs 0
    rw [limbs_none]
    rfl
  · have hv := mul_val' a b pa.1 pb.1
    refine (specMul_any va vb a b _ _ _ _ w pa.2.1 pb.2.1 (by omega) (by omega) (Nat.le_refl _) (Nat.le_refl _) pa.1 pb.1 hra hrb).mono fun e w' h => ⟨_, ?_, ?_, h⟩
    · rw [trim_limbs _ hv.2.1, trimL_limbs, hv.1]
    · have := trimL_length (mulL a b (List.replicate (a.length + b.length) 0))
      have h1 := hv.2.2
      have h2 := pa.2.1
      have h3 := pb.2.1
      omega

end Go.Proofs.YtcenmdiblbooeaaGreatDoor

namespace Go.Proofs.YtcenmdiblbooeaaGreatDoor
open Go.RowKit

/-- the state of l05Gcd's loop -/
def GcdR (w : World) (G : Nat) (n : Nat) (x y : Value) (wr : World) : Prop :=
  ∃ X Y : Nat, n = Y ∧ Nat.gcd X Y = G ∧ (limbs X).length ≤ 50 ∧ (limbs Y).length ≤ 50 ∧ wr.ownsRow 0 3 1 x (limbs X).length (intsV (limbs X)) ∧ wr.ownsRow 0 3 1 y (limbs Y).length (intsV (limbs Y)) ∧ Below w.heap.size w wr
set_option maxHeartbeats 1000000 in
set_option maxRecDepth 100000 in
theorem l05Gcd_any (va vb : Value) (X0 Y0 : Nat) (w : World) (hX0 : (limbs X0).length ≤ 50) (hY0 : (limbs Y0).length ≤ 50) (oa : OwnI va (limbs X0) w) (ob : OwnI vb (limbs Y0) w) :
    Calls Tryz.prog 196 #[va, vb] w fun e w' => ∃ v, e = .returned v ∧ OwnI v (limbs (Nat.gcd X0 Y0)) w' ∧ Below w.heap.size w w' := by
  have HS : Hid (GcdR w (Nat.gcd X0 Y0) Y0 va vb w) := Lib.hid ⟨X0, Y0, rfl, rfl, hX0, hY0, oa, ob, Below.refl _ _⟩
  clear oa ob
  go_enter Tryz.func196, Tryz.ntmps196
  go_wp2
  go_loopg [5, 6] Y0 (fun n x y wr => GcdR w (Nat.gcd X0 Y0) n x y wr)
  case atStart => exact HS.out
  case round =>
    clear HS hX0 hY0
    obtain ⟨X, Y, hn, hG, hX, hY, ox, oy, hb⟩ := hrel
    have HNE := Lib.hid hn
    have HG := Lib.hid hG
    clear hn hG
    have oy0 := oy
    obtain ⟨B, c, rfl⟩ := own_len oy
    by_cases hpos : 0 < (limbs Y).length
    · have hY0 := limbs_some hpos
      go_wp2_with fail
      refine (specDiv_any _ _ (limbs X) (limbs Y) _ _ _ _ _ hX hY hpos (Nat.le_refl _) (Nat.le_refl _) (limbs_digN _) ⟨limbs_digN _, limbs_lastN _⟩ (Row.of_own ox) (Row.of_own oy0)).mono ?_
      rintro e w3 ⟨v3, v4, rfl, o3, o4, _, b3⟩
      rw [limbs_val, limbs_val, show ((X : Int) % (Y : Int)).toNat = X % Y by omega] at o4
      have HS2 : Hid (GcdR w (Nat.gcd X0 Y0) (X % Y) (.slice B (limbs Y).length c) v4 w3) := Lib.hid ⟨Y, X % Y, rfl, by rw [gcd_step]; exact HG.out, hY, limbs_mod_len X Y hY hY0, own_below oy0 b3, own_zero o4, Below.next hb b3⟩
      clear ox oy oy0 o3 o4
      go_wp2
      go_roundg (X % Y)
      case measure => rw [HNE.out]; exact Nat.mod_lt X hY0
      case rel => exact HS2.out
    · have hY0 := Lib.hid (limbs_empty hpos)
      have HF : Hid (X = Nat.gcd X0 Y0) := Lib.hid (by have := HG.out; rw [hY0.out, Nat.gcd_zero_right] at this; exact this)
      go_wp2
      go_ret
      exact ⟨_, rfl, by rw [← HF.out]; exact ox, hb⟩
end Go.Proofs.YtcenmdiblbooeaaGreatDoor

namespace Go.Proofs.YtcenmdiblbooeaaGreatDoor
open Go.RowKit
theorem one_val : nval [1] = 1 := rfl
theorem one_dig : DigN [1] ∧ [(1 : Int)].getLastD 1 ≠ 0 := by
  refine ⟨fun d hd => ?_, by decide⟩
  simp at hd
  omega
theorem one_limbs : limbs 1 = [1] := by rw [limbs, dif_neg (by decide), show 1 / 1000000000 = 0 from rfl, limbs, dif_pos rfl]; rfl
/-- a slice literal in its block -/
theorem box_row {g : Nat} {cs : Array Value} {T : TypeId} {w : World} (h : BoxAt g cs T w) : Row w 0 w.heap.size (.slice (some ⟨g, 0, none⟩) cs.size cs.size) cs.toList := by
  have hg := (Array.getElem?_eq_some_iff.1 h).1
  refine ⟨some ⟨g, 0, none⟩, cs.size, by simp, fun j u hj => ⟨⟨g, 0, none⟩, rfl, Nat.zero_le _, hg, ?_⟩⟩
  have e1 : (Addr.add ⟨g, 0, none⟩ j) = ⟨g, j, none⟩ := by
    unfold Addr.add
    cases j with
    | zero => rfl
    | succ n => simp
  rw [e1, Lib.cell_of_heap h]
  simpa using hj
theorem gcdN_small (a b : List Int) : (gcdN a b).length ≤ 50 := by
  unfold gcdN
  split
  · rename_i h
    have pa := natOk_limbs h.1
    have pb := natOk_limbs h.2
    have la := (natOk_parts h.1).2.1
    have lb := (natOk_parts h.2).2.1
    have na := nval_ok h.1
    have nb := nval_ok h.2
    by_cases h0 : 0 < (nval a).toNat
    · have hm := limbs_mono (m := ((Nat.gcd (nval a).toNat (nval b).toNat : Nat) : Int)) (n := nval a) (by omega) (by have := Nat.gcd_le_left (nval b).toNat h0; omega)
      rw [Int.toNat_natCast, ← pa] at hm
      omega
    · rw [show (nval a).toNat = 0 by omega, Nat.gcd_zero_left, ← pb]
      exact lb
  · simp
theorem gcd_one_iff {x : QI} (h1 : natOkB x.1.2 = true) (h2 : natOkB x.2 = true) : (cmpI (nval (gcdN x.1.2 x.2)) (nval [1]) = 0) ↔ Nat.gcd (nval x.1.2).toNat (nval x.2).toNat = 1 := by
  unfold gcdN
  rw [if_pos ⟨h1, h2⟩, limbs_val, one_val]
  unfold cmpI
  split
  · omega
  · split <;> omega
set_option maxHeartbeats 1000000 in
set_option maxRecDepth 100000 in
theorem specRatOk_any (v : Value) (x : QI) (w : World) (hz : szQ x ≤ 1048576) (h : OwnQ v x w) :
    Calls Tryz.prog 127 #[v] w (Postb (okQ x) w) := by
  obtain ⟨u, d, rfl, ou, od, hap⟩ := h
  obtain ⟨A, c, rfl⟩ := own_len ou
  obtain ⟨B, f, rfl⟩ := own_len od
  have hl := szQ_len hz
  have hl1 := hl.1
  have hl2 := hl.2
  have bb0 : Below w.heap.size w (w.alloc (.cells #[.bool x.1.1, .slice A x.1.2.length c, .slice B x.2.length f] 51)) := below_al (Below.refl _ _) _
  have kr := box_new w #[.bool x.1.1, .slice A x.1.2.length c, .slice B x.2.length f] 51
  have OU := Lib.hid (show ∀ W, Below w.heap.size w W → OwnI (.slice A x.1.2.length c) x.1.2 W from fun W hb => own_below ou hb)
  have OD := Lib.hid (show ∀ W, Below w.heap.size w W → OwnI (.slice B x.2.length f) x.2 W from fun W hb => own_below od hb)
  clear ou od hap hl hz
  have kr_c0 := kr.here.cell 0 _ rfl
  have kr_c1 := kr.here.cell 1 _ rfl
  go_enter Tryz.func127, Tryz.ntmps127
  go_wp2_with fail
  refine (specIntOk_any _ x.1 _ hl1 (OwnS.rd (OwnS.mk (x := x.1) (OU.out _ bb0)))).mono ?_
  rintro e w1 ⟨rfl, b1⟩
  have bb1 := Below.next bb0 b1
  replace kr := kr.below b1
  clear kr_c0 kr_c1
  by_cases ok1 : okS x.1 = true
  · rw [ok1]
    have HO1 := Lib.hid ok1
    have kr_c0 := kr.here.cell 0 _ rfl
    have kr_c1 := kr.here.cell 1 _ rfl
    have kr_c2 := kr.here.cell 2 _ rfl
    clear ok1
    go_wp2_with fail
    refine (specNatOk_any _ x.2 _ _ _ hl2 (OD.out _ bb1).row).mono ?_
    rintro e w2 ⟨rfl, rfl⟩
    by_cases ok2 : natOkB x.2 = true
    · rw [ok2]
      have HO2 := Lib.hid ok2
      clear ok2
      by_cases hs : 0 < x.2.length ∧ x.2.length ≤ 18 ∧ x.1.2.length ≤ 18
      · have h1 : ((x.2.length : Int) == 0) = false := by rw [beq_eq_false_iff_ne]; omega
        have h2 : decide ((18 : Int) < (x.2.length : Int)) = false := decide_eq_false (by omega)
        have h3 : decide ((18 : Int) < (x.1.2.length : Int)) = false := decide_eq_false (by omega)
        have HG := Lib.hid (gcd_one_iff (okS_parts HO1.out).1 HO2.out)
        have HV := Lib.hid (show okQ x = decide (Nat.gcd (nval x.1.2).toNat (nval x.2).toNat = 1) by unfold okQ; rw [HO1.out, HO2.out]; simp [hs])
        have hgl : (gcdN x.1.2 x.2).length ≤ 1048576 := by have := gcdN_small x.1.2 x.2; omega
        have HD := Lib.hid (show DigN (gcdN x.1.2 x.2) ∧ (gcdN x.1.2 x.2).getLastD 1 ≠ 0 by unfold gcdN; split; exact ⟨limbs_digN _, limbs_lastN _⟩; exact ⟨fun d hd => (by cases hd), by decide⟩)
        clear hs
        go_wp2_with fail
        refine (specNatGcd_any _ _ x.1.2 x.2 0 _ 0 _ _ hl1 hl2 (Nat.le_refl _) (Nat.le_refl _) (own_noCap (OU.out _ bb1)) (own_noCap (OD.out _ bb1)) (OU.out _ bb1).row (OD.out _ bb1).row).mono ?_
        rintro e w2 ⟨v2, rfl, o2, b2⟩
        have bb2 := Below.next bb1 b2
        go_wp2_with fail
        have hrow := box_row (box_new w2 #[.int .i64 1] 3).here
        have o2' := own_up o2 (below_al (Below.refl _ _) (.cells #[.int .i64 1] 3))
        refine (specCmp_any _ _ (gcdN x.1.2 x.2) [1] _ _ _ _ _ hgl (by decide) HD.out one_dig (Row.of_own o2') hrow).mono ?_
        rintro e w3 ⟨rfl, q3, rfl⟩
        have HB := Lib.hid (Below.next bb2 (below_al (Below.refl _ _) (.cells #[.int .i64 1] 3)))
        have HZ : (cmpI (nval (gcdN x.1.2 x.2)) (nval [1]) == 0) = okQ x := by
          rw [HV.out]
          by_cases hg : cmpI (nval (gcdN x.1.2 x.2)) (nval [1]) = 0
          · rw [decide_eq_true (HG.out.1 hg), hg]; rfl
          · rw [decide_eq_false (fun e => hg (HG.out.2 e)), beq_eq_false_iff_ne]; exact hg
        generalize cmpI (nval (gcdN x.1.2 x.2)) (nval [1]) = z at *
        generalize okQ x = b at *
        clear o2 o2' hrow hgl h1 h2 h3 hl1 hl2 HG HV
        go_wp2
        go_ret
        exact ⟨rfl, below_drewN HB.out q3⟩
      · have HV := Lib.hid (show okQ x = false by unfold okQ; rw [HO1.out, HO2.out, decide_eq_false (fun h => hs ⟨h.1, h.2.1, h.2.2.1⟩)]; rfl)
        by_cases g1 : 0 < x.2.length
        · have h1 : ((x.2.length : Int) == 0) = false := by rw [beq_eq_false_iff_ne]; omega
          by_cases g2 : x.2.length ≤ 18
          · have h2 : decide ((18 : Int) < (x.2.length : Int)) = false := decide_eq_false (by omega)
            have h3 : decide ((18 : Int) < (x.1.2.length : Int)) = true := decide_eq_true (by omega)
            clear hs g1 g2
            go_wp2
            go_ret
            exact ⟨ret_bool HV.out.symm, bb1⟩
          · have h2 : decide ((18 : Int) < (x.2.length : Int)) = true := decide_eq_true (by omega)
            clear hs g1 g2
            go_wp2
            go_ret
            exact ⟨ret_bool HV.out.symm, bb1⟩
        · have h1 : ((x.2.length : Int) == 0) = true := by rw [beq_iff_eq]; omega
          clear hs g1
          go_wp2
          go_ret
          exact ⟨ret_bool HV.out.symm, bb1⟩
    · have ok2' : natOkB x.2 = false := by simpa using ok2
      have HV := Lib.hid (show okQ x = false by unfold okQ; rw [HO1.out, ok2']; rfl)
      rw [ok2']
      clear ok2 ok2'
      go_wp2
      go_ret
      exact ⟨ret_bool HV.out.symm, bb1⟩
  · have ok1' : okS x.1 = false := by simpa using ok1
    have HV := Lib.hid (show okQ x = false by unfold okQ; rw [ok1']; rfl)
    rw [ok1']
    clear ok1 ok1'
    go_wp2
    go_ret
    exact ⟨ret_bool HV.out.symm, bb1⟩
end Go.Proofs.YtcenmdiblbooeaaGreatDoor

namespace Go.Proofs.YtcenmdiblbooeaaGreatDoor
open Go.RowKit
theorem trim_ok (n : Nat) : trimL (limbs n) = limbs n := trim_last _ (limbs_lastN n)
theorem oneCells (l : List Int) : ∀ u ∈ intsV l, u.oneCell' = true := fun u hu => by obtain ⟨x, _, rfl⟩ := List.mem_map.1 hu; rfl
/-- a struct result that lies in its cells at block r: a new value and a bool with it -/
theorem newQb_ret {r : Nat} {u d c0 c1 c2 : Value} {x : QI} {b : Bool} {w W : World} {B C : Nat} (hb : BoxAt r #[c0, c1, c2] 51 W) (o : W.ownsRow B 3 1 u x.1.2.length (intsV x.1.2)) (p : W.ownsRow C 3 1 d x.2.length (intsV x.2))
    (hap : ∀ g, u.ownBlock = some g → d.ownBlock ≠ some g) (hB : w.heap.size ≤ B) (hC : w.heap.size ≤ C) (hr : w.heap.size ≤ r) (hW : Below w.heap.size w W) :
    PostQb x b w (.returned (.tuple #[.agg #[.bool x.1.1, u, d], .bool b])) (((W.setCell ⟨r, 0, none⟩ (.bool x.1.1)).setCell ⟨r, 1, none⟩ u).setCell ⟨r, 2, none⟩ d) := by
  have hn1 := Lib.ownBlock_ne o hb (by decide)
  have hn2 := Lib.ownBlock_ne p hb (by decide)
  have hc : Chg [r] W (((W.setCell ⟨r, 0, none⟩ (.bool x.1.1)).setCell ⟨r, 1, none⟩ u).setCell ⟨r, 2, none⟩ d) := (((Chg.refl _ _).setCell (by simp) _).setCell (by simp) _).setCell (by simp) _
  have hz := hc.size
  refine ⟨_, partsB u d, rfl, (partsQ_at o p hap).chg hc (fun i hi hm => ?_), fun i hi => ?_, below_set3 hW hr⟩
  · simp at hm
    subst hm
    rcases List.mem_append.1 hi with hi | hi
    · exact hn1 (by simpa using hi)
    · exact hn2 (by simpa using hi)
  · rcases List.mem_append.1 hi with hi | hi
    · have := own_lt o (g := i) (by simpa using hi)
      omega
    · have := own_lt p (g := i) (by simpa using hi)
      omega
theorem ownQ_zero (w : World) : OwnQ (.agg #[.bool false, .slice none 0 0, .slice none 0 0]) zeroQ w := ⟨_, _, rfl, World.ownsRow_nil _ _ _ _, World.ownsRow_nil _ _ _ _, fun g hg => by cases hg⟩
theorem newQb_zero {w W : World} (b : Bool) (hW : Below w.heap.size w W) : PostQb zeroQ b w (.returned (.tuple #[.agg #[.bool false, .slice none 0 0, .slice none 0 0], .bool b])) W :=
  ⟨_, [], rfl, ⟨ownQ_zero _, (fun g hg => by cases hg), fun w' _ => ownQ_zero _⟩, (fun g hg => by cases hg), hW⟩
theorem div_toNat (a b : Nat) : ((a : Int) / (b : Int)).toNat = a / b := by rw [← Int.natCast_ediv]; exact Int.toNat_natCast _
set_option maxHeartbeats 1000000 in
set_option maxRecDepth 100000 in
theorem l05Low_any (n : Bool) (va vb : Value) (X Y : Nat) (w : World) (hX : (limbs X).length ≤ 50) (hY : (limbs Y).length ≤ 50) (oa : OwnI va (limbs X) w) (ob : OwnI vb (limbs Y) w) :
    Calls Tryz.prog 167 #[.bool n, va, vb] w (PostQb (lowQ n X Y).1 (lowQ n X Y).2 w) := by
  obtain ⟨i0, hi0, hz0, hz1, hz2⟩ := info_parts intInfo
  have bb0 := below_al (Below.refl w.heap.size w) (.cells #[.bool false, .slice none 0 0, .slice none 0 0] 51)
  have kr := box_new w #[.bool false, .slice none 0 0, .slice none 0 0] 51
  have oa1 := own_up oa bb0
  have ob1 := own_up ob bb0
  clear oa ob
  go_enter Tryz.func167, Tryz.ntmps167
  go_wp2_with fail
  refine (specTrim_any _ _ _ _ (by omega) oa1).mono ?_
  rintro e w1 ⟨rfl, v1, rfl, o1⟩
  rw [trim_ok] at o1
  go_wp2_with fail
  refine (specTrim_any _ _ _ _ (by omega) ob1).mono ?_
  rintro e w1 ⟨rfl, v2, rfl, o2⟩
  rw [trim_ok] at o2
  obtain ⟨A1, c1, rfl⟩ := own_len o1
  obtain ⟨A2, c2, rfl⟩ := own_len o2
  clear oa1 ob1
  by_cases hy : 0 < (limbs Y).length
  · have h1 : (((limbs Y).length : Int) == 0) = false := by rw [beq_eq_false_iff_ne]; omega
    have hY0 := limbs_some hy
    go_wp2_with fail
    refine (l05Gcd_any _ _ X Y _ hX hY o1 o2).mono ?_
    rintro e w3 ⟨v3, rfl, o3, b3⟩
    have bb3 := Below.next bb0 b3
    replace kr := kr.below b3
    replace o1 := own_up o1 b3
    replace o2 := own_up o2 b3
    have HG := Lib.hid (Nat.gcd_pos_of_pos_right X hY0)
    have hgl : (limbs (Nat.gcd X Y)).length ≤ 50 := by
      have := limbs_mono (m := ((Nat.gcd X Y : Nat) : Int)) (n := (Y : Int)) (by omega) (by have := Nat.gcd_le_right X hY0; omega)
      rw [Int.toNat_natCast, Int.toNat_natCast] at this
      omega
    have hg0 : 0 < (limbs (Nat.gcd X Y)).length := by
      rcases Nat.eq_zero_or_pos (limbs (Nat.gcd X Y)).length with h | h
      · have := (limbs_zero_iff _).1 h
        have := HG.out
        omega
      · exact h
    have HLOW := Lib.hid (show lowQ n X Y = if (limbs (X / Nat.gcd X Y)).length ≤ 18 ∧ (limbs (Y / Nat.gcd X Y)).length ≤ 18 then ((mkS n (limbs (X / Nat.gcd X Y)), limbs (Y / Nat.gcd X Y)), true) else (zeroQ, false) by unfold lowQ; simp [show Y ≠ 0 by omega])
    clear hy hY0
    go_wp2_with fail
    refine (specDiv_any _ _ (limbs X) (limbs (Nat.gcd X Y)) _ _ _ _ _ hX hgl hg0 (Nat.le_refl _) (Nat.le_refl _) (limbs_digN _) ⟨limbs_digN _, limbs_lastN _⟩ (Row.of_own o1) (Row.of_own o3)).mono ?_
    rintro e w4 ⟨v4, v5, rfl, o4, o5, _, b4⟩
    rw [limbs_val, limbs_val, div_toNat] at o4
    have bb4 := Below.next bb3 b4
    replace kr := kr.below b4
    replace o2 := own_up o2 b4
    replace o3 := own_up o3 b4
    clear o1 o5
    go_wp2_with fail
    refine (specDiv_any _ _ (limbs Y) (limbs (Nat.gcd X Y)) _ _ _ _ _ hY hgl hg0 (Nat.le_refl _) (Nat.le_refl _) (limbs_digN _) ⟨limbs_digN _, limbs_lastN _⟩ (Row.of_own o2) (Row.of_own o3)).mono ?_
    rintro e w5 ⟨v6, v7, rfl, o6, o7, _, b5⟩
    rw [limbs_val, limbs_val, div_toNat] at o6
    have bb5 := Below.next bb4 b5
    replace kr := kr.below b5
    replace o4 := own_up o4 b5
    obtain ⟨A4, c4, rfl⟩ := own_len o4
    obtain ⟨A6, c6, rfl⟩ := own_len o6
    clear o2 o3 o7 hg0 hgl
    have hz5 := b5.size
    have hz4 := b4.size
    have hz3 := b3.size
    by_cases hp : (limbs (X / Nat.gcd X Y)).length ≤ 18
    · have h2 : decide ((18 : Int) < ((limbs (X / Nat.gcd X Y)).length : Int)) = false := decide_eq_false (by omega)
      by_cases hq : (limbs (Y / Nat.gcd X Y)).length ≤ 18
      · have h3 : decide ((18 : Int) < ((limbs (Y / Nat.gcd X Y)).length : Int)) = false := decide_eq_false (by omega)
        have HV := Lib.hid (show lowQ n X Y = ((mkS n (limbs (X / Nat.gcd X Y)), limbs (Y / Nat.gcd X Y)), true) by rw [HLOW.out, if_pos ⟨hp, hq⟩])
        go_wp2_with fail
        refine (l04Make_any n _ (limbs (X / Nat.gcd X Y)) _ _ (by omega) o4).mono ?_
        rintro e w6 ⟨u6, rfl, o8, b6⟩
        rw [trim_ok] at o8 ⊢
        have bb6 := Below.next bb5 b6
        replace kr := kr.below b6
        replace o6 := own_up o6 b6
        obtain ⟨A8, c8, rfl⟩ := own_len o8
        clear hp h2 h3 o4
        have HONE := Lib.hid oneCells
        go_wp2_with (at_builtin; refine append_row rfl _ _ 23 rfl w6.heap.size 3 i0 (.int .i64 0) 8 Tryz.underlying23 hi0 hz0 hz1 hz2 rfl _ 0 [] rfl (World.ownsRow_made w6 #[] 0 (Nat.le_refl _) (Nat.zero_le _) rfl) _ _ _ (intsV (limbs (Y / Nat.gcd X Y))) rfl ((Row.of_own o6).below (below_al (Below.refl _ _) _) (Nat.le_refl _)) (own_noCap o6) (HONE.out _) ?c3 ?c4 ?c5 ?_)
        case c3 => rw [intsV_length]; unfold maxLen; omega
        case c4 => rw [intsV_length]; omega
        case c5 => simp
        intro v9 w7 o9 g9
        have b7 : Below w6.heap.size w6 w7 := ((Below.refl _ w6).alloc (Nat.le_refl _) _).grown g9 (by simp) (fun k hk => by cases hk; exact Nat.le_refl _)
        have bb7 := Below.next bb6 b7
        have hz6 := b6.size
        replace kr := kr.below b7
        have hap : ∀ g, (Value.slice A8 (mkS n (limbs (X / Nat.gcd X Y))).2.length c8).ownBlock = some g → v9.ownBlock ≠ some g := fun g h1 h2 => by
          have := (own_lt o8 h1).2
          have := (own_lt o9 h2).1
          omega
        replace o8 := own_up o8 b7
        replace o9 : w7.ownsRow w6.heap.size 3 1 v9 (limbs (Y / Nat.gcd X Y)).length (intsV (limbs (Y / Nat.gcd X Y))) := by simpa [intsV_length] using o9
        obtain ⟨A9, c9, rfl⟩ := own_len o9
        have cz0 := kr.here.cell 0 _ rfl
        have cz1 := kr.here.cell 1 _ rfl
        have cz2 := kr.here.cell 2 _ rfl
        have fz0 := Lib.frozen_of_heap kr.here 0
        have fz1 := Lib.frozen_of_heap kr.here 1
        have fz2 := Lib.frozen_of_heap kr.here 2
        have HR := Lib.hid (newQb_ret (x := (mkS n (limbs (X / Nat.gcd X Y)), limbs (Y / Nat.gcd X Y))) (b := true) kr.here o8 o9 hap bb5.size bb6.size (Nat.le_refl _) bb7)
        clear g9 b7 hap o8 o9 o6 kr HONE hq
        go_wp2
        refine bodyPost_ret (v := .tuple #[.agg #[.bool _, .slice A8 _ c8, .slice A9 _ c9], .bool true]) (by simp [results, Tryz.results167, go_sem, cz0, cz1, cz2]; exact ⟨rfl, rfl, rfl⟩) rfl ?_
        rw [HV.out]
        exact HR.out
      · have h3 : decide ((18 : Int) < ((limbs (Y / Nat.gcd X Y)).length : Int)) = true := decide_eq_true (by omega)
        have HV := Lib.hid (show lowQ n X Y = (zeroQ, false) by rw [HLOW.out, if_neg (fun h => hq h.2)])
        have cz0 := kr.here.cell 0 _ rfl
        have cz1 := kr.here.cell 1 _ rfl
        have cz2 := kr.here.cell 2 _ rfl
        have fz0 := Lib.frozen_of_heap kr.here 0
        have fz1 := Lib.frozen_of_heap kr.here 1
        have fz2 := Lib.frozen_of_heap kr.here 2
        clear hp hq o4 o6 kr
        go_wp2
        refine bodyPost_ret (v := .tuple #[.agg #[.bool false, .slice none 0 0, .slice none 0 0], .bool false]) (by simp [results, Tryz.results167, go_sem, cz0, cz1, cz2]) rfl ?_
        rw [HV.out]
        exact newQb_zero _ (below_set3 bb5 (Nat.le_refl _))
    · have h2 : decide ((18 : Int) < ((limbs (X / Nat.gcd X Y)).length : Int)) = true := decide_eq_true (by omega)
      have HV := Lib.hid (show lowQ n X Y = (zeroQ, false) by rw [HLOW.out, if_neg (fun h => hp h.1)])
      have cz0 := kr.here.cell 0 _ rfl
      have cz1 := kr.here.cell 1 _ rfl
      have cz2 := kr.here.cell 2 _ rfl
      have fz0 := Lib.frozen_of_heap kr.here 0
      have fz1 := Lib.frozen_of_heap kr.here 1
      have fz2 := Lib.frozen_of_heap kr.here 2
      clear hp o4 o6 kr
      go_wp2
      refine bodyPost_ret (v := .tuple #[.agg #[.bool false, .slice none 0 0, .slice none 0 0], .bool false]) (by simp [results, Tryz.results167, go_sem, cz0, cz1, cz2]) rfl ?_
      rw [HV.out]
      exact newQb_zero _ (below_set3 bb5 (Nat.le_refl _))
  · have h1 : (((limbs Y).length : Int) == 0) = true := by rw [beq_iff_eq]; omega
    have HV := Lib.hid (show lowQ n X Y = (zeroQ, false) by unfold lowQ; simp [limbs_empty hy])
    have cz0 := kr.here.cell 0 _ rfl
    have cz1 := kr.here.cell 1 _ rfl
    have cz2 := kr.here.cell 2 _ rfl
    have fz0 := Lib.frozen_of_heap kr.here 0
    have fz1 := Lib.frozen_of_heap kr.here 1
    have fz2 := Lib.frozen_of_heap kr.here 2
    clear hy o1 o2 kr
    go_wp2
    refine bodyPost_ret (v := .tuple #[.agg #[.bool false, .slice none 0 0, .slice none 0 0], .bool false]) (by simp [results, Tryz.results167, go_sem, cz0, cz1, cz2]) rfl ?_
    rw [HV.out]
    exact newQb_zero _ bb0
end Go.Proofs.YtcenmdiblbooeaaGreatDoor

namespace Go.Proofs.YtcenmdiblbooeaaGreatDoor
open Go.RowKit

def topN (q : QI) : Nat := (nval q.1.2).toNat
structure Parts (q : QI) : Prop where
  okn : okS q.1 = true
  okd : natOkB q.2 = true
  n50 : q.1.2.length ≤ 18
  d50 : q.2.length ≤ 18
  n : q.1.2 = limbs (topN q)
  d : q.2 = limbs (denQ q)
  nlt : (topN q : Int) < bp 18
  dlt : (denQ q : Int) < bp 18
  pos : 0 < denQ q
  top : numQ q = if q.1.1 = true then -(topN q : Int) else topN q
theorem parts_of {q : QI} (h : okQ q = true) : Parts q := by
  obtain ⟨h1, h2, h3, h4, h5, h6⟩ := okQ_parts h
  have p1 := okS_parts h1
  have n1 := nval_ok p1.1
  have n2 := nval_ok h2
  have l1 := nval_lt _ (natOk_parts p1.1).1
  have l2 := nval_lt _ (natOk_parts h2).1
  have m1 := bp_mono h5
  have m2 := bp_mono h4
  refine ⟨h1, h2, h5, h4, natOk_limbs p1.1, natOk_limbs h2, by unfold topN; omega, by unfold denQ; omega, denQ_pos h, ?_⟩
  unfold numQ valS topN
  split <;> omega
theorem prod_lt {X Y : Nat} (hx : (X : Int) < bp 18) (hy : (Y : Int) < bp 18) : ((X * Y : Nat) : Int) < bp 36 := by
  have e : bp 36 = bp 18 * bp 18 := bp_add 18 18
  have p := bp_pos 18
  rw [e, Int.natCast_mul]
  rcases Nat.eq_zero_or_pos Y with h | h
  · subst h
    have := Int.mul_pos p p
    simpa using this
  · have h1 : (X : Int) * Y < bp 18 * Y := Int.mul_lt_mul_of_pos_right hx (by omega)
    have h2 : bp 18 * (Y : Int) ≤ bp 18 * bp 18 := Int.mul_le_mul_of_nonneg_left (by omega) (by omega)
    omega
theorem prod_len {X Y : Nat} (hx : (X : Int) < bp 18) (hy : (Y : Int) < bp 18) : (limbs (X * Y)).length ≤ 36 := limbs_length_le _ 36 (prod_lt hx hy)
theorem mul_toNat {a b : List Int} (ha : natOkB a = true) (hb : natOkB b = true) : (nval a * nval b).toNat = (nval a).toNat * (nval b).toNat := by
  have n1 := nval_ok ha
  have n2 := nval_ok hb
  rw [Int.toNat_mul n1 n2]
theorem bp37 : bp 36 + bp 36 ≤ bp 37 := by
  have e : bp 37 = 1000000000 * bp 36 := rfl
  have p := bp_pos 36
  omega
/-- a cross product with its sign -/
theorem cross_ofZ {n : Bool} {X Y : Nat} : mkS n (limbs (X * Y)) = ofZ (if n = true then -((X * Y : Nat) : Int) else ((X * Y : Nat) : Int)) ∧ okS (mkS n (limbs (X * Y))) = true ∧ (mkS n (limbs (X * Y))).2.length ≤ 50 := by
  rw [mkS_limbs]
  exact ⟨rfl, ofZ_ok _, ofZ_len _⟩
theorem cross_val {n : Bool} {X Y : Nat} (hx : (X : Int) < bp 18) (hy : (Y : Int) < bp 18) : valS (mkS n (limbs (X * Y))) = (if n = true then -(X : Int) else X) * Y := by
  have h := limbs_length_le _ 36 (prod_lt hx hy)
  rw [mkS_limbs, ofZ_val]
  · split
    · rw [Int.natCast_mul, Int.neg_mul]
    · rw [Int.natCast_mul]
  · rw [show (if n = true then -((X * Y : Nat) : Int) else ((X * Y : Nat) : Int)).natAbs = X * Y by split <;> omega]
    omega
theorem abs_lt {z : Int} {m : Nat} {b : Int} (h : z.natAbs = m) (hb : (m : Int) < b) : -b < z ∧ z < b := by omega
theorem cross_lt {n : Bool} {X Y : Nat} (hx : (X : Int) < bp 18) (hy : (Y : Int) < bp 18) : -(bp 36) < (if n = true then -(X : Int) else X) * Y ∧ (if n = true then -(X : Int) else X) * Y < bp 36 := by
  have h := prod_lt hx hy
  refine abs_lt (m := X * Y) ?_ h
  split
  · rw [Int.neg_mul, Int.natAbs_neg, ← Int.natCast_mul]; omega
  · rw [← Int.natCast_mul]; omega
/-- the sum of two cross products -/
theorem sum_ofZ {z : Int} (h1 : -(bp 37) < z) (h2 : z < bp 37) : ofZ z = (decide (z < 0), limbs z.natAbs) ∧ (limbs z.natAbs).length ≤ 37 := by
  have hl := limbs_length_le z.natAbs 37 (by omega)
  unfold ofZ
  rw [if_pos (by omega)]
  exact ⟨rfl, hl⟩
theorem lowQ_sz (n : Bool) (a b : Nat) : szQ (lowQ n a b).1 ≤ 1048576 := by
  unfold lowQ
  split
  · rename_i h
    unfold szQ szS szI
    simp only
    have : (mkS n (limbs (a / Nat.gcd a b))).2.length ≤ 50 := by rw [mkS_limbs]; exact ofZ_len _
    omega
  · decide
theorem zeroQ_sz : szQ zeroQ ≤ 1048576 := by decide
/-- a result that lies in its cells at block r: a new fraction and a bool with it -/
theorem newQb_at {r B : Nat} {S : List Nat} {c0 c1 c2 : Value} {x : QI} {b : Bool} {w W : World} (o : At S (OwnQ (.agg #[c0, c1, c2]) x) W) (l : Within S B W.heap.size) (hrB : r < B) (hr : w.heap.size ≤ r) (hW : Below w.heap.size w W) :
    PostQb x b w (.returned (.tuple #[.agg #[c0, c1, c2], .bool b])) (((W.setCell ⟨r, 0, none⟩ c0).setCell ⟨r, 1, none⟩ c1).setCell ⟨r, 2, none⟩ c2) := by
  have hc : Chg [r] W (((W.setCell ⟨r, 0, none⟩ c0).setCell ⟨r, 1, none⟩ c1).setCell ⟨r, 2, none⟩ c2) := (((Chg.refl _ _).setCell (by simp) _).setCell (by simp) _).setCell (by simp) _
  have hz := hc.size
  exact ⟨_, S, rfl, o.chg hc (fun i hi hm => by have := l i hi; simp at hm; omega), fun i hi => by have := l i hi; omega, below_set3 hW hr⟩
theorem Chg.setNew {T : List Nat} {w w1 : World} {p : Addr} (h : Chg T w w1) (hp : w.heap.size ≤ p.block) (u : Value) : Chg T w (w1.setCell p u) :=
  ⟨h.os, h.tape, h.output, by simpa [World.setCell] using h.size, fun i hi hn => (Below.heap_setCell _ _ _ _ (by omega)).trans (h.block i hi hn)⟩
theorem below_of_chg {w w1 : World} (h : Chg [] w w1) : Below w.heap.size w w1 := ⟨h.os, h.tape, h.output, h.size, fun i hi => h.block i hi (by simp)⟩
theorem mulX_any (va vb : Value) (a b : List Int) (X : Nat) (w : World) (hal : a.length ≤ 18) (hbl : b.length ≤ 18) (oa : natOkB a = true) (ob : natOkB b = true) (hX : (nval a * nval b).toNat = X) (ha : OwnI va a w) (hb : OwnI vb b w) :
    Calls Tryz.prog 169 #[va, vb] w (NewV (fun u => OwnI u (limbs X)) w) := by
  subst hX
  exact (specMulV_any va vb a b 0 _ 0 _ w (by omega) (by omega) (Nat.le_refl _) (Nat.le_refl _) (natOk_parts oa).1 (natOk_parts ob).1 ha.row hb.row).mono fun _ _ h => h.newV
theorem makeX_any (n : Bool) (v : Value) (X : Nat) (A : SI) (w : World) (hl : (limbs X).length ≤ 50) (hA : mkS n (limbs X) = A) (ho : OwnI v (limbs X) w) : Calls Tryz.prog 67 #[.bool n, v] w (NewV (fun u => OwnS u A) w) := by
  subst hA
  have h := l04Make_any n v (limbs X) 0 w (by omega) ho
  rw [trim_ok] at h
  exact h.mono fun _ _ h => h.newV
theorem addX_any (vx vy : Value) (x y N : SI) (w : World) (okx : okS x = true) (oky : okS y = true) (hN : ofZ (valS x + valS y) = N) (hx : OwnS vx x w) (hy : OwnS vy y w) : Calls Tryz.prog 170 #[vx, vy] w (NewV (fun u => OwnS u N) w) := by
  subst hN
  exact (l04Add_any vx vy x y w okx oky hx hy).mono fun _ _ h => h.newV
theorem lowX_any (n : Bool) (va vb : Value) (a b : List Int) (X Y : Nat) (w : World) (hX : (limbs X).length ≤ 50) (hY : (limbs Y).length ≤ 50) (ha : a = limbs X) (hb : b = limbs Y) (oa : OwnI va a w) (ob : OwnI vb b w) :
    Calls Tryz.prog 167 #[.bool n, va, vb] w (PostQb (lowQ n X Y).1 (lowQ n X Y).2 w) := by
  subst ha hb
  exact l05Low_any n va vb X Y w hX hY oa ob
end Go.Proofs.YtcenmdiblbooeaaGreatDoor

namespace Go.Proofs.YtcenmdiblbooeaaGreatDoor
open Go.RowKit

def modeB (m : Int) : Bool := decide (0 ≤ m ∧ m ≤ 6)
/-- the name of a mode -/
def nameB (m : Int) : ByteArray :=
  if m = 0 then ⟨#[100, 111, 119, 110]⟩ else if m = 1 then ⟨#[117, 112]⟩ else if m = 2 then ⟨#[102, 108, 111, 111, 114]⟩ else if m = 3 then ⟨#[99, 101, 105, 108]⟩
  else if m = 4 then ⟨#[104, 97, 108, 102, 100, 111, 119, 110]⟩ else if m = 5 then ⟨#[104, 97, 108, 102, 117, 112]⟩ else if m = 6 then ⟨#[104, 97, 108, 102, 101, 118, 101, 110]⟩ else ⟨#[]⟩
/-- the mode of a name, looked for in n modes from m on -/
def modeFrom : Nat → Int → ByteArray → Int × Bool
  | 0, _, _ => (0, false)
  | n + 1, m, s => if nameB m = s then (m, true) else modeFrom n (m + 1) s
def modeOf (s : ByteArray) : Int × Bool := modeFrom 7 0 s
theorem modeB_cases {m : Int} (h : modeB m = true) : m = 0 ∨ m = 1 ∨ m = 2 ∨ m = 3 ∨ m = 4 ∨ m = 5 ∨ m = 6 := by
  have := of_decide_eq_true h
  omega
theorem modeB_false {m : Int} (h : ¬ modeB m = true) : nameB m = ⟨#[]⟩ ∧ ¬ (0 ≤ m ∧ m ≤ 6) := by
  have h' : ¬ (0 ≤ m ∧ m ≤ 6) := fun e => h (decide_eq_true e)
  refine ⟨?_, h'⟩
  unfold nameB
  rw [if_neg (by omega), if_neg (by omega), if_neg (by omega), if_neg (by omega), if_neg (by omega), if_neg (by omega), if_neg (by omega)]
theorem modeFrom_end (s : ByteArray) (m : Int) : modeFrom 0 m s = (0, false) := rfl
theorem modeFrom_hit {n : Nat} {m : Int} {s : ByteArray} (h : nameB m = s) : modeFrom (n + 1) m s = (m, true) := if_pos h
theorem modeFrom_miss {n : Nat} {m : Int} {s : ByteArray} (h : ¬ nameB m = s) : modeFrom (n + 1) m s = modeFrom n (m + 1) s := if_neg h
end Go.Proofs.YtcenmdiblbooeaaGreatDoor

namespace Go.Proofs.YtcenmdiblbooeaaGreatDoor
open Go.RowKit

/-- is the size rounded up: by the sign, the whole part, what is left over, the denominator and the mode -/
def awayB (neg : Bool) (Q R D : Nat) (m : Int) : Bool :=
  if m = 0 then false else if m = 1 then true else if m = 2 then neg else if m = 3 then !neg else if m = 4 then decide (D < 2 * R) else if m = 5 then decide (D ≤ 2 * R)
  else decide (D < 2 * R) || (decide (2 * R = D) && decide (Q % 2 = 1))
def roundN (neg : Bool) (A D : Nat) (m : Int) : Nat := A / D + if A % D ≠ 0 ∧ awayB neg (A / D) (A % D) D m = true then 1 else 0
/-- a right fraction, rounded -/
def roundS (r : QI) (m : Int) : SI := mkS r.1.1 (limbs (roundN r.1.1 (topN r) (denQ r) m))
/-- what RatRound answers -/
def roundR (r : QI) (m : Int) : SI × Bool := if okQ r = true ∧ modeB m = true then (roundS r m, true) else (zeroS, false)
def wholeB (r : QI) : Bool := okQ r && decide (denQ r = 1)
def halfB (r : QI) : Bool := okQ r && decide (denQ r = 2)
/-- what RatRest answers: the fraction of the rounded number, the remainder -/
def restB (r : QI) (m : Int) : Bool := (roundR r m).2 && (makeQ (roundR r m).1 (ofZ 1)).2 && (subQ r (makeQ (roundR r m).1 (ofZ 1)).1).2
def restS (r : QI) (m : Int) : SI := if restB r m = true then (roundR r m).1 else zeroS
def restQ (r : QI) (m : Int) : QI := if restB r m = true then (subQ r (makeQ (roundR r m).1 (ofZ 1)).1).1 else zeroQ
/-- what RoundTo answers -/
def stepB (x : SI) (n m : Int) : Bool := okS x && decide (x.2.length ≤ 18) && decide (1 ≤ n ∧ n ≤ 1000000) && modeB m
def stepS (x : SI) (n m : Int) : SI := if stepB x n m = true then mulS (roundS (makeQ x (ofZ n)).1 m) (ofZ n) else zeroS
theorem roundN_le (neg : Bool) (A D : Nat) (m : Int) : roundN neg A D m ≤ A / D + 1 := by unfold roundN; split <;> omega
theorem roundN_lt {r : QI} (h : Parts r) (m : Int) : (roundN r.1.1 (topN r) (denQ r) m : Int) ≤ bp 18 := by
  have h1 := roundN_le r.1.1 (topN r) (denQ r) m
  have h2 : topN r / denQ r ≤ topN r := Nat.div_le_self ..
  have h3 := h.nlt
  omega
theorem bp_step (k : Nat) : bp k < bp (k + 1) := by
  have p := bp_pos k
  have e : bp (k + 1) = 1000000000 * bp k := rfl
  omega
theorem round_len {r : QI} (h : Parts r) (m : Int) : (limbs (roundN r.1.1 (topN r) (denQ r) m)).length ≤ 19 := limbs_length_le _ 19 (by have := roundN_lt h m; have h2 : bp 18 < bp 19 := bp_step 18; omega)
theorem roundS_ok (r : QI) (m : Int) : okS (roundS r m) = true := by unfold roundS; rw [mkS_limbs]; exact ofZ_ok _
theorem roundS_len (r : QI) (m : Int) : (roundS r m).2.length ≤ 50 := by unfold roundS; rw [mkS_limbs]; exact ofZ_len _
theorem roundR_sz (r : QI) (m : Int) : szS (roundR r m).1 ≤ 1048576 := by
  unfold roundR
  split
  · have := roundS_len r m; unfold szS szI; simp only; omega
  · decide
/-- twice the rest, against the denominator -/
theorem twice_cmp (R D : Nat) : (0 < cmpI ((R : Int) + R + 0) D ↔ D < 2 * R) ∧ (0 ≤ cmpI ((R : Int) + R + 0) D ↔ D ≤ 2 * R) ∧ (cmpI ((R : Int) + R + 0) D = 0 ↔ 2 * R = D) := by
  unfold cmpI
  split
  · omega
  · split <;> omega
theorem lastD_any {l : List Int} (h : l ≠ []) (a b : Int) : l.getLastD a = l.getLastD b := by
  cases l with
  | nil => exact absurd rfl h
  | cons x r => rfl
theorem last_tail {x : Int} {r : List Int} (h : (x :: r).getLastD 1 ≠ 0) : r.getLastD 1 ≠ 0 := by
  by_cases hr : r = []
  · subst hr; decide
  · rw [List.getLastD_cons, lastD_any hr x 1] at h; exact h
theorem last_head {x : Int} (h : [x].getLastD 1 ≠ 0) : x ≠ 0 := h
theorem last_cons {s : Int} {r : List Int} (h : r.getLastD 1 ≠ 0) (h0 : r = [] → s ≠ 0) : (s :: r).getLastD 1 ≠ 0 := by
  by_cases hr : r = []
  · subst hr; exact h0 rfl
  · rw [List.getLastD_cons, lastD_any hr s 1]; exact h
theorem addL_nil {a b : List Int} {c : Int} (h : addL a b c = []) : a = [] ∧ b = [] ∧ ¬ 0 < c := by
  cases a with
  | nil =>
    cases b with
    | nil =>
      refine ⟨rfl, rfl, fun hc => ?_⟩
      simp only [addL, if_pos hc] at h
      cases h
    | cons y r => simp only [addL] at h; cases h
  | cons x r =>
    cases b with
    | nil => simp only [addL] at h; cases h
    | cons y q => simp only [addL] at h; cases h
/-- a sum of trimmed limbs is trimmed -/
theorem addL_last (a b : List Int) (c : Int) (ha : DigN a) (hb : DigN b) (h0 : 0 ≤ c) (h1 : c ≤ 1) (la : a.getLastD 1 ≠ 0) (lb : b.getLastD 1 ≠ 0) : (addL a b c).getLastD 1 ≠ 0 := by
  induction a, b, c using addL.induct with
  | case1 c hc => simp only [addL, if_pos hc]; show c ≠ 0; omega
  | case2 c hc => simp only [addL, if_neg hc]; decide
  | case3 c x a ih =>
    have hx := ha.head
    simp only [addL]
    refine last_cons (ih ha.tail hb (by omega) (by omega) (last_tail la) lb) fun e => ?_
    obtain ⟨rfl, _, hc⟩ := addL_nil e
    have := last_head la
    omega
  | case4 c y b ih =>
    have hy := hb.head
    simp only [addL]
    refine last_cons (ih ha hb.tail (by omega) (by omega) la (last_tail lb)) fun e => ?_
    obtain ⟨_, rfl, hc⟩ := addL_nil e
    have := last_head lb
    omega
  | case5 c x a y b ih =>
    have hx := ha.head
    have hy := hb.head
    simp only [addL]
    refine last_cons (ih ha.tail hb.tail (by omega) (by omega) (last_tail la) (last_tail lb)) fun e => ?_
    obtain ⟨rfl, rfl, hc⟩ := addL_nil e
    have := last_head la
    omega
end Go.Proofs.YtcenmdiblbooeaaGreatDoor

namespace Go.Proofs.YtcenmdiblbooeaaGreatDoor
open Go.RowKit

theorem cmpI_self (X : Int) : cmpI X X = 0 := by unfold cmpI; rw [if_neg (by omega), if_neg (by omega)]
theorem cmpI_turn (X Y : Int) : cmpI X Y = -cmpI Y X := by unfold cmpI; split <;> split <;> (try split) <;> (try split) <;> omega
end Go.Proofs.YtcenmdiblbooeaaGreatDoor

namespace Go.Proofs.YtcenmdiblbooeaaGreatDoor
open Go.RowKit

/-- the rational number that a fraction stands for -/
def ratV (q : QI) : Rat := (numQ q : Rat) / ((denQ q : Int) : Rat)
/-- a right fraction whose parts are short -/
structure Bd (q : QI) (m : Nat) : Prop where
  ok : okQ q = true
  num : ((numQ q).natAbs : Int) < bp m
  den : (denQ q : Int) < bp m
theorem Bd.pos {q : QI} {m : Nat} (h : Bd q m) : (0 : Int) < (denQ q : Int) := by have := denQ_pos h.ok; omega
theorem Bd.mono {q : QI} {m n : Nat} (h : Bd q m) (hm : m ≤ n) : Bd q n := ⟨h.ok, Int.lt_of_lt_of_le h.num (bp_mono hm), Int.lt_of_lt_of_le h.den (bp_mono hm)⟩
theorem rat_ne {d : Int} (h : 0 < d) : (d : Rat) ≠ 0 := by
  have : d ≠ 0 := by omega
  exact_mod_cast this
theorem ratV_of {q : QI} {N D : Int} (hq : okQ q = true) (hD : 0 < D) (h : numQ q * D = N * denQ q) : ratV q = (N : Rat) / (D : Rat) := by
  have h1 : (0 : Int) < (denQ q : Int) := by have := denQ_pos hq; omega
  have n1 := rat_ne h1
  have n2 := rat_ne hD
  have h' : (numQ q : Rat) * (D : Rat) = (N : Rat) * ((denQ q : Int) : Rat) := by exact_mod_cast h
  unfold ratV
  grind
theorem low_is (n : Bool) (a b : Nat) (hb : b ≠ 0) (ha : (a : Int) < bp 18) (hb2 : (b : Int) < bp 18) :
    (lowQ n a b).2 = true ∧ numQ (lowQ n a b).1 * b = (if n = true then -(a : Int) else a) * denQ (lowQ n a b).1 ∧ (numQ (lowQ n a b).1).natAbs ≤ a ∧ denQ (lowQ n a b).1 ≤ b := by
  have hg : 0 < Nat.gcd a b := Nat.gcd_pos_of_pos_right _ (by omega)
  obtain ⟨a', ea⟩ := Nat.gcd_dvd_left a b
  obtain ⟨b', eb⟩ := Nat.gcd_dvd_right a b
  have qa : a / Nat.gcd a b = a' := by rw [Nat.div_eq_of_eq_mul_right hg ea]
  have qb : b / Nat.gcd a b = b' := by rw [Nat.div_eq_of_eq_mul_right hg eb]
  have la : a' ≤ a := by rw [← qa]; exact Nat.div_le_self ..
  have lb : b' ≤ b := by rw [← qb]; exact Nat.div_le_self ..
  have l1 : (limbs a').length ≤ 18 := limbs_length_le _ 18 (by omega)
  have l2 : (limbs b').length ≤ 18 := limbs_length_le _ 18 (by omega)
  have e : lowQ n a b = ((mkS n (limbs a'), limbs b'), true) := by
    unfold lowQ
    rw [qa, qb, if_pos ⟨hb, l1, l2⟩]
  have ev : numQ ((mkS n (limbs a'), limbs b') : QI) = if n = true then -(a' : Int) else a' := by
    show valS (mkS n (limbs a')) = _
    rw [mkS_limbs, ofZ_val]
    rw [show (if n = true then -(a' : Int) else a').natAbs = a' by split <;> omega]
    omega
  have ed : denQ ((mkS n (limbs a'), limbs b') : QI) = b' := by
    show (nval (limbs b')).toNat = b'
    rw [limbs_val, Int.toNat_natCast]
  rw [e]
  refine ⟨rfl, ?_, ?_, ?_⟩
  · rw [ev, ed]
    have key : (a' : Int) * b = a * b' := by
      have h1 : a' * b = a * b' := by
        have e1 : a * b' = (Nat.gcd a b * a') * b' := by rw [← ea]
        have e2 : a' * b = a' * (Nat.gcd a b * b') := by rw [← eb]
        rw [e1, e2]
        ac_rfl
      exact_mod_cast h1
    split
    · rw [Int.neg_mul, Int.neg_mul, key]
    · exact key
  · rw [ev]; split <;> omega
  · rw [ed]; exact lb
theorem low_bd {n : Bool} {a b m : Nat} (hb : b ≠ 0) (hm : m ≤ 18) (ha : (a : Int) < bp m) (hb2 : (b : Int) < bp m) :
    (lowQ n a b).2 = true ∧ Bd (lowQ n a b).1 m ∧ ratV (lowQ n a b).1 = ((if n = true then -(a : Int) else a : Int) : Rat) / ((b : Int) : Rat) := by
  have h18 := bp_mono hm
  obtain ⟨h1, h2, h3, h4⟩ := low_is n a b hb (by omega) (by omega)
  have ok := lowQ_ok n a b h1
  exact ⟨h1, ⟨ok, by omega, by omega⟩, ratV_of ok (by omega) h2⟩
theorem pair_eq {Q : QI × Bool} (h : Q.2 = true) : Q = (Q.1, true) := by rw [← h]
theorem abs_top {q : QI} (h : okQ q = true) : topN q = (numQ q).natAbs := by
  have := (parts_of h).top
  rw [this]
  split <;> omega
theorem mul_lt {a b : Nat} {i j : Nat} (ha : (a : Int) < bp i) (hb : (b : Int) < bp j) : ((a * b : Nat) : Int) < bp (i + j) := by
  rw [bp_add, Int.natCast_mul]
  have p := bp_pos i
  have q := bp_pos j
  have h1 : (a : Int) * b ≤ (bp i - 1) * b := Int.mul_le_mul_of_nonneg_right (by omega) (by omega)
  have h2 : (bp i - 1) * (b : Int) ≤ (bp i - 1) * (bp j - 1) := Int.mul_le_mul_of_nonneg_left (by omega) (by omega)
  have h3 : (bp i - 1) * (bp j - 1) = bp i * bp j - bp i - bp j + 1 := by grind
  omega
theorem bp_next (m : Nat) : bp m + bp m ≤ bp (m + 1) := by
  have e : bp (m + 1) = 1000000000 * bp m := rfl
  have p := bp_pos m
  omega
theorem add_bd {r s : QI} {i k : Nat} (hr : Bd r i) (hs : Bd s k) (h : i + k + 1 ≤ 18) : (addQ r s).2 = true ∧ Bd (addQ r s).1 (i + k + 1) ∧ ratV (addQ r s).1 = ratV r + ratV s := by
  have e : addQ r s = lowQ (decide (numQ r * denQ s + numQ s * denQ r < 0)) (numQ r * denQ s + numQ s * denQ r).natAbs (denQ r * denQ s) := by unfold addQ; rw [if_pos ⟨hr.ok, hs.ok⟩]
  have p1 := hr.pos
  have p2 := hs.pos
  have b1 := mul_lt hr.num hs.den
  have b2 := mul_lt hs.num hr.den
  rw [Nat.add_comm k i] at b2
  have b3 := mul_lt hr.den hs.den
  have n1 := bp_next (i + k)
  have p0 := bp_pos (i + k)
  have ba : ((numQ r * denQ s + numQ s * denQ r).natAbs : Int) < bp (i + k + 1) := by
    have h1 : (numQ r * (denQ s : Int)).natAbs = (numQ r).natAbs * denQ s := by rw [Int.natAbs_mul, Int.natAbs_natCast]
    have h2 : (numQ s * (denQ r : Int)).natAbs = (numQ s).natAbs * denQ r := by rw [Int.natAbs_mul, Int.natAbs_natCast]
    omega
  have hd : denQ r * denQ s ≠ 0 := Nat.mul_ne_zero (by omega) (by omega)
  obtain ⟨h1, h2, h3⟩ := low_bd (n := decide (numQ r * denQ s + numQ s * denQ r < 0)) hd h ba (by omega)
  rw [e]
  refine ⟨h1, h2, h3.trans ?_⟩
  have hz : (if decide (numQ r * (denQ s : Int) + numQ s * (denQ r : Int) < 0) = true then -((numQ r * (denQ s : Int) + numQ s * (denQ r : Int)).natAbs : Int) else ((numQ r * (denQ s : Int) + numQ s * (denQ r : Int)).natAbs : Int)) = numQ r * (denQ s : Int) + numQ s * (denQ r : Int) := by
    generalize numQ r * (denQ s : Int) + numQ s * (denQ r : Int) = z
    by_cases hz : z < 0
    · rw [decide_eq_true hz, if_pos rfl]; omega
    · rw [decide_eq_false hz, if_neg (by decide)]; omega
  rw [hz]
  have n1 := rat_ne p1
  have n2 := rat_ne p2
  unfold ratV
  rw [Int.natCast_mul]
  simp only [Rat.intCast_add, Rat.intCast_mul]
  grind
theorem sign_mul (x y : Bool) (X Y : Int) : (if (x != y) = true then -(X * Y) else X * Y) = (if x = true then -X else X) * (if y = true then -Y else Y) := by
  cases x <;> cases y <;> simp [Int.neg_mul, Int.mul_neg]
theorem mul_bd {r s : QI} {i k : Nat} (hr : Bd r i) (hs : Bd s k) (h : i + k ≤ 18) : (mulQ r s).2 = true ∧ Bd (mulQ r s).1 (i + k) ∧ ratV (mulQ r s).1 = ratV r * ratV s := by
  have e : mulQ r s = lowQ (r.1.1 != s.1.1) (topN r * topN s) (denQ r * denQ s) := by unfold mulQ topN; rw [if_pos ⟨hr.ok, hs.ok⟩]
  have p1 := hr.pos
  have p2 := hs.pos
  have t1 := abs_top hr.ok
  have t2 := abs_top hs.ok
  have b1 := mul_lt hr.num hs.num
  rw [← t1, ← t2] at b1
  have hd : denQ r * denQ s ≠ 0 := Nat.mul_ne_zero (by omega) (by omega)
  obtain ⟨h1, h2, h3⟩ := low_bd (n := r.1.1 != s.1.1) hd h b1 (mul_lt hr.den hs.den)
  rw [e]
  refine ⟨h1, h2, h3.trans ?_⟩
  have n1 := rat_ne p1
  have n2 := rat_ne p2
  rw [Int.natCast_mul, sign_mul, ← (parts_of hr.ok).top, ← (parts_of hs.ok).top, Int.natCast_mul]
  unfold ratV
  simp only [Rat.intCast_mul]
  grind
theorem div_bd {r s : QI} {i k : Nat} (hr : Bd r i) (hs : Bd s k) (h : i + k ≤ 18) (h0 : numQ s ≠ 0) : (divQ r s).2 = true ∧ Bd (divQ r s).1 (i + k) ∧ ratV (divQ r s).1 * ratV s = ratV r := by
  have e : divQ r s = lowQ (r.1.1 != s.1.1) (topN r * denQ s) (denQ r * topN s) := by unfold divQ topN; rw [if_pos ⟨hr.ok, hs.ok⟩]
  have p1 := hr.pos
  have p2 := hs.pos
  have t1 := abs_top hr.ok
  have t2 := abs_top hs.ok
  have b1 := mul_lt hr.num hs.den
  rw [← t1] at b1
  have b2 := mul_lt hr.den hs.num
  rw [← t2] at b2
  have hd : denQ r * topN s ≠ 0 := Nat.mul_ne_zero (by omega) (by omega)
  obtain ⟨h1, h2, h3⟩ := low_bd (n := r.1.1 != s.1.1) hd h b1 b2
  rw [e]
  refine ⟨h1, h2, ?_⟩
  have n1 := rat_ne p1
  have n2 := rat_ne p2
  have n3 := rat_ne (show (0 : Int) < (topN s : Int) by omega)
  have q1 := (parts_of hr.ok).top
  have q2 := (parts_of hs.ok).top
  rw [h3, Int.natCast_mul, Int.natCast_mul]
  unfold ratV
  rw [q1, q2]
  generalize r.1.1 = x
  generalize s.1.1 = y
  cases x <;> cases y <;> simp only [bne_self_eq_false, Bool.false_bne, Bool.true_bne, Bool.not_false, if_true, if_false, Bool.false_eq_true, Rat.intCast_mul, Rat.intCast_neg] <;> grind
theorem negS_mag {x : SI} (h : okS x = true) : (negS x).2 = x.2 := by
  have hp := okS_parts h
  have hl := (natOk_parts hp.1).2.1
  have ha := valS_abs x hp.1
  have hx := natOk_limbs hp.1
  unfold negS
  rw [if_pos h]
  have e : (-valS x).natAbs = (nval x.2).toNat := by rw [Int.natAbs_neg]; omega
  unfold ofZ
  rw [e, ← hx, if_pos hl]
theorem neg_bd {s : QI} {k : Nat} (hs : Bd s k) : (negQ s).2 = true ∧ Bd (negQ s).1 k ∧ ratV (negQ s).1 = - ratV s := by
  have hp := okQ_parts hs.ok
  have hm := negS_mag hp.1
  have e : negQ s = ((negS s.1, s.2), true) := by unfold negQ; rw [if_pos hs.ok]
  have ev : numQ ((negS s.1, s.2) : QI) = - numQ s := by
    have hl : (limbs (-valS s.1).natAbs).length ≤ 50 := by
      have := (natOk_parts (okS_parts hp.1).1).2.1
      have hx := natOk_limbs (okS_parts hp.1).1
      have ha := valS_abs s.1 (okS_parts hp.1).1
      rw [Int.natAbs_neg, show (valS s.1).natAbs = (nval s.1.2).toNat by omega, ← hx]
      exact this
    show valS (negS s.1) = - valS s.1
    unfold negS
    rw [if_pos hp.1, ofZ_val hl]
  have hok : okQ ((negS s.1, s.2) : QI) = true := by
    have hn : okS (negS s.1) = true := by unfold negS; rw [if_pos hp.1]; exact ofZ_ok _
    unfold okQ
    simp only
    rw [hn, hp.2.1, hm]
    simp only [Bool.true_and, decide_eq_true_eq]
    exact ⟨hp.2.2.1, hp.2.2.2.1, hp.2.2.2.2.1, hp.2.2.2.2.2⟩
  rw [e]
  refine ⟨rfl, ⟨hok, by rw [ev, Int.natAbs_neg]; exact hs.num, hs.den⟩, ?_⟩
  unfold ratV
  rw [ev, show denQ ((negS s.1, s.2) : QI) = denQ s from rfl]
  simp only [Rat.intCast_neg]
  grind
theorem sub_bd {r s : QI} {i k : Nat} (hr : Bd r i) (hs : Bd s k) (h : i + k + 1 ≤ 18) : (subQ r s).2 = true ∧ Bd (subQ r s).1 (i + k + 1) ∧ ratV (subQ r s).1 = ratV r - ratV s := by
  obtain ⟨n1, n2, n3⟩ := neg_bd hs
  have e : subQ r s = addQ r (negQ s).1 := by unfold subQ; rw [if_pos n1]
  obtain ⟨a1, a2, a3⟩ := add_bd hr n2 h
  rw [e]
  exact ⟨a1, a2, by rw [a3, n3]; grind⟩
theorem cross_of {r s : QI} {i k : Nat} (hr : Bd r i) (hs : Bd s k) (h : ratV r = ratV s) : numQ r * denQ s = numQ s * denQ r := by
  have n1 := rat_ne hr.pos
  have n2 := rat_ne hs.pos
  unfold ratV at h
  have h' : (numQ r : Rat) * ((denQ s : Int) : Rat) = (numQ s : Rat) * ((denQ r : Int) : Rat) := by grind
  exact_mod_cast h'
theorem cmp_same {r s : QI} {i k : Nat} (hr : Bd r i) (hs : Bd s k) (h : ratV r = ratV s) : cmpQ r s = 0 := by
  unfold cmpQ
  rw [if_pos ⟨hr.ok, hs.ok⟩, cross_of hr hs h, cmpI_self]
theorem cmpQ_turn {r s : QI} {i k : Nat} (hr : Bd r i) (hs : Bd s k) : cmpQ r s = -cmpQ s r := by
  unfold cmpQ
  rw [if_pos ⟨hr.ok, hs.ok⟩, if_pos ⟨hs.ok, hr.ok⟩, cmpI_turn]
theorem oneQ_parts : numQ oneQ = 0 ∧ denQ oneQ = 1 := ⟨rfl, rfl⟩
theorem signQ_of {r : QI} {i : Nat} (hr : Bd r i) : cmpQ r oneQ = cmpI (numQ r) 0 := by
  unfold cmpQ
  rw [if_pos ⟨hr.ok, oneQ_ok⟩, oneQ_parts.1, oneQ_parts.2, Int.zero_mul]
  simp
theorem cmpI_facts (X Y : Int) : (cmpI X Y = 0 ↔ X = Y) ∧ (cmpI X Y ≤ 0 ↔ X ≤ Y) ∧ (0 ≤ cmpI X Y ↔ Y ≤ X) := by
  unfold cmpI
  split
  · omega
  · split <;> omega
theorem order_of {r s x : QI} {i k m : Nat} (hr : Bd r i) (hs : Bd s k) (hx : Bd x m) (h : ratV x = ratV s - ratV r) : (cmpQ r s ≤ 0) ↔ (0 ≤ cmpQ x oneQ) := by
  rw [signQ_of hx, (cmpI_facts _ _).2.2]
  have e : cmpQ r s = cmpI (numQ r * denQ s) (numQ s * denQ r) := by unfold cmpQ; rw [if_pos ⟨hr.ok, hs.ok⟩]
  rw [e, (cmpI_facts _ _).2.1]
  have p1 := hr.pos
  have p2 := hs.pos
  have p3 := hx.pos
  have n1 := rat_ne p1
  have n2 := rat_ne p2
  have n3 := rat_ne p3
  have key : numQ x * ((denQ s : Int) * (denQ r : Int)) = (numQ s * (denQ r : Int) - numQ r * (denQ s : Int)) * (denQ x : Int) := by
    unfold ratV at h
    have h' : (numQ x : Rat) * (((denQ s : Int) : Rat) * ((denQ r : Int) : Rat)) = ((numQ s : Rat) * ((denQ r : Int) : Rat) - (numQ r : Rat) * ((denQ s : Int) : Rat)) * ((denQ x : Int) : Rat) := by grind
    exact_mod_cast h'
  have pd : 0 < (denQ s : Int) * (denQ r : Int) := Int.mul_pos p2 p1
  generalize numQ s * (denQ r : Int) = B at *
  generalize numQ r * (denQ s : Int) = A at *
  constructor
  · intro hh
    have h1 : 0 ≤ (B - A) * (denQ x : Int) := Int.mul_nonneg (by omega) (by omega)
    rw [← key] at h1
    exact Int.nonneg_of_mul_nonneg_left h1 pd
  · intro hh
    have h1 : 0 ≤ numQ x * ((denQ s : Int) * (denQ r : Int)) := Int.mul_nonneg hh (by omega)
    rw [key] at h1
    have := Int.nonneg_of_mul_nonneg_left h1 p3
    omega
theorem bd_len {q : QI} {m : Nat} (h : Bd q m) : q.1.2.length ≤ m ∧ q.2.length ≤ m := by
  have p := parts_of h.ok
  have t := abs_top h.ok
  have h1 := h.num
  constructor
  · rw [p.n]; exact limbs_length_le _ m (by omega)
  · rw [p.d]; exact limbs_length_le _ m h.den
theorem bd_sz {q : QI} {m : Nat} (h : Bd q m) (hm : m ≤ 18) : szQ q ≤ 1048576 := by
  have := bd_len h
  unfold szQ szS szI
  omega
end Go.Proofs.YtcenmdiblbooeaaGreatDoor

namespace Go.Proofs.YtcenmdiblbooeaaGreatDoor
open Go.RowKit

/-- what rounding makes of the size: the whole part, or one more where something is left over -/
theorem roundN_cases (neg : Bool) (A D : Nat) (m : Int) : (roundN neg A D m = A / D ∧ (A % D = 0 ∨ awayB neg (A / D) (A % D) D m = false)) ∨ (roundN neg A D m = A / D + 1 ∧ A % D ≠ 0 ∧ awayB neg (A / D) (A % D) D m = true) := by
  unfold roundN
  by_cases h : A % D ≠ 0 ∧ awayB neg (A / D) (A % D) D m = true
  · rw [if_pos h]; exact .inr ⟨rfl, h.1, h.2⟩
  · rw [if_neg h]
    refine .inl ⟨by omega, ?_⟩
    by_cases h0 : A % D = 0
    · exact .inl h0
    · refine .inr ?_
      rcases Bool.eq_false_or_eq_true (awayB neg (A / D) (A % D) D m) with e | e
      · exact absurd ⟨h0, e⟩ h
      · exact e
theorem near_away {neg : Bool} {Q R D : Nat} {m : Int} (h4 : 4 ≤ m) (h6 : m ≤ 6) : (awayB neg Q R D m = true → D ≤ 2 * R) ∧ (awayB neg Q R D m = false → 2 * R ≤ D) := by
  rcases (show m = 4 ∨ m = 5 ∨ m = 6 by omega) with rfl | rfl | rfl
  · show (decide (D < 2 * R) = true → _) ∧ (decide (D < 2 * R) = false → _)
    rw [decide_eq_true_eq, decide_eq_false_iff_not]; omega
  · show (decide (D ≤ 2 * R) = true → _) ∧ (decide (D ≤ 2 * R) = false → _)
    rw [decide_eq_true_eq, decide_eq_false_iff_not]; omega
  · show ((decide (D < 2 * R) || (decide (2 * R = D) && decide (Q % 2 = 1))) = true → _) ∧ ((decide (D < 2 * R) || (decide (2 * R = D) && decide (Q % 2 = 1))) = false → _)
    rw [Bool.or_eq_true, Bool.or_eq_false_iff, Bool.and_eq_true, decide_eq_true_eq, decide_eq_true_eq, decide_eq_false_iff_not]
    omega
/-- the rounded size times the denominator is off by less than one, by at most a half in the nearest modes, and not at all where nothing is left over -/
theorem round_off (neg : Bool) (A D : Nat) (m : Int) (hD : 0 < D) : ∃ e : Int, (roundN neg A D m : Int) * D = A + e ∧ -(D : Int) < e ∧ e < D ∧ (4 ≤ m → m ≤ 6 → 2 * e ≤ D ∧ -(D : Int) ≤ 2 * e) ∧ (e = 0 ↔ A % D = 0) := by
  have h1 := Nat.div_add_mod A D
  have h2 := Nat.mod_lt A hD
  rcases roundN_cases neg A D m with ⟨hk, hc⟩ | ⟨hk, h0, hc⟩
  · refine ⟨-((A % D : Nat) : Int), ?_, by omega, by omega, fun h4 h6 => ?_, by omega⟩
    · rw [hk, Int.mul_comm, ← Int.natCast_mul]; omega
    · rcases hc with hc | hc
      · omega
      · have := (near_away h4 h6).2 hc; omega
  · refine ⟨(D : Int) - ((A % D : Nat) : Int), ?_, by omega, by omega, fun h4 h6 => ?_, by omega⟩
    · rw [hk, Int.natCast_add, Int.add_mul, Int.mul_comm, ← Int.natCast_mul]; omega
    · have := (near_away h4 h6).1 hc; omega
theorem roundS_val {r : QI} (h : Parts r) (m : Int) : valS (roundS r m) = if r.1.1 = true then -(roundN r.1.1 (topN r) (denQ r) m : Int) else roundN r.1.1 (topN r) (denQ r) m := by
  unfold roundS
  rw [mkS_limbs, ofZ_val]
  have := round_len h m
  rw [show (if r.1.1 = true then -(roundN r.1.1 (topN r) (denQ r) m : Int) else roundN r.1.1 (topN r) (denQ r) m).natAbs = roundN r.1.1 (topN r) (denQ r) m by split <;> omega]
  omega
/-- the value of a rounded fraction, against the fraction -/
theorem round_val {r : QI} (h : okQ r = true) (m : Int) : ∃ e : Int, valS (roundS r m) * denQ r = numQ r + e ∧ -(denQ r : Int) < e ∧ e < denQ r ∧ (4 ≤ m → m ≤ 6 → 2 * e ≤ denQ r ∧ -(denQ r : Int) ≤ 2 * e) ∧ (e = 0 ↔ topN r % denQ r = 0) := by
  have hp := parts_of h
  obtain ⟨e, h1, h2, h3, h4, h5⟩ := round_off r.1.1 (topN r) (denQ r) m hp.pos
  rw [roundS_val hp, hp.top]
  generalize roundN r.1.1 (topN r) (denQ r) m = k at *
  cases r.1.1 with
  | true => exact ⟨-e, by rw [if_pos rfl, if_pos rfl, Int.neg_mul, h1]; omega, by omega, by omega, fun a b => by have := h4 a b; omega, by omega⟩
  | false => exact ⟨e, by rw [if_neg (by decide), if_neg (by decide), h1], by omega, by omega, h4, h5⟩
/-- in lowest terms nothing is left over only of an integer -/
theorem whole_iff {r : QI} (h : okQ r = true) : (topN r % denQ r = 0) ↔ denQ r = 1 := by
  have hp := okQ_parts h
  have hd := denQ_pos h
  have hg : Nat.gcd (topN r) (denQ r) = 1 := hp.2.2.2.2.2
  constructor
  · intro h0
    have : denQ r ∣ topN r := Nat.dvd_of_mod_eq_zero h0
    rw [Nat.gcd_eq_right this] at hg
    exact hg
  · intro h1; rw [h1, Nat.mod_one]
end Go.Proofs.YtcenmdiblbooeaaGreatDoor
