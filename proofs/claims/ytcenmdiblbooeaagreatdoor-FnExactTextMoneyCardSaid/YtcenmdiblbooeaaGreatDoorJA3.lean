/-
  What l03Small and l03Digit of package spec return.
  What l03Div and NatDiv of package spec return.
  What NatDiv, NatGcd, NatTen, NatScale, NatCut and NatEven of package spec return.
  Chapter 5 of package spec: what its functions on signed numbers return.
  Chapter 5 of package spec: sums of signed numbers.
  Chapter 5 of package spec: IntNum, IntCmp, IntSign.
  Chapter 10 of package spec: what its functions return that need no fractions and no texts.
  Impl's look-ups by code, where they scan the table.
  What NatOk, NatOf, NatCmp and NatInt of package impl return.
  Chapter 5 of package impl: IntOk.
  What the methods of impl.nat do to a number of the call's own that is under construction.
  What addAt, addTimes, takeAt, take and trim of impl.nat do to a number of the call's own.
-/
import Derived.Laws.AppendOwnNone
import Derived.Deep.LoopGhost
import Derived.Deep.RegionHeld3
import Derived.Lib.Builder
import Derived.Lib.SliceRun
import Derived.Test.YtcenmdiblbooeaaGreatDoorJA2
namespace Go.Proofs.YtcenmdiblbooeaaGreatDoor
open Go.RowKit

/-- a new row and a number -/
def RowNum (xs : List Int) (r : Int) (w : World) (e : Ending) (w' : World) : Prop :=
  ∃ v, e = .returned (.tuple #[v, .int .i64 r]) ∧ w'.ownsRow w.heap.size 3 1 v xs.length (intsV xs) ∧ Below w.heap.size w w'

set_option maxHeartbeats 1000000 in
set_option maxRecDepth 100000 in
theorem specSmall_any (va : Value) (a : List Int) (d : Int) (lo hi : Nat) (w : World) (hal : a.length ≤ 1048576) (hhi : hi ≤ w.heap.size) (hd0 : 0 < d) (hd1 : d ≤ 999999999) (oa : DigN a) (hra : Row w lo hi va (intsV a)) :
    Calls Tryz.prog 192 #[va, .int .i64 d] w (RowNum (limbs (nval a / d).toNat) (nval a % d) w) := by
  obtain ⟨A, c, rfl, hA⟩ := hra
  have HA := Lib.hid hA
  have OA := Lib.hid oa
  have hmk := make_ints a.length (by omega)
  rw [intsV_length]
  clear hA oa
  go_enter Tryz.func192, Tryz.ntmps192
  go_wp2
  go_loopw [7, 8] (fun r i wr => ∃ (k : Nat) (R : Int) (qs : List Int), k ≤ a.length ∧ i = .int .i64 ((k : Int) - 1) ∧ r = .int .i64 R ∧ Hid (DivR a d k R qs) ∧ wr.ownsRow w.heap.size 3 1 (.slice (some ⟨w.heap.size, 0, none⟩) a.length a.length) a.length (intsV (List.replicate k 0 ++ qs)) ∧ Below w.heap.size w wr) (fun _ i _ => (intOf i + 1).toNat)
  case atStart =>
    refine ⟨a.length, 0, [], Nat.le_refl _, rfl, rfl, Lib.hid (DivR.start a d), ?_, (Below.refl _ _).alloc (Nat.le_refl _) _⟩
    have h := World.ownsRow_lit (e := 3) (size := 1) (base := w.heap.size) w (madeCells #[.int .i64 0] a.length) a.length (Nat.le_refl _) (by unfold maxLen; omega) (by rw [size_madeCells, Nat.mul_one])
    rw [toList_madeCells_one] at h
    simpa [intsV] using h
  case round =>
    obtain ⟨k, R, qs, hk, rfl, rfl, HR, ho, hb⟩ := hrel
    have hR := HR.out.bound hd0
    have hR0 := hR.1
    have hR1 := hR.2
    clear hR
    by_cases hz : 0 < k
    · obtain ⟨j, rfl⟩ : ∃ j, k = j + 1 := ⟨k - 1, by omega⟩
      have hlt : j < a.length := by omega
      obtain ⟨p, rfl, _, hpb, hca⟩ := HA.out j _ (intsV_at a j hlt)
      have hca' : wr.cell? (p.add j) = some (.int .i64 a[j]) := (hb.cell (by rw [block_add]; omega)).trans hca
      have hda := OA.out.at_ j hlt
      have hda0 := hda.1
      have hda1 := hda.2
      have HN := Lib.hid (HR.out.next hd0 OA.out hlt)
      have hlen : (List.replicate (j + 1) (0 : Int) ++ qs).length = a.length := by have := HR.out.2.2.2; simp; omega
      obtain ⟨cu, hcell⟩ : ∃ u, wr.cell? ⟨w.heap.size, j, none⟩ = some u := ⟨_, (ho.cellAt j (by omega)).trans (List.getElem?_eq_getElem (by rw [intsV_length, hlen]; exact hlt))⟩
      have hfr := ho.frozenAt j
      obtain ⟨ho2, hg2⟩ := ho.stored j (.int .i64 ((R * 1000000000 + a[j]) / d))
      rw [intsV_set, zeros_set] at ho2
      have hb2 := hb.grown hg2 hb.size (fun g hg => by cases hg; exact Nat.le_refl _)
      have hm1 : ((j + 1 : Nat) : Int) - 1 = (j : Int) := by omega
      rw [hm1]
      have hdne : ¬ d = 0 := by omega
      clear hm1 hz hca ho hg2 hlen hda
      go_wp2
      go_roundw
      case rel => exact ⟨j, _, _, by omega, rfl, rfl, HN, ho2, hb2⟩
      case measure => simp [intOf]
    · obtain rfl : k = 0 := by omega
      rw [List.replicate_zero, List.nil_append] at ho
      have hql : qs.length = a.length := by have := HR.out.2.2.2; omega
      rw [← hql] at ho
      have HF := Lib.hid HR.out.done
      rw [hql] at ho
      have HO : Hid (wr.ownsRow w.heap.size 3 1 (.slice (some ⟨w.heap.size, 0, none⟩) a.length a.length) qs.length (intsV qs)) := Lib.hid (by rw [hql]; exact ho)
      clear hql ho
      go_wp2_with fail
      refine (specTrim_any _ qs w.heap.size _ (by have := HR.out.2.2.2; omega) HO.out).mono ?_
      rintro e w2 ⟨rfl, v2, rfl, ho2⟩
      rw [HF.out.1] at ho2
      go_wp2
      go_ret2
      exact ⟨v2, by rw [HF.out.2]; rfl, ho2, hb⟩

theorem specMulV_any (va vb : Value) (a b : List Int) (la ha lb hb : Nat) (w : World) (hal : a.length ≤ 50) (hbl : b.length ≤ 50) (hha : ha ≤ w.heap.size) (hhb : hb ≤ w.heap.size) (oa : DigN a) (ob : DigN b)
    (hra : Row w la ha va (intsV a)) (hrb : Row w lb hb vb (intsV b)) : Calls Tryz.prog 169 #[va, vb] w (NewInts (limbs (nval a * nval b).toNat) w) := by
  by_cases h0 : a.length = 0 ∨ b.length = 0
  · have e : nval a * nval b = 0 := by
      rcases h0 with h | h
      · rw [List.eq_nil_of_length_eq_zero h]; exact Int.zero_mul _
      · rw [List.eq_nil_of_length_eq_zero h]; exact Int.mul_zero _
    rw [e, show limbs (0 : Int).toNat = [] from limbs_none]
    exact specMul_nil va vb a b la ha lb hb w hal hbl h0 hra hrb
  · have h := mul_val' a b oa ob
    have e := trim_limbs _ h.2.1
    rw [h.1] at e
    rw [← e]
    exact specMul_any va vb a b la ha lb hb w hal hbl (by omega) (by omega) hha hhb oa ob hra hrb
theorem specSubV_any (va vb : Value) (a b : List Int) (la ha lb hb : Nat) (w : World) (hal : a.length ≤ 1048576) (hbl : b.length ≤ a.length) (hha : ha ≤ w.heap.size) (hhb : hb ≤ w.heap.size) (oa : DigN a) (ob : DigN b) (hle : nval b ≤ nval a)
    (hra : Row w la ha va (intsV a)) (hrb : Row w lb hb vb (intsV b)) : Calls Tryz.prog 194 #[va, vb] w (NewInts (limbs (nval a - nval b).toNat) w) := by
  have h := subL_val a b 0 oa ob hbl (by omega) (by omega) (by omega)
  have e := trim_limbs _ h.2.1
  rw [h.1, Int.sub_zero] at e
  rw [← e]
  exact specSub_any va vb a b la ha lb hb w hal (by omega) hha hhb oa ob hra hrb h.2.2

set_option maxHeartbeats 1000000 in
set_option maxRecDepth 100000 in
theorem specDigit_any (vr vb : Value) (r b : List Int) (lr hr lb hb_ : Nat) (w : World) (hrl : r.length ≤ 1048576) (hbl : b.length ≤ 50) (hhr : hr ≤ w.heap.size) (hhb : hb_ ≤ w.heap.size) (or_ : DigN r ∧ r.getLastD 1 ≠ 0) (ob : DigN b ∧ b.getLastD 1 ≠ 0)
    (hb0 : 0 < nval b) (hlt : nval r < 1000000000 * nval b) (hrr : Row w lr hr vr (intsV r)) (hrb : Row w lb hb_ vb (intsV b)) :
    Calls Tryz.prog 193 #[vr, vb] w fun e w' => e = .returned (.int .i64 (nval r / nval b)) ∧ Below w.heap.size w w' := by
  have hb1 : 0 < b.length := by
    rcases Nat.eq_zero_or_pos b.length with h | h
    · rw [List.eq_nil_of_length_eq_zero h] at hb0; exact absurd hb0 (by decide)
    · exact h
  have HQ := Lib.hid (show 0 ≤ nval r / nval b ∧ nval r / nval b ≤ 999999999 from ⟨Int.ediv_nonneg (nval_nonneg r or_.1) (by omega), by have := Int.ediv_lt_of_lt_mul hb0 hlt; omega⟩)
  have HL := Lib.hid (fun q : Int => digit_le q (nval r) (nval b) hb0)
  have OR := Lib.hid or_
  have OB := Lib.hid ob
  clear or_ ob hlt hb0
  go_enter Tryz.func193, Tryz.ntmps193
  go_wp2
  go_loopw [5, 6] (fun x y wr => ∃ lo hi : Int, x = .int .i64 lo ∧ y = .int .i64 hi ∧ 0 ≤ lo ∧ hi ≤ 999999999 ∧ lo ≤ hi ∧ Hid (lo ≤ nval r / nval b ∧ nval r / nval b ≤ hi) ∧ Below w.heap.size w wr) (fun x y _ => (intOf y - intOf x).toNat)
  case atStart => exact ⟨0, 999999999, rfl, rfl, by omega, by omega, by omega, HQ, Below.refl _ _⟩
  case round =>
    obtain ⟨lo, hi, rfl, rfl, h0, h9, hlh, HB, hb⟩ := hrel
    by_cases hc : lo < hi
    · have hq0 : 0 < (lo + hi + 1) / 2 := by omega
      have hq9 : (lo + hi + 1) / 2 ≤ 999999999 := by omega
      have hql : lo < (lo + hi + 1) / 2 := by omega
      have hqh : (lo + hi + 1) / 2 ≤ hi := by omega
      obtain ⟨q, HE⟩ : ∃ q, Hid (q = (lo + hi + 1) / 2) := ⟨_, Lib.hid rfl⟩
      have hz := hb.size
      go_wp2_with fail
      rw [← HE.out] at hq0 hq9 hql hqh ⊢
      refine (specNatOf_any q _ (by omega)).mono ?_
      rintro e w1 ⟨v1, rfl, o1, b1⟩
      have HLQ := Lib.hid (show limbs q.toNat = [q] by rw [limbs, dif_neg (by omega), show q.toNat / 1000000000 = 0 by omega, limbs_none, show ((q.toNat % 1000000000 : Nat) : Int) = q by omega])
      rw [HLQ.out] at o1
      go_wp2_with fail
      have bb1 : Below w.heap.size w w1 := Below.next hb b1
      refine (specMulV_any vb v1 b [q] lb hb_ _ _ _ hbl (by simp) (by have := bb1.size; omega) (Nat.le_refl _) OB.out.1 (dig_one (by omega) (by omega)) (hrb.below bb1 hhb) (Row.of_own o1)).mono ?_
      rintro e w2 ⟨v2, rfl, o2, b2⟩
      have HV : Hid (nval b * nval [q] = q * nval b) := Lib.hid (by show nval b * (q + 1000000000 * 0) = _; rw [Int.mul_zero, Int.add_zero, Int.mul_comm])
      have bb2 : Below w.heap.size w w2 := Below.next bb1 b2
      rw [HV.out] at o2
      have hnn : 0 ≤ q * nval b := Int.mul_nonneg (by omega) (nval_nonneg b OB.out.1)
      have HLV := Lib.hid (limbs_toNat (q * nval b) hnn)
      have HLN := Lib.hid (show (limbs (q * nval b).toNat).length ≤ 1048576 from Nat.le_trans (limbs_length_le _ 51 (by
        rw [Int.toNat_of_nonneg hnn]
        have h1 := nval_lt b OB.out.1
        have h2 := bp_mono hbl
        have h3 : bp 51 = 1000000000 * bp 50 := rfl
        have h4 := Int.mul_le_mul (show q ≤ 999999999 from hq9) (show nval b ≤ bp 50 by omega) (nval_nonneg b OB.out.1) (by omega)
        have h5 := bp_pos 50
        omega)) (by decide))
      clear hnn
      go_wp2_with fail
      refine (specCmp_any v2 vr (limbs (q * nval b).toNat) r _ _ lr hr _ HLN.out hrl ⟨limbs_digN _, limbs_lastN _⟩ OR.out (Row.of_own o2) (hrr.below bb2 hhr)).mono ?_
      rintro e w3 ⟨rfl, qd, rfl⟩
      rw [HLV.out]
      have hb3 := below_drewN bb2 qd
      by_cases hle : q * nval b ≤ nval r
      · have hcl : cmpI (q * nval b) (nval r) ≤ 0 := by unfold cmpI; split; omega; split <;> omega
        have HQ2 := Lib.hid ((HL.out q).1 hle)
        clear hle
        go_wp2
        exact ⟨⟨q, hi, rfl, rfl, by omega, h9, hqh, Lib.hid ⟨HQ2.out, HB.out.2⟩, hb3⟩, by simp [intOf]; omega⟩
      · have hcl : ¬ cmpI (q * nval b) (nval r) ≤ 0 := by rw [cmp_gt (by omega)]; omega
        have HQ2 := Lib.hid (Int.not_le.1 (fun h => hle ((HL.out q).2 h)))
        clear hle
        go_wp2
        exact ⟨⟨lo, q - 1, rfl, rfl, h0, by omega, by omega, Lib.hid ⟨HB.out.1, by have := HQ2.out; omega⟩, hb3⟩, by simp [intOf]; omega⟩
    · obtain rfl : lo = hi := by omega
      have HF := Lib.hid (show lo = nval r / nval b by have := HB.out; omega)
      go_wp2
      go_ret
      exact ⟨ret_int HF.out, hb⟩
end Go.Proofs.YtcenmdiblbooeaaGreatDoor

namespace Go.Proofs.YtcenmdiblbooeaaGreatDoor
open Go.RowKit

/-- append of a row of the call's own, nil let in -/
theorem append_owned {P : Program} {w : World} {ops : Array Oper} {rest : List Oper} {o : Oper} {a : Act} {Q : Exit → Act → World → Prop} (hgd : o.guard = none) (s x : Operand) (t : TypeId)
    (ho : o.op = .call { callee := .builtin .append, args := #[s, x], argTypes := #[t, t] }) (base : Nat) (e : TypeId) (i : TypeInfo) (z : Value) (bytes : Nat) (ht : P.underlying t = some (.slice e)) (hi : P.info? e = some i)
    (hz : i.zero = some z) (hsize : i.size = 1) (hby : i.bytes = bytes) (hzs : z.cells.size = 1) (v : Value) (n : Nat) (xs : List Value) (hs : a.eval s = v) (hown : w.ownsRow base e 1 v n xs)
    (vx : Value) (m base2 : Nat) (e2 : TypeId) (news : List Value) (hx : a.eval x = vx) (hsrc : w.ownsRow base2 e2 1 vx m news) (h1 : ∀ u ∈ news, u.oneCell' = true) (h63 : n + m ≤ maxLen) (hbytes : (n + m) * bytes ≤ 140737488355328) (hbase : base ≤ w.heap.size)
    (h : ∀ v' w', w'.ownsRow base e 1 v' (n + m) (xs ++ news) → w.grownBy w' v.ownBlock → wpList P ops Q rest (a.put o.dst v') w') : wpList P ops Q (o :: rest) a w := by
  have hm : news.length = m := by have := hsrc.1; omega
  rcases hsrc.2 with ⟨rfl, rfl⟩ | ⟨g, cap, cur, rfl, _⟩
  · obtain rfl : news = [] := List.eq_nil_of_length_eq_zero hm
    exact wpList_append_own_none hgd s x t ho base e i 1 ht hi v n xs hs hown hx (h v w (by simpa using hown) (World.grownBy.refl _ _))
  · refine wpList_append_own _ hgd s x t ho base e i z 1 bytes ht hi hz hsize hby hzs (by omega) v n xs hs hown ⟨g, 0, none⟩ m cap news hx (by omega) (fun j u hu => hsrc.cells (g := g) rfl j u hu) h1 h63 hbytes hbase ?_
    intro v' w' h2 h3 _
    exact h v' w' h2 h3

/-- two new rows apart from each other -/
def TwoRows (xs ys : List Int) (w : World) (e : Ending) (w' : World) : Prop :=
  ∃ v1 v2, e = .returned (.tuple #[v1, v2]) ∧ w'.ownsRow w.heap.size 3 1 v1 xs.length (intsV xs) ∧ w'.ownsRow w.heap.size 3 1 v2 ys.length (intsV ys) ∧
    (∀ x y, v1.ownBlock = some x → v2.ownBlock = some y → x ≠ y) ∧ Below w.heap.size w w'

theorem limbs_mono {m n : Int} (h0 : 0 ≤ m) (h : m ≤ n) : (limbs m.toNat).length ≤ (limbs n.toNat).length := by
  rcases Nat.lt_or_ge (limbs n.toNat).length (limbs m.toNat).length with hl | hl
  · have := nval_short (limbs n.toNat) (limbs m.toNat) (limbs_digN _) (limbs_digN _) hl (limbs_lastN _)
    rw [limbs_toNat m h0, limbs_toNat n (by omega)] at this
    omega
  · exact hl
theorem own_base {w : World} {base base' n : Nat} {e : TypeId} {v : Value} {xs : List Value} (h : w.ownsRow base e 1 v n xs) (hb : base' ≤ base) : w.ownsRow base' e 1 v n xs := by
  obtain ⟨hl, h | ⟨g, cap, cur, rfl, hg, r⟩⟩ := h
  · exact ⟨hl, .inl h⟩
  · exact ⟨hl, .inr ⟨g, cap, cur, rfl, by omega, r⟩⟩
/-- limb k of a division brought down -/
theorem down_limb {x R : Int} (hx0 : 0 ≤ x) (hx1 : x ≤ 999999999) (hR : 0 ≤ R) : trimL (x :: limbs R.toNat) = limbs (R * 1000000000 + x).toNat := by
  have hd : DigN (x :: limbs R.toNat) := DigN.cons hx0 hx1 (limbs_digN _)
  rw [trim_limbs _ hd]
  congr 2
  show x + 1000000000 * nval (limbs R.toNat) = _
  rw [limbs_toNat R hR]
  omega
/-- the state of the loop: the quotient so far, and the rest -/
def DivS (w : World) (a : List Int) (D : Int) (k : Nat) (v : Value) (wr : World) : Prop :=
  ∃ (R : Int) (qs : List Int), DivR a D k R qs ∧ wr.ownsRow w.heap.size 3 1 (.slice (some ⟨w.heap.size, 0, none⟩) a.length a.length) a.length (intsV (List.replicate k 0 ++ qs)) ∧
    wr.ownsRow (w.heap.size + 1) 3 1 v (limbs R.toNat).length (intsV (limbs R.toNat)) ∧ Below w.heap.size w wr

set_option maxHeartbeats 2000000 in
set_option maxRecDepth 100000 in
theorem specDivBig_any (va vb : Value) (a b : List Int) (la ha lb hb_ : Nat) (w : World) (hal : a.length ≤ 50) (hbl : b.length ≤ 50) (hb2 : 2 ≤ b.length) (hha : ha ≤ w.heap.size) (hhb : hb_ ≤ w.heap.size) (oa : DigN a) (ob : DigN b ∧ b.getLastD 1 ≠ 0)
    (hra : Row w la ha va (intsV a)) (hrb : Row w lb hb_ vb (intsV b)) :
    Calls Tryz.prog 164 #[va, vb] w (TwoRows (limbs (nval a / nval b).toNat) (limbs (nval a % nval b).toNat) w) := by
  obtain ⟨i0, hi0, hz0, hz1, hz2⟩ := info_parts intInfo
  have hD : 0 < nval b := by
    have h1 := nval_ge b ob.1 ob.2 (by omega)
    have h2 := bp_pos (b.length - 1)
    omega
  have hra0 := hra
  have hrb0 := hrb
  obtain ⟨A, c, rfl, hA⟩ := hra
  obtain ⟨B, d, rfl, hB⟩ := hrb
  rw [intsV_length] at hra0 hrb0 ⊢
  rw [intsV_length]
  have HA := Lib.hid hA
  have OA := Lib.hid oa
  have OB := Lib.hid ob
  have HDP := Lib.hid hD
  have hmk := make_ints a.length (by omega)
  have hb1 : ((b.length : Int) == 1) = false := by rw [beq_eq_false_iff_ne]; omega
  clear hA hB oa ob hD
  go_enter Tryz.func164, Tryz.ntmps164
  go_wp2
  go_loopw [9, 10] (fun v i wr => ∃ k : Nat, k ≤ a.length ∧ i = .int .i64 ((k : Int) - 1) ∧ DivS w a (nval b) k v wr) (fun _ i _ => (intOf i + 1).toNat)
  case atStart =>
    refine ⟨a.length, Nat.le_refl _, rfl, 0, [], DivR.start a (nval b), ?_, ?_, ((Below.refl _ _).alloc (Nat.le_refl _) _).alloc (by simp) _⟩
    · have h := World.ownsRow_lit (e := 3) (size := 1) (base := w.heap.size) w (madeCells #[.int .i64 0] a.length) a.length (Nat.le_refl _) (by unfold maxLen; omega) (by rw [size_madeCells, Nat.mul_one])
      rw [toList_madeCells_one] at h
      exact own_alloc (by simpa [intsV] using h) _
    · rw [show limbs (0 : Int).toNat = [] from limbs_none]
      have h := World.ownsRow_made (w.alloc (.cells (madeCells #[.int .i64 0] a.length) 3)) (e := 3) (size := 1) (base := w.heap.size + 1) #[] 0 (by simp) (Nat.zero_le _) rfl
      simpa [intsV] using h
  case round =>
    obtain ⟨k, hk, rfl, R, qs, hR, hout, hrest, hb⟩ := hrel
    have hRb := hR.bound HDP.out
    have hR0 := hRb.1
    have HR := Lib.hid hR
    have HRB := Lib.hid hRb
    clear hR hRb
    have hsz := hb.size
    have hsz2 : w.heap.size < wr.heap.size := (own_lt hout (g := w.heap.size) rfl).2
    by_cases hz : 0 < k
    · obtain ⟨j, rfl⟩ : ∃ j, k = j + 1 := ⟨k - 1, by omega⟩
      have hlt : j < a.length := by omega
      obtain ⟨p, rfl, _, hpb, hca⟩ := HA.out j _ (intsV_at a j hlt)
      have hca' : wr.cell? (p.add j) = some (.int .i64 a[j]) := (hb.cell (by rw [block_add]; omega)).trans hca
      have hda := OA.out.at_ j hlt
      have hm1 : ((j + 1 : Nat) : Int) - 1 = (j : Int) := by omega
      rw [hm1]
      have HDN := Lib.hid (down_limb hda.1 hda.2 hR0)
      have hrl : (limbs R.toNat).length ≤ 50 := limbs_length_le _ 50 (by
        have h1 := nval_lt b OB.out.1
        have h2 := bp_mono hbl
        have := HRB.out
        omega)
      have hown0 : (wr.alloc (.cells #[.int .i64 a[j]] 3)).ownsRow (w.heap.size + 1) 3 1 (.slice (some ⟨wr.heap.size, 0, none⟩) 1 1) 1 [.int .i64 a[j]] :=
        ⟨rfl, .inr ⟨wr.heap.size, 1, _, rfl, by omega, heap_alloc_new wr _, Nat.le_refl _, by unfold maxLen; omega, rfl, rfl⟩⟩
      clear hm1 hz hca
      go_wp2_with (at_builtin; refine append_owned rfl _ _ 23 rfl (w.heap.size + 1) 3 i0 (.int .i64 0) 8 Tryz.underlying23 hi0 hz0 hz1 hz2 rfl (.slice (some ⟨wr.heap.size, 0, none⟩) 1 1) 1 [.int .i64 a[j]] rfl hown0 _ _ _ _ _ rfl (own_alloc hrest _) ?c2 ?c3 ?c4 ?c5 ?_)
      case c2 => intro u hu; obtain ⟨x, _, rfl⟩ := List.mem_map.1 hu; rfl
      case c3 => unfold maxLen; omega
      case c4 => omega
      case c5 => simp; omega
      intro v1 w1 hown1 hg1
      have hown2 : w1.ownsRow (w.heap.size + 1) 3 1 v1 (a[j] :: limbs R.toNat).length (intsV (a[j] :: limbs R.toNat)) := by
        rw [List.length_cons, Nat.add_comm (limbs R.toNat).length]
        exact hown1
      have hout1 := own_apart (own_alloc hout _) hg1 (fun g k hg hk => by simp [Value.ownBlock] at hg hk; omega)
      have hbb1 : Below w.heap.size w w1 := (hb.alloc hsz _).grown hg1 (by simp; omega) (fun k hk => by cases hk; exact hsz)
      clear hown0 hown1 hg1 hout hrest
      go_wp2_with fail
      refine (specTrim_any v1 (a[j] :: limbs R.toNat) (w.heap.size + 1) _ (by simp; omega) hown2).mono ?_
      rintro e w2 ⟨rfl, v2, rfl, ho2⟩
      rw [HDN.out] at ho2
      clear hown2
      have hda0 := hda.1
      have hda1 := hda.2
      have HN := Lib.hid (HR.out.next HDP.out OA.out hlt)
      have HDG := Lib.hid (HR.out.digit HDP.out OA.out hlt)
      have hqsl := Lib.hid HR.out.2.2.2
      have HBD : Hid (R * 1000000000 + a[j] < 1000000000 * nval b) := Lib.hid (by have := HRB.out.2; omega)
      obtain ⟨N, HNE⟩ : ∃ N, Hid (N = R * 1000000000 + a[j]) := ⟨_, Lib.hid rfl⟩
      rw [← HNE.out] at ho2 HN HDG HBD
      have hN0 : 0 ≤ N := by rw [HNE.out]; omega
      have HNV := Lib.hid (limbs_toNat N hN0)
      have hnl : (limbs N.toNat).length ≤ 51 := limbs_length_le _ 51 (by
        have h1 := nval_lt b OB.out.1
        have h2 := bp_mono hbl
        have h3 : bp 51 = 1000000000 * bp 50 := rfl
        have := HBD.out
        omega)
      have hsz1 := hbb1.size
      have r2 := Row.of_own ho2
      go_wp2_with fail
      refine (specCmp_any v2 _ (limbs N.toNat) b _ _ lb hb_ _ (by omega) (by omega) ⟨limbs_digN _, limbs_lastN _⟩ OB.out r2 (hrb0.below hbb1 hhb)).mono ?_
      rintro e w3 ⟨rfl, q3, rfl⟩
      rw [HNV.out]
      have hout3 := own_drew hout1 q3
      have ho3 := own_drew ho2 q3
      have hbb3 := below_drewN hbb1 q3
      clear r2 hout1 ho2
      by_cases hless : N < nval b
      · have HC := Lib.hid (cmp_lt hless)
        have HS : Hid (DivS w a (nval b) j v2 (w1.drewN q3)) := Lib.hid (by
          have h := HN.out
          rw [Int.emod_eq_of_lt hN0 hless, Int.ediv_eq_zero_of_lt hN0 hless] at h
          refine ⟨N, 0 :: qs, h, ?_, ho3, hbb3⟩
          rw [show List.replicate j (0 : Int) ++ 0 :: qs = List.replicate (j + 1) 0 ++ qs by rw [List.replicate_succ', List.append_assoc]; rfl]
          exact hout3)
        clear hless
        rw [HC.out]
        go_wp2
        exact ⟨⟨j, by omega, rfl, HS.out⟩, by simp [intOf]⟩
      · have hcd : ¬ cmpI N (nval b) < 0 := by unfold cmpI; rw [if_neg hless]; split <;> omega
        have HG := Lib.hid (show nval b ≤ N by omega)
        clear hless
        go_wp2_with fail
        refine (specDigit_any v2 _ (limbs N.toNat) b _ _ lb hb_ _ (by omega) hbl (Nat.le_refl _) (by have := hbb3.size; omega) ⟨limbs_digN _, limbs_lastN _⟩ OB.out HDP.out (by rw [HNV.out]; exact HBD.out) (Row.of_own ho3) (hrb0.below hbb3 hhb)).mono ?_
        rintro e w4 ⟨rfl, b4⟩
        rw [HNV.out]
        have hout4 := own_below hout3 b4
        have ho4 := own_below ho3 b4
        have hbb4 : Below w.heap.size w w4 := Below.next hbb3 b4
        have hq0 := HDG.out.1
        have hq1 := HDG.out.2
        obtain ⟨q, HQE⟩ : ∃ q, Hid (q = N / nval b) := ⟨_, Lib.hid rfl⟩
        rw [← HQE.out] at hq0 hq1 HN ⊢
        have hlen : (List.replicate (j + 1) (0 : Int) ++ qs).length = a.length := by have := hqsl.out; simp; omega
        obtain ⟨cu, hcell⟩ : ∃ u, w4.cell? ⟨w.heap.size, j, none⟩ = some u := ⟨_, (hout4.cellAt j (by omega)).trans (List.getElem?_eq_getElem (by rw [intsV_length, hlen]; exact hlt))⟩
        have hfr := hout4.frozenAt j
        obtain ⟨hout5, hg5⟩ := hout4.stored j (.int .i64 q)
        rw [intsV_set, zeros_set] at hout5
        have ho5 := own_apart ho4 hg5 (fun g k hg hk => by cases hk; have := (own_lt ho4 hg).1; omega)
        have hbb5 := hbb4.grown hg5 hbb4.size (fun g hg => by cases hg; exact Nat.le_refl _)
        clear hout3 ho3 hbb3 hout4 ho4 hg5 hlen hcd hb hbb1
        go_wp2_with fail
        refine (specNatOf_any q _ (by omega)).mono ?_
        rintro e w6 ⟨v6, rfl, o6, b6⟩
        have hbb6 : Below w.heap.size w w6 := Below.next hbb5 b6
        have hout6 := own_below hout5 b6
        have ho6 := own_below ho5 b6
        clear hout5 ho5 hbb5 hbb4
        go_wp2_with fail
        refine (specMulV_any _ v6 b (limbs q.toNat) lb hb_ _ _ _ hbl (Nat.le_trans (limbs_length_le _ 1 (by show ((q.toNat : Nat) : Int) < 1000000000 * 1; omega)) (by decide)) (by have := hbb6.size; omega) (Nat.le_refl _) OB.out.1 (limbs_digN _) (hrb0.below hbb6 hhb) (Row.of_own o6)).mono ?_
        rintro e w7 ⟨v7, rfl, o7, b7⟩
        rw [limbs_toNat q hq0] at o7
        have hbb7 : Below w.heap.size w w7 := Below.next hbb6 b7
        have hout7 := own_below hout6 b7
        have ho7 := own_below ho6 b7
        clear hout6 ho6 hbb6 o6
        have HP : Hid (0 ≤ nval b * q ∧ nval b * q ≤ N ∧ N - nval b * q = N % nval b) := Lib.hid (by
          have h1 := Int.emod_add_mul_ediv N (nval b)
          have h2 := Int.emod_nonneg N (show nval b ≠ 0 by have := HDP.out; omega)
          rw [← HQE.out] at h1
          exact ⟨Int.mul_nonneg (by have := HDP.out; omega) hq0, by omega, by omega⟩)
        go_wp2_with fail
        refine (specSubV_any v2 v7 (limbs N.toNat) (limbs (nval b * q).toNat) _ _ _ _ _ (by omega) (limbs_mono HP.out.1 HP.out.2.1) (Nat.le_refl _) (Nat.le_refl _) (limbs_digN _) (limbs_digN _) (by rw [HNV.out, limbs_toNat _ HP.out.1]; exact HP.out.2.1) (Row.of_own ho7) (Row.of_own o7)).mono ?_
        rintro e w8 ⟨v8, rfl, o8, b8⟩
        rw [HNV.out, limbs_toNat _ HP.out.1, HP.out.2.2] at o8
        have HS : Hid (DivS w a (nval b) j v8 w8) := Lib.hid ⟨_, _, HN.out, own_below hout7 b8, own_base o8 (by have := (own_lt hout7 (g := w.heap.size) rfl).2; omega), Below.next hbb7 b8⟩
        clear hout7 ho7 o7 o8
        go_wp2
        exact ⟨⟨j, by omega, rfl, HS.out⟩, by simp [intOf]⟩
    · obtain rfl : k = 0 := by omega
      have HF := Lib.hid HR.out.done
      have hql : qs.length = a.length := by have := HR.out.2.2.2; omega
      have hqb : qs.length ≤ 50 := by omega
      have HT := Lib.hid (fun W : World => specTrim_at (some ⟨w.heap.size, 0, none⟩) a.length qs w.heap.size W (by omega))
      have HO : Hid (wr.ownsRow w.heap.size 3 1 (.slice (some ⟨w.heap.size, 0, none⟩) a.length a.length) a.length (intsV qs)) := Lib.hid (by simpa using hout)
      rw [hql] at HT
      clear hql hout hqb
      go_wp2_with fail
      refine (HT.out _ HO.out).mono ?_
      rintro e w2 ⟨rfl, rfl, ho2⟩
      rw [HF.out.1] at ho2 ⊢
      go_wp2
      go_ret2
      refine ⟨_, _, rfl, ho2, ?_, ?_, hb⟩
      · rw [← HF.out.2]
        exact own_base hrest (by omega)
      · intro x y hx hy
        have h1 := (own_lt hrest hy).1
        have h2 : w.heap.size = x := by simpa [Value.ownBlock] using hx
        omega
end Go.Proofs.YtcenmdiblbooeaaGreatDoor

namespace Go.Proofs.YtcenmdiblbooeaaGreatDoor
open Go.RowKit

/-- a nil slice of the call's own, or an argument, has no capacity -/
def NoCap (v : Value) : Prop := ∀ n c, v = .slice none n c → c = 0
theorem own_noCap {w : World} {base n : Nat} {e : TypeId} {v : Value} {xs : List Value} (h : w.ownsRow base e 1 v n xs) : NoCap v := by
  intro m c e1
  rcases h.2 with ⟨rfl, _⟩ | ⟨g, cap, cur, rfl, _⟩
  · injection e1 with _ _ e3
    exact e3.symm
  · cases e1
/-- append of a slice that reads as a list, nil let in -/
theorem append_row {P : Program} {w : World} {ops : Array Oper} {rest : List Oper} {o : Oper} {a : Act} {Q : Exit → Act → World → Prop} (hgd : o.guard = none) (s x : Operand) (t : TypeId)
    (ho : o.op = .call { callee := .builtin .append, args := #[s, x], argTypes := #[t, t] }) (base : Nat) (e : TypeId) (i : TypeInfo) (z : Value) (bytes : Nat) (ht : P.underlying t = some (.slice e)) (hi : P.info? e = some i)
    (hz : i.zero = some z) (hsize : i.size = 1) (hby : i.bytes = bytes) (hzs : z.cells.size = 1) (v : Value) (n : Nat) (xs : List Value) (hs : a.eval s = v) (hown : w.ownsRow base e 1 v n xs)
    (vx : Value) (lo hi' : Nat) (news : List Value) (hx : a.eval x = vx) (hr : Row w lo hi' vx news) (hnc : NoCap vx) (h1 : ∀ u ∈ news, u.oneCell' = true) (h63 : n + news.length ≤ maxLen) (hbytes : (n + news.length) * bytes ≤ 140737488355328) (hbase : base ≤ w.heap.size)
    (h : ∀ v' w', w'.ownsRow base e 1 v' (n + news.length) (xs ++ news) → w.grownBy w' v.ownBlock → wpList P ops Q rest (a.put o.dst v') w') : wpList P ops Q (o :: rest) a w := by
  obtain ⟨A, c, rfl, hA⟩ := hr
  cases A with
  | none =>
    obtain rfl : news = [] := by
      cases news with
      | nil => rfl
      | cons y r => obtain ⟨_, e, _⟩ := hA 0 y rfl; cases e
    obtain rfl : c = 0 := hnc _ _ rfl
    exact wpList_append_own_none hgd s x t ho base e i 1 ht hi v n xs hs hown hx (h v w (by simpa using hown) (World.grownBy.refl _ _))
  | some ad =>
    refine wpList_append_own _ hgd s x t ho base e i z 1 bytes ht hi hz hsize hby hzs (by omega) v n xs hs hown ad news.length c news hx (by omega) (fun j u hu => ?_) h1 h63 hbytes hbase ?_
    · obtain ⟨p, e, _, _, hc⟩ := hA j u hu
      cases e
      exact hc
    · intro v' w' h2 h3 _
      exact h v' w' h2 h3

set_option maxHeartbeats 400000 in
set_option maxRecDepth 100000 in
theorem specDivOne_any (va vb : Value) (a : List Int) (d : Int) (la ha lb hb_ : Nat) (w : World) (hal : a.length ≤ 1048576) (hha : ha ≤ w.heap.size) (oa : DigN a) (hd0 : 0 < d) (hd1 : d ≤ 999999999)
    (hra : Row w la ha va (intsV a)) (hrb : Row w lb hb_ vb (intsV [d])) :
    Calls Tryz.prog 164 #[va, vb] w (TwoRows (limbs (nval a / d).toNat) (limbs (nval a % d).toNat) w) := by
  obtain ⟨B, c, rfl, hB⟩ := hrb
  obtain ⟨p, rfl, _, _, hcb⟩ := hB 0 _ rfl
  have hcb0 : w.cell? p = some (.int .i64 d) := hcb
  rw [intsV_length]
  have OA := Lib.hid oa
  have hm := Lib.hid (show 0 ≤ nval a % d ∧ nval a % d < d from ⟨Int.emod_nonneg _ (by omega), Int.emod_lt_of_pos _ hd0⟩)
  clear hB oa
  go_enter Tryz.func164, Tryz.ntmps164
  go_wp2_with fail
  refine (specSmall_any va a d la ha _ hal hha hd0 hd1 OA.out hra).mono ?_
  rintro e w1 ⟨v1, rfl, o1, b1⟩
  go_wp2_with fail
  refine (specNatOf_any _ _ (by have := hm.out; omega)).mono ?_
  rintro e w2 ⟨v2, rfl, o2, b2⟩
  go_wp2
  go_ret2
  exact ⟨v1, v2, rfl, own_below o1 b2, own_base o2 b1.size, (Lies.of o1).apart (Lies.of o2) (.inl (Nat.le_refl _)), Below.next b1 b2⟩

theorem one_of_len {b : List Int} (h : b.length = 1) : b = [b[0]] := by
  match b, h with
  | [x], _ => rfl
theorem specDiv_any (va vb : Value) (a b : List Int) (la ha lb hb_ : Nat) (w : World) (hal : a.length ≤ 50) (hbl : b.length ≤ 50) (hb0 : 0 < b.length) (hha : ha ≤ w.heap.size) (hhb : hb_ ≤ w.heap.size) (oa : DigN a) (ob : DigN b ∧ b.getLastD 1 ≠ 0)
    (hra : Row w la ha va (intsV a)) (hrb : Row w lb hb_ vb (intsV b)) :
    Calls Tryz.prog 164 #[va, vb] w (TwoRows (limbs (nval a / nval b).toNat) (limbs (nval a % nval b).toNat) w) := by
  by_cases h1 : b.length = 1
  · have hv : nval b = b[0] := by
      conv => lhs; rw [one_of_len h1]
      show b[0] + 1000000000 * 0 = _
      omega
    have hd := ob.1.at_ 0 hb0
    have hne : b[0] ≠ 0 := by
      have := ob.2
      rw [one_of_len h1] at this
      simpa using this
    rw [hv]
    exact specDivOne_any va vb a b[0] la ha lb hb_ w (by omega) hha oa (by omega) hd.2 hra (by rw [← one_of_len h1]; exact hrb)
  · exact specDivBig_any va vb a b la ha lb hb_ w hal hbl (by omega) hha hhb oa ob hra hrb

/-- what NatDiv answers -/
def divN (a b : List Int) : List Int × List Int := if natOkB a = true ∧ natOkB b = true ∧ 0 < b.length then (limbs (nval a / nval b).toNat, limbs (nval a % nval b).toNat) else ([], [])
theorem two_nil {w w' : World} (hb : Below w.heap.size w w') : TwoRows [] [] w (.returned (.tuple #[.slice none 0 0, .slice none 0 0])) w' := ⟨_, _, rfl, nil_own, nil_own, (fun x y hx _ => by cases hx), hb⟩

end Go.Proofs.YtcenmdiblbooeaaGreatDoor

namespace Go.Proofs.YtcenmdiblbooeaaGreatDoor
open Go.RowKit

/-- a parameter's box, new -/
theorem own_up {w w' : World} {base n : Nat} {e : TypeId} {v : Value} {xs : List Value} (h : w.ownsRow base e 1 v n xs) (hb : Below w.heap.size w w') : w'.ownsRow base e 1 v n xs := own_below h hb

set_option maxHeartbeats 400000 in
set_option maxRecDepth 100000 in
theorem specIntOk_any (v : Value) (x : SI) (w : World) (hl : x.2.length ≤ 1048576) (h : RdS w v x) :
    Calls Tryz.prog 125 #[v] w fun e w' => e = .returned (.bool (okS x)) ∧ Below w.heap.size w w' := by
  obtain ⟨n, xs⟩ := x
  obtain ⟨u, rfl, hp⟩ := h
  obtain ⟨A, c, rfl⟩ := row_form hp
  rw [intsV_length] at hp ⊢
  simp only at hl hp ⊢
  have hbx : Below w.heap.size w (w.alloc (.cells #[.bool n, .slice A xs.length c] 25)) := below_al (Below.refl _ _) _
  have HV := Lib.hid (show okS (n, xs) = (natOkB xs && (!n || decide (0 < xs.length))) from rfl)
  by_cases ok : natOkB xs = true
  · rw [ok] at HV
    go_enter Tryz.func125, Tryz.ntmps125
    go_wp2_with fail
    refine (specNatOk_any _ xs 0 w.heap.size _ hl (hp.below hbx (Nat.le_refl _))).mono ?_
    rintro e w1 ⟨rfl, rfl⟩
    rw [ok]
    cases n with
    | false =>
      go_wp2
      go_ret
      exact ⟨ret_bool (by rw [HV.out]; rfl), hbx⟩
    | true =>
      go_wp2
      go_ret
      exact ⟨ret_bool (by rw [HV.out]; simp), hbx⟩
  · have ok' : natOkB xs = false := by simpa using ok
    rw [ok'] at HV
    clear ok
    go_enter Tryz.func125, Tryz.ntmps125
    go_wp2_with fail
    refine (specNatOk_any _ xs 0 w.heap.size _ hl (hp.below hbx (Nat.le_refl _))).mono ?_
    rintro e w1 ⟨rfl, rfl⟩
    rw [ok']
    go_wp2
    go_ret
    exact ⟨ret_bool (by rw [HV.out]; rfl), hbx⟩

set_option maxHeartbeats 1000000 in
set_option maxRecDepth 100000 in
theorem l04Make_any (n : Bool) (v : Value) (xs : List Int) (base : Nat) (w : World) (hl : xs.length ≤ 1048576) (ho : w.ownsRow base 3 1 v xs.length (intsV xs)) :
    Calls Tryz.prog 67 #[.bool n, v] w (NewS (mkS n (trimL xs)) w) := by
  obtain ⟨i0, hi0, hz0, hz1, hz2⟩ := info_parts intInfo
  have hbx : Below w.heap.size w (w.alloc (.cells #[.bool false, .slice none 0 0] 25)) := below_al (Below.refl _ _) _
  obtain ⟨A, c, rfl⟩ := own_len ho
  have HO := Lib.hid ho
  clear ho
  have hcl : (capL (trimL xs)).length ≤ 50 := by
    unfold capL
    split
    · simp
    · omega
  have HR := Lib.hid (show mkS n (trimL xs) = (n && decide (0 < (capL (trimL xs)).length), capL (trimL xs)) from rfl)
  have hmade : ((w.alloc (.cells #[.bool false, .slice none 0 0] 25)).alloc (.cells #[] 3)).ownsRow w.heap.size 3 1 (.slice (some ⟨w.heap.size + 1, 0, none⟩) 0 0) 0 [] := by
    have h := World.ownsRow_made (base := w.heap.size) (e := 3) (size := 1) (w.alloc (.cells #[.bool false, .slice none 0 0] 25)) #[] 0 hbx.size (Nat.zero_le _) rfl
    simpa using h
  have hbx2 := below_al hbx (.cells #[] 3)
  have HM := Lib.hid hmade
  clear hmade
  have hone : Hid (∀ l : List Int, ∀ u ∈ intsV l, u.oneCell' = true) := Lib.hid (fun l u hu => by obtain ⟨x, _, rfl⟩ := List.mem_map.1 hu; rfl)
  have hsz1 : (w.alloc (.cells #[.bool false, .slice none 0 0] 25)).heap.size = w.heap.size + 1 := by simp
  cases n
  all_goals
    go_enter Tryz.func67, Tryz.ntmps67
    go_wp2_with fail
    refine (specCap_any _ xs base _ hl (own_up HO.out hbx)).mono ?_
    rintro e w1 ⟨rfl, v1, rfl, o1⟩
    have HO1 := Lib.hid (own_alloc o1 (.cells #[] 3))
    have HR2 := HR.out
    generalize capL (trimL xs) = ys at *
    obtain ⟨A1, c1, rfl⟩ := own_len o1
    have HRR := Lib.hid HR2
    clear o1 HR2 HR
    go_wp2_with (at_builtin; refine append_owned rfl _ _ 23 rfl w.heap.size 3 i0 (.int .i64 0) 8 Tryz.underlying23 hi0 hz0 hz1 hz2 rfl _ 0 [] rfl HM.out _ ys.length base 3 (intsV ys) rfl HO1.out (hone.out ys) (by unfold maxLen; omega) (by omega) hbx2.size ?_)
    intro v2 w2 o2 g2
    obtain ⟨A2, c2, rfl⟩ := own_len o2
    have b2 : Below w.heap.size w w2 := hbx2.grown g2 hbx2.size (fun k hk => by cases hk; show w.heap.size ≤ w.heap.size + 1; omega)
    have hbox : At [w.heap.size] (BoxAt w.heap.size #[.bool false, .slice none 0 0] 25) w2 :=
      ((box_new w #[.bool false, .slice none 0 0] 25).below (below_al (Below.refl _ _) (.cells #[] 3))).chg (Chg.of_grown g2) (fun i hi hm => by simp at hi; simp [Value.ownBlock] at hm; omega)
    have cz0 : w2.cell? ⟨w.heap.size, 0, none⟩ = some (.bool false) := hbox.here.cell 0 _ rfl
    have cz1 : w2.cell? ⟨w.heap.size, 1, none⟩ = some (.slice none 0 0) := hbox.here.cell 1 _ rfl
    have fz0 := Lib.frozen_of_heap hbox.here 0
    have fz1 := Lib.frozen_of_heap hbox.here 1
    have HO2 := Lib.hid o2
    have HBX := Lib.hid hbox
    have HB2 := Lib.hid b2
    clear o2 g2 hbox b2 hbx2 hbx
    go_wp2
    refine bodyPost_ret (v := .agg #[.bool _, .slice A2 ys.length c2]) (by simp [results, Tryz.results67, go_sem, cz0, cz1]; rfl) rfl ?_
    rw [HRR.out]
    refine ⟨.slice A2 ys.length c2, rfl, ?_, below_set2 HB2.out (Nat.le_refl _)⟩
    have hne := Lib.ownBlock_ne HO2.out HBX.out.here (by decide)
    refine own_stays HO2.out fun i hi => ?_
    have : i ≠ w.heap.size := fun e => hne (by rw [hi, e])
    exact (Below.heap_setCell _ _ _ _ this).trans (Below.heap_setCell _ _ _ _ this)

/-- a result that lies in its cell at block r -/
theorem newS_ret {r : Nat} {u c0 c1 : Value} {x : SI} {w W : World} {B : Nat} (hb : BoxAt r #[c0, c1] 25 W) (o : W.ownsRow B 3 1 u x.2.length (intsV x.2)) (hB : w.heap.size ≤ B) (hr : w.heap.size ≤ r) (hW : Below w.heap.size w W) :
    NewS x w (.returned (.agg #[.bool x.1, u])) ((W.setCell ⟨r, 0, none⟩ (.bool x.1)).setCell ⟨r, 1, none⟩ u) := by
  have hne := Lib.ownBlock_ne o hb (by decide)
  refine ⟨u, rfl, own_low (own_stays o fun i hi => ?_) hB, below_set2 hW hr⟩
  have : i ≠ r := fun e => hne (by rw [hi, e])
  exact (Below.heap_setCell _ _ _ _ this).trans (Below.heap_setCell _ _ _ _ this)
theorem newS_zero {w W : World} (hW : Below w.heap.size w W) : NewS zeroS w (.returned (.agg #[.bool false, .slice none 0 0])) W := ⟨_, rfl, World.ownsRow_nil _ _ _ _, hW⟩
theorem ok_trimL {xs : List Int} (h : natOkB xs = true) : trimL xs = limbs (nval xs).toNat := by rw [trim_limbs xs (natOk_parts h).1]
theorem negS_mk {x : SI} (h : okS x = true) : mkS (!x.1) (trimL x.2) = negS x := by
  have hp := okS_parts h
  have h0 := nval_ok hp.1
  unfold negS
  rw [if_pos h, ok_trimL hp.1, mkS_limbs]
  congr 1
  unfold valS
  cases x.1 <;> simp <;> omega
theorem absS_mk {x : SI} (h : okS x = true) : mkS false (trimL x.2) = absS x := by
  have hp := okS_parts h
  have h0 := nval_ok hp.1
  unfold absS
  rw [if_pos h, ok_trimL hp.1, mkS_limbs, valS_abs x hp.1]
  rfl

set_option maxHeartbeats 1000000 in
set_option maxRecDepth 100000 in
theorem specIntNeg_any (v : Value) (x : SI) (w : World) (hl : x.2.length ≤ 1048576) (h : OwnS v x w) :
    Calls Tryz.prog 168 #[v] w (NewS (negS x) w) := by
  obtain ⟨u, rfl, ho⟩ := h
  obtain ⟨A, c, rfl⟩ := own_len ho
  have hbb : Below w.heap.size w ((w.alloc (.cells #[.bool x.1, .slice A x.2.length c] 25)).alloc (.cells #[.bool false, .slice none 0 0] 25)) := below_al (below_al (Below.refl _ _) _) _
  have kb := (box_new w #[.bool x.1, .slice A x.2.length c] 25).below (below_al (Below.refl _ _) (.cells #[.bool false, .slice none 0 0] 25))
  have kr := box_new (w.alloc (.cells #[.bool x.1, .slice A x.2.length c] 25)) #[.bool false, .slice none 0 0] 25
  rw [show (w.alloc (.cells #[.bool x.1, .slice A x.2.length c] 25)).heap.size = w.heap.size + 1 by simp] at kr
  have hoB := own_below ho hbb
  have hrd : RdS _ (.agg #[.bool x.1, .slice A x.2.length c]) x := (OwnS.mk (x := x) (ownI_of hoB)).rd
  by_cases ok : okS x = true
  · have HV := Lib.hid (negS_mk ok)
    go_enter Tryz.func168, Tryz.ntmps168
    go_wp2_with fail
    refine (specIntOk_any _ x _ hl hrd).mono ?_
    rintro e w1 ⟨rfl, b1⟩
    rw [ok]
    clear ok
    have bb1 := Below.next hbb b1
    replace kb := kb.below b1
    replace kr := kr.below b1
    have ho1 := own_below hoB b1
    have cb0 := kb.here.cell 0 _ rfl
    have cb1 := kb.here.cell 1 _ rfl
    clear hoB hrd ho
    go_wp2_with fail
    refine (l04Make_any _ _ x.2 0 _ hl ho1).mono ?_
    rintro e w2 ⟨u2, rfl, o2, b2⟩
    obtain ⟨A2, c2, rfl⟩ := own_len o2
    have bb2 := Below.next bb1 b2
    replace kr := kr.below b2
    have cz0 := kr.here.cell 0 _ rfl
    have cz1 := kr.here.cell 1 _ rfl
    have fz0 := Lib.frozen_of_heap kr.here 0
    have fz1 := Lib.frozen_of_heap kr.here 1
    have HO2 := Lib.hid o2
    have HK := Lib.hid kr
    clear o2 kr kb cb0 cb1 ho1
    go_wp2
    refine bodyPost_ret (v := .agg #[.bool _, .slice A2 _ c2]) (by simp [results, Tryz.results168, go_sem, cz0, cz1]; exact ⟨rfl, rfl⟩) rfl ?_
    rw [← HV.out]
    exact newS_ret HK.out.here HO2.out bb1.size (by omega) bb2
  · have ok' : okS x = false := by simpa using ok
    have HV := Lib.hid (show negS x = zeroS by unfold negS; rw [if_neg ok])
    clear ok
    go_enter Tryz.func168, Tryz.ntmps168
    go_wp2_with fail
    refine (specIntOk_any _ x _ hl hrd).mono ?_
    rintro e w1 ⟨rfl, b1⟩
    rw [ok']
    have bb1 := Below.next hbb b1
    replace kr := kr.below b1
    have cz0 := kr.here.cell 0 _ rfl
    have cz1 := kr.here.cell 1 _ rfl
    have fz0 := Lib.frozen_of_heap kr.here 0
    have fz1 := Lib.frozen_of_heap kr.here 1
    clear kb hoB hrd ho
    go_wp2
    refine bodyPost_ret (v := .agg #[.bool false, .slice none 0 0]) (by simp [results, Tryz.results168, go_sem, cz0, cz1]) rfl ?_
    rw [HV.out]
    exact newS_zero (below_set2 bb1 (by omega))

theorem trimL_limbs (m : Nat) : trimL (limbs m) = limbs m := trim_last _ (limbs_lastN m)
theorem min_limbs : limbs 9223372036854775808 = [854775808, 223372036, 9] := by
  rw [limbs_pos _ (by decide), limbs_pos _ (by decide), limbs_pos _ (by decide), limbs, dif_pos (by decide)]
  rfl
theorem ofZ_neg {n : Int} (h : n < 0) : mkS true (trimL (limbs (-n).toNat)) = ofZ n := by
  rw [trimL_limbs, mkS_limbs]
  congr 1
  simp
  omega
theorem ofZ_pos {n : Int} (h : ¬ n < 0) : mkS false (trimL (limbs n.toNat)) = ofZ n := by
  rw [trimL_limbs, mkS_limbs]
  congr 1
  simp
  omega
theorem Row.lit3 (w : World) (x y z : Value) (t : TypeId) : (w.alloc (.cells #[x, y, z] t)).ownsRow w.heap.size t 1 (.slice (some ⟨w.heap.size, 0, none⟩) 3 3) 3 [x, y, z] := by
  have h := World.ownsRow_lit (e := t) (size := 1) (base := w.heap.size) w #[x, y, z] 3 (Nat.le_refl _) (by unfold maxLen; omega) rfl
  simpa using h

set_option maxHeartbeats 1000000 in
set_option maxRecDepth 100000 in
theorem specIntOf_any (n : Int) (w : World) (h0 : -9223372036854775808 ≤ n) (h1 : n ≤ 9223372036854775807) :
    Calls Tryz.prog 66 #[.int .i64 n] w (NewS (ofZ n) w) := by
  have hbb : Below w.heap.size w (w.alloc (.cells #[.bool false, .slice none 0 0] 25)) := below_al (Below.refl _ _) _
  have kr := box_new w #[.bool false, .slice none 0 0] 25
  by_cases hmin : n = -9223372036854775808
  · subst hmin
    have HV := Lib.hid (show mkS true (trimL [854775808, 223372036, 9]) = ofZ (-9223372036854775808) by rw [← min_limbs]; exact ofZ_neg (n := -9223372036854775808) (by decide))
    have ho := Row.lit3 (w.alloc (.cells #[.bool false, .slice none 0 0] 25)) (.int .i64 854775808) (.int .i64 223372036) (.int .i64 9) 3
    rw [show (w.alloc (.cells #[.bool false, .slice none 0 0] 25)).heap.size = w.heap.size + 1 by simp] at ho
    have bb1 := below_al hbb (.cells #[.int .i64 854775808, .int .i64 223372036, .int .i64 9] 3)
    replace kr := kr.below (below_al (Below.refl _ _) (.cells #[.int .i64 854775808, .int .i64 223372036, .int .i64 9] 3))
    have HO := Lib.hid ho
    clear ho
    go_enter Tryz.func66, Tryz.ntmps66
    go_wp2_with fail
    refine (l04Make_any _ _ [854775808, 223372036, 9] (w.heap.size + 1) _ (by decide) HO.out).mono ?_
    rintro e w2 ⟨u2, rfl, o2, b2⟩
    obtain ⟨A2, c2, rfl⟩ := own_len o2
    have bb2 := Below.next bb1 b2
    replace kr := kr.below b2
    have cz0 := kr.here.cell 0 _ rfl
    have cz1 := kr.here.cell 1 _ rfl
    have fz0 := Lib.frozen_of_heap kr.here 0
    have fz1 := Lib.frozen_of_heap kr.here 1
    have HO2 := Lib.hid o2
    have HK := Lib.hid kr
    clear o2 kr
    go_wp2
    refine bodyPost_ret (v := .agg #[.bool _, .slice A2 _ c2]) (by simp [results, Tryz.results66, go_sem, cz0, cz1]; exact ⟨rfl, rfl⟩) rfl ?_
    rw [← HV.out]
    exact newS_ret HK.out.here HO2.out bb1.size (by omega) bb2
  · have hmb : (n == -9223372036854775808) = false := by rw [beq_eq_false_iff_ne]; exact hmin
    by_cases hneg : n < 0
    · have HV := Lib.hid (ofZ_neg hneg)
      have hm2 : -9223372036854775807 ≤ n := by omega
      clear hmin h0
      go_enter Tryz.func66, Tryz.ntmps66
      go_wp2_with fail
      refine (specNatOf_any (-n) _ (by omega)).mono ?_
      rintro e w1 ⟨u1, rfl, o1, b1⟩
      have bb1 := Below.next hbb b1
      replace kr := kr.below b1
      go_wp2_with fail
      refine (l04Make_any _ _ (limbs (-n).toNat) _ _ (Nat.le_trans (limbs_length_le _ 3 (by show _ < (1000000000 * (1000000000 * (1000000000 * 1)) : Int); omega)) (by decide)) o1).mono ?_
      rintro e w2 ⟨u2, rfl, o2, b2⟩
      obtain ⟨A2, c2, rfl⟩ := own_len o2
      have bb2 := Below.next bb1 b2
      replace kr := kr.below b2
      have cz0 := kr.here.cell 0 _ rfl
      have cz1 := kr.here.cell 1 _ rfl
      have fz0 := Lib.frozen_of_heap kr.here 0
      have fz1 := Lib.frozen_of_heap kr.here 1
      have HO2 := Lib.hid o2
      have HK := Lib.hid kr
      clear o2 kr o1
      go_wp2
      refine bodyPost_ret (v := .agg #[.bool _, .slice A2 _ c2]) (by simp [results, Tryz.results66, go_sem, cz0, cz1]; exact ⟨rfl, rfl⟩) rfl ?_
      rw [← HV.out]
      exact newS_ret HK.out.here HO2.out bb1.size (by omega) bb2
    · have HV := Lib.hid (ofZ_pos hneg)
      clear hmin h0
      go_enter Tryz.func66, Tryz.ntmps66
      go_wp2_with fail
      refine (specNatOf_any n _ (by omega)).mono ?_
      rintro e w1 ⟨u1, rfl, o1, b1⟩
      have bb1 := Below.next hbb b1
      replace kr := kr.below b1
      go_wp2_with fail
      refine (l04Make_any _ _ (limbs n.toNat) _ _ (Nat.le_trans (limbs_length_le _ 3 (by show _ < (1000000000 * (1000000000 * (1000000000 * 1)) : Int); omega)) (by decide)) o1).mono ?_
      rintro e w2 ⟨u2, rfl, o2, b2⟩
      obtain ⟨A2, c2, rfl⟩ := own_len o2
      have bb2 := Below.next bb1 b2
      replace kr := kr.below b2
      have cz0 := kr.here.cell 0 _ rfl
      have cz1 := kr.here.cell 1 _ rfl
      have fz0 := Lib.frozen_of_heap kr.here 0
      have fz1 := Lib.frozen_of_heap kr.here 1
      have HO2 := Lib.hid o2
      have HK := Lib.hid kr
      clear o2 kr o1
      go_wp2
      refine bodyPost_ret (v := .agg #[.bool _, .slice A2 _ c2]) (by simp [results, Tryz.results66, go_sem, cz0, cz1]; exact ⟨rfl, rfl⟩) rfl ?_
      rw [← HV.out]
      exact newS_ret HK.out.here HO2.out bb1.size (by omega) bb2
end Go.Proofs.YtcenmdiblbooeaaGreatDoor

namespace Go.Proofs.YtcenmdiblbooeaaGreatDoor
open Go.RowKit

theorem At.behind {S : List Nat} {φ : World → Prop} {w w1 w2 : World} (h : At S φ w) (hb : Below w1.heap.size w1 w2) (hh : w1.heap = w.heap) : At S φ w2 :=
  (At.move (w' := w1) h (fun _ _ => by rw [hh]) (by rw [hh]; exact Nat.le_refl _)).below hb
theorem Chg.drew1 {T : List Nat} {w w1 : World} (h : Chg T w w1) : Chg T w w1.drew := ⟨h.os, h.tape, h.output, h.size, h.block⟩
theorem mk_add {n : Bool} {a b : List Int} (oa : natOkB a = true) (ob : natOkB b = true) : mkS n (trimL (addL a b 0)) = ofZ (if n = true then -(nval a + nval b) else nval a + nval b) := by
  have hv := addL_val a b 0 (natOk_parts oa).1 (natOk_parts ob).1 (by omega) (by omega)
  have h1 := nval_ok oa
  have h2 := nval_ok ob
  rw [trim_limbs _ hv.2.1, hv.1, mkS_limbs]
  congr 1
  split <;> omega
theorem mk_sub {n : Bool} {a b : List Int} (oa : natOkB a = true) (ob : natOkB b = true) (hle : nval b ≤ nval a) : mkS n (trimL (trimL (subL a b 0))) = ofZ (if n = true then -(nval a - nval b) else nval a - nval b) ∧ (subL a b 0).length = a.length := by
  have pa := natOk_parts oa
  have pb := natOk_parts ob
  have hll := len_of_le a b pa.1 ⟨pb.1, pb.2.2⟩ hle
  have hv := subL_val a b 0 pa.1 pb.1 hll (by omega) (by omega) (by omega)
  have h1 := nval_ok oa
  have h2 := nval_ok ob
  refine ⟨?_, hv.2.2⟩
  rw [trim_limbs (subL a b 0) hv.2.1, trimL_limbs, hv.1, mkS_limbs]
  congr 1
  split <;> omega

set_option maxHeartbeats 4000000 in
set_option maxRecDepth 100000 in
theorem l04Add_any (vx vy : Value) (x y : SI) (w : World) (okx : okS x = true) (oky : okS y = true) (hx : OwnS vx x w) (hy : OwnS vy y w) :
    Calls Tryz.prog 170 #[vx, vy] w (NewS (ofZ (valS x + valS y)) w) := by
  obtain ⟨ux, rfl, hox⟩ := hx
  obtain ⟨uy, rfl, hoy⟩ := hy
  obtain ⟨Ax, cx, rfl⟩ := own_len hox
  obtain ⟨Ay, cy, rfl⟩ := own_len hoy
  have px := okS_parts okx
  have py := okS_parts oky
  have DX := natOk_parts px.1
  have DY := natOk_parts py.1
  have hlx := DX.2.1
  have hly := DY.2.1
  have Dx := Lib.hid DX
  have Dy := Lib.hid DY
  obtain ⟨W0, hW0⟩ : ∃ W0, W0 = ((w.alloc (.cells #[.bool x.1, .slice Ax x.2.length cx] 25)).alloc (.cells #[.bool y.1, .slice Ay y.2.length cy] 25)).alloc (.cells #[.bool false, .slice none 0 0] 25) := ⟨_, rfl⟩
  have hbb : Below w.heap.size w W0 := by rw [hW0]; exact below_al (below_al (below_al (Below.refl _ _) _) _) _
  have h3 := alloc3 w (.cells #[.bool x.1, .slice Ax x.2.length cx] 25) (.cells #[.bool y.1, .slice Ay y.2.length cy] 25) (.cells #[.bool false, .slice none 0 0] 25)
  rw [← hW0] at h3
  have kx : At [w.heap.size] (BoxAt w.heap.size #[.bool x.1, .slice Ax x.2.length cx] 25) W0 := box_at h3.1
  have ky : At [w.heap.size + 1] (BoxAt (w.heap.size + 1) #[.bool y.1, .slice Ay y.2.length cy] 25) W0 := box_at h3.2.1
  have kr : At [w.heap.size + 1 + 1] (BoxAt (w.heap.size + 1 + 1) #[.bool false, .slice none 0 0] 25) W0 := box_at h3.2.2.1
  have atx := own_at hox
  have aty := own_at hoy
  have ltx := atx.lt
  have lty := aty.lt
  have OFx := Lib.hid (show ∀ W, Chg [w.heap.size + 1 + 1] W0 W → OwnI (.slice Ax x.2.length cx) x.2 W from fun W hc => ((atx.below hbb).chg hc (fun i hi hm => by have := ltx i hi; simp at hm; omega)).here)
  have OFy := Lib.hid (show ∀ W, Chg [w.heap.size + 1 + 1] W0 W → OwnI (.slice Ay y.2.length cy) y.2 W from fun W hc => ((aty.below hbb).chg hc (fun i hi hm => by have := lty i hi; simp at hm; omega)).here)
  have KL := Lib.hid (show ∀ W, Chg [w.heap.size + 1 + 1] W0 W → W.cell? ⟨w.heap.size, 0, none⟩ = some (.bool x.1) ∧ W.cell? ⟨w.heap.size, 1, none⟩ = some (.slice Ax x.2.length cx) ∧ W.cell? ⟨w.heap.size + 1, 0, none⟩ = some (.bool y.1) ∧ W.cell? ⟨w.heap.size + 1, 1, none⟩ = some (.slice Ay y.2.length cy) ∧ Hid (Chg [w.heap.size + 1 + 1] W0 W) from
    fun W hc => ⟨(kx.chg hc (fun i hi hm => by simp at hi hm; omega)).here.cell 0 _ rfl, (kx.chg hc (fun i hi hm => by simp at hi hm; omega)).here.cell 1 _ rfl, (ky.chg hc (fun i hi hm => by simp at hi hm; omega)).here.cell 0 _ rfl, (ky.chg hc (fun i hi hm => by simp at hi hm; omega)).here.cell 1 _ rfl, Lib.hid hc⟩)
  have HW := Lib.hid hW0
  clear h3 atx aty ltx lty DX DY hW0
  by_cases hs : x.1 = y.1
  · have HV : Hid (mkS x.1 (trimL (addL x.2 y.2 0)) = ofZ (valS x + valS y)) := Lib.hid (by
      rw [mk_add px.1 py.1]
      unfold valS
      rw [← hs]
      congr 1
      split <;> omega)
    have hsb : (x.1 == y.1) = true := by rw [hs]; simp
    have hal := (addL_val x.2 y.2 0 Dx.out.1 Dy.out.1 (by omega) (by omega)).2.2
    have cx0 := kx.here.cell 0 _ rfl
    have cx1 := kx.here.cell 1 _ rfl
    have cy0 := ky.here.cell 0 _ rfl
    have cy1 := ky.here.cell 1 _ rfl
    clear hs px py hox hoy okx oky
    go_enter Tryz.func170, Tryz.ntmps170
    go_wp2_with fail
    rw [← HW.out]
    clear cx0 cx1 cy0 cy1
    go_region_held3 (fun W => W.cell? ⟨w.heap.size, 0, none⟩ = some (.bool x.1) ∧ W.cell? ⟨w.heap.size, 1, none⟩ = some (.slice Ax x.2.length cx) ∧ W.cell? ⟨w.heap.size + 1, 0, none⟩ = some (.bool y.1) ∧ W.cell? ⟨w.heap.size + 1, 1, none⟩ = some (.slice Ay y.2.length cy) ∧ Hid (Chg [w.heap.size + 1 + 1] W0 W))
      ((refine KL.out _ ?_; (first | exact HC2.out | exact HC1.out | exact (Chg.setCell (Chg.setCell HC2.out (by simp) _) (by simp) _) | exact Chg.drew1 HC0.out | exact ⟨rfl, rfl, rfl, Nat.le_refl _, fun _ _ _ => rfl⟩ | fail)))
      (first
        | (go_at_call 166; (have hBB := (‹_ ∧ _ ∧ _ ∧ _ ∧ Hid (Chg [w.heap.size + 1 + 1] W0 _)›).2.2.2.2); (with_reducible refine (specAdd_any _ _ x.2 y.2 0 _ 0 _ _ (by omega) (by omega) (Nat.le_refl _) (Nat.le_refl _) Dx.out.1 Dy.out.1 (OFx.out _ hBB.out).row (OFy.out _ hBB.out).row).mono ?_); rintro e w3 ⟨u3, rfl, o3, b3⟩; have HC1 := Lib.hid (hBB.out.trans (Chg.of_below b3)); (have kr3 := At.behind kr b3 rfl); obtain ⟨A3, c3, rfl⟩ := own_len o3; clear hBB)
        | (go_at_call 67; (have hBB := (‹_ ∧ _ ∧ _ ∧ _ ∧ Hid (Chg [w.heap.size + 1 + 1] W0 _)›).2.2.2.2); (with_reducible refine (l04Make_any _ _ (addL x.2 y.2 0) _ _ (by omega) o3).mono ?_); rintro e w4 ⟨u4, rfl, o4, b4⟩; have HC2 := Lib.hid (hBB.out.trans (Chg.of_below b4)); (have kr4 := kr3.below b4); (have cz0 := kr4.here.cell 0 _ rfl); (have cz1 := kr4.here.cell 1 _ rfl); (have fz0 := Lib.frozen_of_heap kr4.here 0); (have fz1 := Lib.frozen_of_heap kr4.here 1); obtain ⟨A4, c4, rfl⟩ := own_len o4; clear hBB))
    have HO4 := Lib.hid o4
    have HK := Lib.hid kr4
    have HW0 := HW.out
    have hB4 : w.heap.size ≤ w3.heap.size := by have h1 := HC1.out.size; have h2 := hbb.size; omega
    have hBW : Below w.heap.size w w4 := below_chg hbb HC2.out hbb.size (fun g hg => by simp at hg; omega)
    have HB4 := Lib.hid hB4
    have HBW := Lib.hid hBW
    clear o4 kr4 kr3 o3 b3 b4 hB4 hBW kr kx ky HW0
    go_wp2
    refine bodyPost_ret (v := .agg #[.bool _, .slice A4 _ c4]) (by simp [results, Tryz.results170, go_sem, cz0, cz1]; exact ⟨rfl, rfl⟩) rfl ?_
    rw [← HV.out]
    exact newS_ret HK.out.here HO4.out HB4.out (by omega) HBW.out
  · have HS := Lib.hid hs
    have hsb : (x.1 == y.1) = false := by rw [beq_eq_false_iff_ne]; exact hs
    have h0x := nval_ok px.1
    have h0y := nval_ok py.1
    clear hs
    by_cases hle : nval y.2 ≤ nval x.2
    · have hle' : nval y.2 ≤ nval x.2 := by omega
      have hms := mk_sub (n := x.1) px.1 py.1 hle'
      have HV : Hid (mkS x.1 (trimL (trimL (subL x.2 y.2 0))) = ofZ (valS x + valS y)) := Lib.hid (by
        rw [hms.1]
        congr 1
        have hd := HS.out
        unfold valS
        cases hx1 : x.1 <;> cases hy1 : y.1 <;> simp_all <;> omega)
      have HSL := Lib.hid hms.2
      have hal := trimL_length (subL x.2 y.2 0)
      rw [hms.2] at hal
      have hz : 0 ≤ cmpI (nval x.2) (nval y.2) := by unfold cmpI; split <;> (try split) <;> omega
      have cx0 := kx.here.cell 0 _ rfl
      have cx1 := kx.here.cell 1 _ rfl
      have cy0 := ky.here.cell 0 _ rfl
      have cy1 := ky.here.cell 1 _ rfl
      have rx := (OFx.out W0 (Chg.refl _ _)).row
      have ry := (OFy.out W0 (Chg.refl _ _)).row
      clear px py hox hoy okx oky hms hle hle'
      go_enter Tryz.func170, Tryz.ntmps170
      go_wp2_with fail
      rw [← HW.out]
      refine (specCmp_any _ _ x.2 y.2 0 _ 0 _ W0 (by omega) (by omega) ⟨Dx.out.1, Dx.out.2.2⟩ ⟨Dy.out.1, Dy.out.2.2⟩ rx ry).mono ?_
      rintro e w' ⟨rfl, q, rfl⟩
      generalize cmpI (nval x.2) (nval y.2) = z at *
      clear rx ry
      obtain ⟨W1, hW1⟩ : ∃ W1, W1 = W0.drewN q := ⟨_, rfl⟩
      have HC0 := Lib.hid (show Chg [w.heap.size + 1 + 1] W0 W1 by rw [hW1]; exact ⟨rfl, rfl, rfl, Nat.le_refl _, fun _ _ _ => rfl⟩)
      replace kr := At.move (w' := W1) kr (fun _ _ => by rw [hW1]; rfl) (by rw [hW1]; exact Nat.le_refl _)
      have kl := KL.out W1 HC0.out
      have cx0' := kl.1
      have cx1' := kl.2.1
      have cy0' := kl.2.2.1
      have cy1' := kl.2.2.2.1
      rw [← hW1]
      clear hW1 kl cx0 cx1 cy0 cy1
      go_wp2_with fail
      clear cx0' cx1' cy0' cy1'
      go_region_held3 (fun W => W.cell? ⟨w.heap.size, 0, none⟩ = some (.bool x.1) ∧ W.cell? ⟨w.heap.size, 1, none⟩ = some (.slice Ax x.2.length cx) ∧ W.cell? ⟨w.heap.size + 1, 0, none⟩ = some (.bool y.1) ∧ W.cell? ⟨w.heap.size + 1, 1, none⟩ = some (.slice Ay y.2.length cy) ∧ Hid (Chg [w.heap.size + 1 + 1] W0 W))
        ((refine KL.out _ ?_; (first | exact HC2.out | exact HC1.out | exact (Chg.setCell (Chg.setCell HC2.out (by simp) _) (by simp) _) | exact Chg.drew1 HC0.out | exact ⟨rfl, rfl, rfl, Nat.le_refl _, fun _ _ _ => rfl⟩ | fail)))
        (first
          | (go_at_call 194; (have hBB := (‹_ ∧ _ ∧ _ ∧ _ ∧ Hid (Chg [w.heap.size + 1 + 1] W0 _)›).2.2.2.2); (with_reducible refine (specSub_any _ _ x.2 y.2 0 _ 0 _ _ (by omega) (by omega) (Nat.le_refl _) (Nat.le_refl _) Dx.out.1 Dy.out.1 (OFx.out _ hBB.out).row (OFy.out _ hBB.out).row HSL.out).mono ?_); rintro e w3 ⟨u3, rfl, o3, b3⟩; have HC1 := Lib.hid (hBB.out.trans (Chg.of_below b3)); (have kr3 := At.behind kr b3 rfl); obtain ⟨A3, c3, rfl⟩ := own_len o3; clear hBB)
          | (go_at_call 67; (have hBB := (‹_ ∧ _ ∧ _ ∧ _ ∧ Hid (Chg [w.heap.size + 1 + 1] W0 _)›).2.2.2.2); (with_reducible refine (l04Make_any _ _ (trimL (subL x.2 y.2 0)) _ _ (by omega) o3).mono ?_); rintro e w4 ⟨u4, rfl, o4, b4⟩; have HC2 := Lib.hid (hBB.out.trans (Chg.of_below b4)); (have kr4 := kr3.below b4); (have cz0 := kr4.here.cell 0 _ rfl); (have cz1 := kr4.here.cell 1 _ rfl); (have fz0 := Lib.frozen_of_heap kr4.here 0); (have fz1 := Lib.frozen_of_heap kr4.here 1); obtain ⟨A4, c4, rfl⟩ := own_len o4; clear hBB))
      have HO4 := Lib.hid o4
      have HK := Lib.hid kr4
      have HW0 := HW.out
      have hB4 : w.heap.size ≤ w3.heap.size := by have h1 := HC1.out.size; have h2 := hbb.size; omega
      have hBW : Below w.heap.size w w4 := below_chg hbb HC2.out hbb.size (fun g hg => by simp at hg; omega)
      have HB4 := Lib.hid hB4
      have HBW := Lib.hid hBW
      clear o4 kr4 kr3 o3 b3 b4 hB4 hBW kr kx ky HW0
      go_wp2
      refine bodyPost_ret (v := .agg #[.bool _, .slice A4 _ c4]) (by simp [results, Tryz.results170, go_sem, cz0, cz1]; exact ⟨rfl, rfl⟩) rfl ?_
      rw [← HV.out]
      exact newS_ret HK.out.here HO4.out HB4.out (by omega) HBW.out
    · have hle' : nval x.2 ≤ nval y.2 := by omega
      have hms := mk_sub (n := y.1) py.1 px.1 hle'
      have HV : Hid (mkS y.1 (trimL (trimL (subL y.2 x.2 0))) = ofZ (valS x + valS y)) := Lib.hid (by
        rw [hms.1]
        congr 1
        have hd := HS.out
        unfold valS
        cases hx1 : x.1 <;> cases hy1 : y.1 <;> simp_all <;> omega)
      have HSL := Lib.hid hms.2
      have hal := trimL_length (subL y.2 x.2 0)
      rw [hms.2] at hal
      have hz : cmpI (nval x.2) (nval y.2) < 0 := by unfold cmpI; split <;> (try split) <;> omega
      have cx0 := kx.here.cell 0 _ rfl
      have cx1 := kx.here.cell 1 _ rfl
      have cy0 := ky.here.cell 0 _ rfl
      have cy1 := ky.here.cell 1 _ rfl
      have rx := (OFx.out W0 (Chg.refl _ _)).row
      have ry := (OFy.out W0 (Chg.refl _ _)).row
      clear px py hox hoy okx oky hms hle hle'
      go_enter Tryz.func170, Tryz.ntmps170
      go_wp2_with fail
      rw [← HW.out]
      refine (specCmp_any _ _ x.2 y.2 0 _ 0 _ W0 (by omega) (by omega) ⟨Dx.out.1, Dx.out.2.2⟩ ⟨Dy.out.1, Dy.out.2.2⟩ rx ry).mono ?_
      rintro e w' ⟨rfl, q, rfl⟩
      generalize cmpI (nval x.2) (nval y.2) = z at *
      clear rx ry
      obtain ⟨W1, hW1⟩ : ∃ W1, W1 = W0.drewN q := ⟨_, rfl⟩
      have HC0 := Lib.hid (show Chg [w.heap.size + 1 + 1] W0 W1 by rw [hW1]; exact ⟨rfl, rfl, rfl, Nat.le_refl _, fun _ _ _ => rfl⟩)
      replace kr := At.move (w' := W1) kr (fun _ _ => by rw [hW1]; rfl) (by rw [hW1]; exact Nat.le_refl _)
      have kl := KL.out W1 HC0.out
      have cx0' := kl.1
      have cx1' := kl.2.1
      have cy0' := kl.2.2.1
      have cy1' := kl.2.2.2.1
      rw [← hW1]
      clear hW1 kl cx0 cx1 cy0 cy1
      go_wp2_with fail
      clear cx0' cx1' cy0' cy1'
      go_region_held3 (fun W => W.cell? ⟨w.heap.size, 0, none⟩ = some (.bool x.1) ∧ W.cell? ⟨w.heap.size, 1, none⟩ = some (.slice Ax x.2.length cx) ∧ W.cell? ⟨w.heap.size + 1, 0, none⟩ = some (.bool y.1) ∧ W.cell? ⟨w.heap.size + 1, 1, none⟩ = some (.slice Ay y.2.length cy) ∧ Hid (Chg [w.heap.size + 1 + 1] W0 W))
        ((refine KL.out _ ?_; (first | exact HC2.out | exact HC1.out | exact (Chg.setCell (Chg.setCell HC2.out (by simp) _) (by simp) _) | exact Chg.drew1 HC0.out | exact ⟨rfl, rfl, rfl, Nat.le_refl _, fun _ _ _ => rfl⟩ | fail)))
        (first
          | (go_at_call 194; (have hBB := (‹_ ∧ _ ∧ _ ∧ _ ∧ Hid (Chg [w.heap.size + 1 + 1] W0 _)›).2.2.2.2); (with_reducible refine (specSub_any _ _ y.2 x.2 0 _ 0 _ _ (by omega) (by omega) (Nat.le_refl _) (Nat.le_refl _) Dy.out.1 Dx.out.1 (OFy.out _ hBB.out).row (OFx.out _ hBB.out).row HSL.out).mono ?_); rintro e w3 ⟨u3, rfl, o3, b3⟩; have HC1 := Lib.hid (hBB.out.trans (Chg.of_below b3)); (have kr3 := At.behind kr b3 rfl); obtain ⟨A3, c3, rfl⟩ := own_len o3; clear hBB)
          | (go_at_call 67; (have hBB := (‹_ ∧ _ ∧ _ ∧ _ ∧ Hid (Chg [w.heap.size + 1 + 1] W0 _)›).2.2.2.2); (with_reducible refine (l04Make_any _ _ (trimL (subL y.2 x.2 0)) _ _ (by omega) o3).mono ?_); rintro e w4 ⟨u4, rfl, o4, b4⟩; have HC2 := Lib.hid (hBB.out.trans (Chg.of_below b4)); (have kr4 := kr3.below b4); (have cz0 := kr4.here.cell 0 _ rfl); (have cz1 := kr4.here.cell 1 _ rfl); (have fz0 := Lib.frozen_of_heap kr4.here 0); (have fz1 := Lib.frozen_of_heap kr4.here 1); obtain ⟨A4, c4, rfl⟩ := own_len o4; clear hBB))
      have HO4 := Lib.hid o4
      have HK := Lib.hid kr4
      have HW0 := HW.out
      have hB4 : w.heap.size ≤ w3.heap.size := by have h1 := HC1.out.size; have h2 := hbb.size; omega
      have hBW : Below w.heap.size w w4 := below_chg hbb HC2.out hbb.size (fun g hg => by simp at hg; omega)
      have HB4 := Lib.hid hB4
      have HBW := Lib.hid hBW
      clear o4 kr4 kr3 o3 b3 b4 hB4 hBW kr kx ky HW0
      go_wp2
      refine bodyPost_ret (v := .agg #[.bool _, .slice A4 _ c4]) (by simp [results, Tryz.results170, go_sem, cz0, cz1]; exact ⟨rfl, rfl⟩) rfl ?_
      rw [← HV.out]
      exact newS_ret HK.out.here HO4.out HB4.out (by omega) HBW.out



theorem mk_mul {n m : Bool} {a b L : List Int} (hL : trimL L = limbs (nval a * nval b).toNat) (oa : natOkB a = true) (ob : natOkB b = true) : mkS (n != m) (trimL L) = ofZ (valS (n, a) * valS (m, b)) := by
  have h1 := nval_ok oa
  have h2 := nval_ok ob
  have h3 := Int.mul_nonneg h1 h2
  rw [hL, mkS_limbs]
  congr 1
  unfold valS
  cases n <;> cases m <;> simp [Int.toNat_of_nonneg h3, Int.mul_neg, Int.neg_mul] <;> omega
def MulPost (z : Int) (w : World) (e : Ending) (w' : World) : Prop := ∃ L, trimL L = limbs z.toNat ∧ L.length ≤ 200 ∧ NewInts L w e w'
theorem l02Mul_ok (va vb : Value) (a b : List Int) (w : World) (oa : natOkB a = true) (ob : natOkB b = true) (hra : Row w 0 w.heap.size va (intsV a)) (hrb : Row w 0 w.heap.size vb (intsV b)) :
    Calls Tryz.prog 169 #[va, vb] w (MulPost (nval a * nval b) w) := by
  have pa := natOk_parts oa
  have pb := natOk_parts ob
  by_cases h0 : a.length = 0 ∨ b.length = 0
  · refine (specMul_nil va vb a b _ _ _ _ w pa.2.1 pb.2.1 h0 hra hrb).mono fun e w' h => ⟨[], ?_, by simp, h⟩
    have hz : nval a * nval b = 0 := by
      rcases h0 with h0 | h0
      · rw [List.eq_nil_of_length_eq_zero h0]; exact Int.zero_mul _
      · rw [List.eq_nil_of_length_eq_zero h0]; exact Int.mul_zero _
    rw [hz]
    show _ = limbs 0
    rw [limbs_none]
    rfl
  · have hv := mul_val' a b pa.1 pb.1
    refine (specMul_any va vb a b _ _ _ _ w pa.2.1 pb.2.1 (by omega) (by omega) (Nat.le_refl _) (Nat.le_refl _) pa.1 pb.1 hra hrb).mono fun e w' h => ⟨_, ?_, ?_, h⟩
    · rw [trim_limbs _ hv.2.1, trimL_limbs, hv.1]
    · have := trimL_length (mulL a b (List.replicate (a.length + b.length) 0))
      have h1 := hv.2.2
      have h2 := pa.2.1
      have h3 := pb.2.1
      omega

end Go.Proofs.YtcenmdiblbooeaaGreatDoor

namespace Go.Proofs.YtcenmdiblbooeaaGreatDoor
open Go.RowKit

/-- what IntNum answers -/
def numS (x : SI) : Int × Bool := if okS x = true ∧ nval x.2 ≤ 9223372036854775807 then (valS x, true) else (0, false)



end Go.Proofs.YtcenmdiblbooeaaGreatDoor

namespace Go.Proofs.YtcenmdiblbooeaaGreatDoor
open Go.RowKit

/-- what a call answers that keeps the memory of its argument: an amount that leans on no other blocks, and a bool -/
def KeptM (S : List Nat) (R0 : MI) (R1 : Bool) (w : World) (e : Ending) (w' : World) : Prop :=
  ∃ (v : Value) (T : List Nat), e = .returned (.tuple #[v, .bool R1]) ∧ At T (OwnM v R0) w' ∧ (∀ i ∈ T, i ∈ S) ∧ Below w.heap.size w w'
theorem keptM_at {r : Nat} {S : List Nat} {c0 c1 c2 : Value} {x : MI} {b : Bool} {w W : World} (o : At S (OwnM (.agg #[c0, c1, c2]) x) W) (hS : ∀ i ∈ S, i < w.heap.size) (hr : w.heap.size ≤ r) (hW : Below w.heap.size w W) :
    KeptM S x b w (.returned (.tuple #[.agg #[c0, c1, c2], .bool b])) (((W.setCell ⟨r, 0, none⟩ c0).setCell ⟨r, 1, none⟩ c1).setCell ⟨r, 2, none⟩ c2) :=
  ⟨_, S, rfl, o.chg chg_set3M (fun i hi hm => by have := hS i hi; simp at hm; omega), fun i hi => hi, below_set3 hW hr⟩
theorem keptM_zero {S : List Nat} {w W : World} (hW : Below w.heap.size w W) : KeptM S zeroM false w (.returned (.tuple #[.agg #[.string ⟨#[]⟩, .bool false, .slice none 0 0], .bool false])) W :=
  ⟨_, [], rfl, atM_zero _, fun _ hi => absurd hi List.not_mem_nil, hW⟩
theorem keptM_eq {S : List Nat} {q p : MI × Bool} (e : q = p) {w w' : World} {n : Ending} (h : KeptM S q.1 q.2 w n w') : KeptM S p.1 p.2 w n w' := e ▸ h
set_option maxHeartbeats 1000000 in
set_option maxRecDepth 100000 in
theorem specMoneyOk_any (vm : Value) (m : MI) (w : World) (hl : m.2.2.length ≤ 1048576) (hm : OwnM vm m w) :
    Calls Tryz.prog 89 #[vm] w (Postb (okM m) w) := by
  have Hm := Lib.hid hm
  obtain ⟨Am, cm, rfl⟩ := ownM_form hm
  have OMm := Lib.hid (show ∀ W, Below w.heap.size w W → OwnM (.agg #[.string m.1, .bool m.2.1, .slice Am m.2.2.length cm]) m W from fun W hb => OwnM.below Hm.out hb)
  have OIm := Lib.hid (show ∀ W, Below w.heap.size w W → OwnI (.slice Am m.2.2.length cm) m.2.2 W from fun W hb => ownM_open (OMm.out W hb))
  have OSm := Lib.hid (show ∀ W, Below w.heap.size w W → OwnS (.agg #[.bool m.2.1, .slice Am m.2.2.length cm]) m.2 W from fun W hb => OwnS.mk (OIm.out W hb))
  clear hm
  have bb0 : Below w.heap.size w (w.alloc (.cells #[.string m.1, .bool m.2.1, .slice Am m.2.2.length cm] 27)) := below_al (Below.refl _ _) _
  have km := (box_new w #[.string m.1, .bool m.2.1, .slice Am m.2.2.length cm] 27)
  go_enter Tryz.func89, Tryz.ntmps89
  have km_c0 := km.here.cell 0 _ rfl
  have km_c1 := km.here.cell 1 _ rfl
  have km_c2 := km.here.cell 2 _ rfl
  go_wp2_with fail
  clear km_c0 km_c1 km_c2
  refine (specCurKnown_any m.1 _).mono ?_
  rintro e w1 ⟨rfl, b1⟩
  have bb1 := Below.next bb0 b1
  replace km := km.below b1
  by_cases ok0 : knownC m.1 = true
  · rw [ok0]
    have HO0 := Lib.hid ok0
    clear ok0
    have km_c0 := km.here.cell 0 _ rfl
    have km_c1 := km.here.cell 1 _ rfl
    have km_c2 := km.here.cell 2 _ rfl
    go_wp2_with fail
    clear km_c0 km_c1 km_c2
    refine (specIntOk_any _ m.2 _ hl (OwnS.rd (OSm.out _ bb1))).mono ?_
    rintro e w2 ⟨rfl, b2⟩
    have bb2 := Below.next bb1 b2
    replace km := km.below b2
    by_cases ok1 : okS m.2 = true
    · rw [ok1]
      have HO1 := Lib.hid ok1
      clear ok1
      have HV := Lib.hid (show okM m = decide ((m.2.2.length : Int) ≤ 4) by unfold okM; rw [HO0.out, HO1.out, Bool.true_and, Bool.true_and, decide_eq_decide]; omega)
      have km_c0 := km.here.cell 0 _ rfl
      have km_c1 := km.here.cell 1 _ rfl
      have km_c2 := km.here.cell 2 _ rfl
      clear hl
      go_wp2
      go_ret
      exact ⟨ret_bool HV.out.symm, bb2⟩
    · have ok1' : okS m.2 = false := by simpa using ok1
      have HV := Lib.hid (show okM m = false by unfold okM; rw [ok1', Bool.and_false, Bool.false_and])
      rw [ok1']
      clear ok1 ok1'
      go_wp2
      go_ret
      exact ⟨ret_bool HV.out.symm, bb2⟩
  · have ok0' : knownC m.1 = false := by simpa using ok0
    have HV := Lib.hid (show okM m = false by unfold okM; rw [ok0', Bool.false_and, Bool.false_and])
    rw [ok0']
    clear ok0 ok0'
    go_wp2
    go_ret
    exact ⟨ret_bool HV.out.symm, bb1⟩
set_option maxHeartbeats 1000000 in
set_option maxRecDepth 100000 in
theorem l09Make_any (cu : ByteArray) (vx : Value) (x : SI) (S : List Nat) (w : World) (hl : x.2.length ≤ 1048576) (hx : At S (OwnS vx x) w) :
    Calls Tryz.prog 49 #[.string cu, vx] w (KeptM S (makeM cu x).1 (makeM cu x).2 w) := by
  obtain ⟨Ax, cx, rfl⟩ := ownS_form hx.here
  have OX := Lib.hid (show ∀ W, Below w.heap.size w W → At S (OwnM (.agg #[.string cu, .bool x.1, .slice Ax x.2.length cx]) (cu, x)) W from fun W hb => (hx.below hb).imp fun _ h => OwnM.mk (q := (cu, x)) (ownS_openM h))
  have HLT := Lib.hid hx.lt
  clear hx
  have bb0 : Below w.heap.size w ((w.alloc (.cells #[.bool x.1, .slice Ax x.2.length cx] 25)).alloc (.cells #[.string ⟨#[]⟩, .bool false, .slice none 0 0] 27)) := below_al (below_al (Below.refl _ _) _) _
  have kx := (box_new w #[.bool x.1, .slice Ax x.2.length cx] 25).below (below_al (Below.refl _ _) (.cells #[.string ⟨#[]⟩, .bool false, .slice none 0 0] 27))
  have ko := (box_new (w.alloc (.cells #[.bool x.1, .slice Ax x.2.length cx] 25)) #[.string ⟨#[]⟩, .bool false, .slice none 0 0] 27)
  rw [show (w.alloc (.cells #[.bool x.1, .slice Ax x.2.length cx] 25)).heap.size = w.heap.size + 1 by simp] at ko
  have kd := box_new (((w.alloc (.cells #[.bool x.1, .slice Ax x.2.length cx] 25)).alloc (.cells #[.string ⟨#[]⟩, .bool false, .slice none 0 0] 27))) #[.string cu, .bool x.1, .slice Ax x.2.length cx] 27
  have ald := below_al (Below.refl (((w.alloc (.cells #[.bool x.1, .slice Ax x.2.length cx] 25)).alloc (.cells #[.string ⟨#[]⟩, .bool false, .slice none 0 0] 27))).heap.size (((w.alloc (.cells #[.bool x.1, .slice Ax x.2.length cx] 25)).alloc (.cells #[.string ⟨#[]⟩, .bool false, .slice none 0 0] 27)))) (.cells #[.string cu, .bool x.1, .slice Ax x.2.length cx] 27)
  have bbd := Below.next bb0 ald
  replace kx := kx.below ald
  replace ko := ko.below ald
  rw [show ((w.alloc (.cells #[.bool x.1, .slice Ax x.2.length cx] 25)).alloc (.cells #[.string ⟨#[]⟩, .bool false, .slice none 0 0] 27)).heap.size = w.heap.size + 1 + 1 by simp] at kd
  go_enter Tryz.func49, Tryz.ntmps49
  have kx_c0 := kx.here.cell 0 _ rfl
  have kx_c1 := kx.here.cell 1 _ rfl
  have kd_c0 := kd.here.cell 0 _ rfl
  have kd_c1 := kd.here.cell 1 _ rfl
  have kd_c2 := kd.here.cell 2 _ rfl
  go_wp2_with fail
  clear kx_c0 kx_c1 kd_c0 kd_c1 kd_c2
  refine (specMoneyOk_any _ (cu, x) _ hl (OX.out _ bbd).here).mono ?_
  rintro e w1 ⟨rfl, b1⟩
  have bb1 := Below.next bbd b1
  replace kx := kx.below b1
  replace ko := ko.below b1
  replace kd := kd.below b1
  by_cases ok : okM (cu, x) = true
  · rw [ok]
    have HV := Lib.hid (show makeM cu x = ((cu, x), true) by unfold makeM; rw [if_pos ok])
    clear ok kx
    have HW := Lib.hid (keptM_at (r := w.heap.size + 1) (b := true) (OX.out _ bb1) HLT.out (by omega) bb1)
    have kd_c0 := kd.here.cell 0 _ rfl
    have kd_c1 := kd.here.cell 1 _ rfl
    have kd_c2 := kd.here.cell 2 _ rfl
    have cz0 := ko.here.cell 0 _ rfl
    have fz0 := Lib.frozen_of_heap ko.here 0
    have cz1 := ko.here.cell 1 _ rfl
    have fz1 := Lib.frozen_of_heap ko.here 1
    have cz2 := ko.here.cell 2 _ rfl
    have fz2 := Lib.frozen_of_heap ko.here 2
    clear kd ko
    go_wp2
    refine bodyPost_ret (v := .tuple #[.agg #[.string cu, .bool x.1, .slice Ax x.2.length cx], .bool true]) (by simp [results, Tryz.results49, go_sem, cz0, cz1, cz2]) rfl ?_
    rw [HV.out]
    exact HW.out
  · have ok' : okM (cu, x) = false := by simpa using ok
    have HV := Lib.hid (show makeM cu x = (zeroM, false) by unfold makeM; rw [if_neg ok])
    rw [ok']
    clear ok ok' kx kd
    have cz0 := ko.here.cell 0 _ rfl
    have fz0 := Lib.frozen_of_heap ko.here 0
    have cz1 := ko.here.cell 1 _ rfl
    have fz1 := Lib.frozen_of_heap ko.here 1
    have cz2 := ko.here.cell 2 _ rfl
    have fz2 := Lib.frozen_of_heap ko.here 2
    go_wp2
    refine bodyPost_ret (v := .tuple #[.agg #[.string ⟨#[]⟩, .bool false, .slice none 0 0], .bool false]) (by simp [results, Tryz.results49, go_sem, cz0, cz1, cz2]) rfl ?_
    rw [HV.out]
    first | exact keptM_zero bb1 | exact keptM_zero (below_set3 bb1 (by omega))
end Go.Proofs.YtcenmdiblbooeaaGreatDoor

namespace Go.Proofs.YtcenmdiblbooeaaGreatDoor
open Go.RowKit

def RowPostb (r : CR) (b : Bool) (w : World) (e : Ending) (w' : World) : Prop := e = .returned (.tuple #[.agg #[.string r.1, .string r.2.1, .int .i64 r.2.2.1, .int .i64 r.2.2.2], .bool b]) ∧ Below w.heap.size w w'
theorem knownI {r : CR} (h : r ∈ implT) : knownC r.1 = true := List.any_eq_true.2 ⟨r.1, List.mem_map_of_mem (implT_sub r h), decide_eq_true rfl⟩
theorem knownI_none {n : ByteArray} (h : ∀ r ∈ implT, ¬ r.1 = n) : knownC n = false := by
  cases e : knownC n with
  | false => rfl
  | true =>
    obtain ⟨r, hr, he, _⟩ := known_row e
    exact absurd he (h r (specT_sub r hr))
set_option maxHeartbeats 1000000 in
set_option maxRecDepth 100000 in
theorem implFind_any (n : ByteArray) (w : World) (ht : CurTab w) : Calls Tryz.prog 74 #[.string n] w (RowPostb (rowOf specT n) (knownC n) w) := by
  have kr := box_new w #[.string ⟨#[]⟩, .string ⟨#[]⟩, .int .i64 0, .int .i64 0] 109
  have b0 := below_al (Below.refl w.heap.size w) (.cells #[.string ⟨#[]⟩, .string ⟨#[]⟩, .int .i64 0, .int .i64 0] 109)
  have HT := Lib.hid (ht.below b0)
  obtain ⟨W0, hW0⟩ : ∃ W0, W0 = w.alloc (.cells #[.string ⟨#[]⟩, .string ⟨#[]⟩, .int .i64 0, .int .i64 0] 109) := ⟨_, rfl⟩
  rw [← hW0] at kr b0 HT
  have HW := Lib.hid hW0
  have HI := Lib.hid cur_index
  have HK := Lib.hid kr
  have B1 := Lib.hid b0
  clear hW0 kr b0 ht
  go_enter Tryz.func74, Tryz.ntmps74
  go_wp2
  rw [← HW.out]
  refine wp_load_mid 143 _ (by rfl) 0 0 (by rfl) (cellsT implT) _ HT.out.range Tryz.underlying143 (by rfl) curInfo ?_
  generalize hTA : (cellsT implT).toArray = TA at *
  clear hTA HW
  go_wp2
  go_loopw [7] (fun i wr => ∃ k : Nat, k ≤ 20 ∧ i = .int .i64 k ∧ Hid (∀ r ∈ implT.take k, ¬ r.1 = n) ∧ Below W0.heap.size W0 wr) (fun i _ => 20 - (intOf i).toNat)
  case atStart => exact ⟨0, Nat.zero_le _, rfl, Lib.hid (fun r hr => absurd hr (by simp)), Below.refl _ _⟩
  case round =>
    obtain ⟨k, hk, rfl, hp, hb⟩ := hrel
    by_cases hlt : k < 20
    · have hix := HI.out k hlt
      have HM := Lib.hid (show implT[k] ∈ implT from List.getElem_mem _)
      have HN := Lib.hid (fun h => take_next hp.out (show k < implT.length from hlt) h)
      generalize implT[k] = r at hix HM HN
      obtain ⟨c, m, p, q⟩ := r
      simp only [cellsC] at hix
      have hal := below_al (Below.refl wr.heap.size wr) (.cells #[.string c, .string m, .int .i64 p, .int .i64 q] 109)
      by_cases he : c = n
      · subst he
        have hA := Lib.hid (show rowOf specT c = _ from (rowOf_eq c).symm.trans (rowOf_mem implT_codes HM.out))
        have hA2 := Lib.hid (knownI HM.out)
        have ko := (HK.out.below hb).below hal
        have HB := Lib.hid (Below.next (Below.next B1.out hb) hal)
        have co0 := ko.here.cell 0 _ rfl
        have co1 := ko.here.cell 1 _ rfl
        have co2 := ko.here.cell 2 _ rfl
        have co3 := ko.here.cell 3 _ rfl
        have fo0 := Lib.frozen_of_heap ko.here 0
        have fo1 := Lib.frozen_of_heap ko.here 1
        have fo2 := Lib.frozen_of_heap ko.here 2
        have fo3 := Lib.frozen_of_heap ko.here 3
        clear HM HN hp ko hal
        go_wp2
        refine bodyPost_ret (v := .tuple #[.agg #[.string c, .string m, .int .i64 p, .int .i64 q], .bool true]) (by simp [results, Tryz.results74, go_sem, co0, co1, co2, co3]) rfl ?_
        unfold RowPostb
        rw [hA.out, show knownC c = true from hA2.out]
        exact ⟨rfl, below_set4 HB.out (Nat.le_refl _)⟩
      · have HN2 := Lib.hid (HN.out he)
        clear HM HN hp hal
        have hne := bytes_neC he
        go_wp2
        exact ⟨⟨k + 1, by omega, by go_num, HN2, hb.alloc (by have := hb.size; omega) _⟩, by simp [intOf]; omega⟩
    · obtain rfl : k = 20 := by omega
      have hnone : ∀ r ∈ implT, ¬ r.1 = n := by rw [← List.take_of_length_le (l := implT) (i := 20) (by decide)]; exact hp.out
      have hA := Lib.hid (show rowOf specT n = zeroC from (rowOf_eq n).symm.trans (rowOf_none hnone))
      have hA2 := Lib.hid (knownI_none hnone)
      have ko := HK.out.below hb
      have HB := Lib.hid (Below.next B1.out hb)
      have co0 := ko.here.cell 0 _ rfl
      have co1 := ko.here.cell 1 _ rfl
      have co2 := ko.here.cell 2 _ rfl
      have co3 := ko.here.cell 3 _ rfl
      have fo0 := Lib.frozen_of_heap ko.here 0
      have fo1 := Lib.frozen_of_heap ko.here 1
      have fo2 := Lib.frozen_of_heap ko.here 2
      have fo3 := Lib.frozen_of_heap ko.here 3
      clear hp ko hnone
      go_wp2
      refine bodyPost_ret (v := .tuple #[.agg #[.string ⟨#[]⟩, .string ⟨#[]⟩, .int .i64 0, .int .i64 0], .bool false]) (by simp [results, Tryz.results74, go_sem, co0, co1, co2, co3]) rfl ?_
      unfold RowPostb
      rw [hA.out, hA2.out]
      first | exact ⟨rfl, HB.out⟩ | exact ⟨rfl, below_set4 HB.out (Nat.le_refl _)⟩
set_option maxHeartbeats 400000 in
set_option maxRecDepth 100000 in
theorem implCurKnown_any (n : ByteArray) (w : World) (ht : CurTab w) : Calls Tryz.prog 73 #[.string n] w fun e w' => e = .returned (.bool (knownC n)) ∧ Below w.heap.size w w' := by
  go_enter Tryz.func73, Tryz.ntmps73
  go_wp2_with fail
  refine (implFind_any n _ ht).mono ?_
  rintro e w1 ⟨rfl, b1⟩
  go_wp2
  go_ret
  exact ⟨rfl, below_al b1 _⟩
set_option maxHeartbeats 400000 in
set_option maxRecDepth 100000 in
theorem implCurPlaces_any (n : ByteArray) (w : World) (ht : CurTab w) : Calls Tryz.prog 36 #[.string n] w fun e w' => e = .returned (.int .i64 (placesC n)) ∧ Below w.heap.size w w' := by
  go_enter Tryz.func36, Tryz.ntmps36
  go_wp2_with fail
  refine (implFind_any n _ ht).mono ?_
  rintro e w1 ⟨rfl, b1⟩
  go_wp2
  go_ret
  exact ⟨rfl, below_al b1 _⟩
end Go.Proofs.YtcenmdiblbooeaaGreatDoor

namespace Go.Proofs.YtcenmdiblbooeaaGreatDoor
open Go.RowKit

theorem digB_true {d : Int} (h : digB d = true) : 0 ≤ d ∧ d ≤ 999999999 := of_decide_eq_true h
theorem digB_false {d : Int} (h : digB d = false) : ¬ (0 ≤ d ∧ d ≤ 999999999) := of_decide_eq_false h

set_option maxHeartbeats 400000 in
set_option maxRecDepth 100000 in
theorem implNatOk_same (v : Value) (xs : List Int) (lo hi : Nat) (w : World) (hl : xs.length ≤ 9223372036854775807) (hr : Row w lo hi v (intsV xs)) :
    Calls Tryz.prog 82 #[v] w fun e w' => e = .returned (.bool (natOkB xs)) ∧ w = w' := by
  obtain ⟨A, c, rfl, hA⟩ := hr
  have HA := Lib.hid hA
  rw [intsV_length]
  clear hA
  by_cases h50 : xs.length ≤ 50
  · go_enter Tryz.func82, Tryz.ntmps82
    go_wp2
    go_loop [10] (fun i => ∃ k : Nat, k ≤ xs.length ∧ i = .int .i64 k ∧ Hid ((xs.take k).all digB = true)) (fun i => xs.length - (intOf i).toNat)
    case atStart => exact ⟨0, Nat.zero_le _, rfl, Lib.hid rfl⟩
    case round =>
      obtain ⟨k, hk, rfl, HD⟩ := hrel
      by_cases hlt : k < xs.length
      · obtain ⟨a, rfl, _, _, hca⟩ := HA.out k _ (intsV_at xs k hlt)
        by_cases hd : digB xs[k] = true
        · have HS := Lib.hid (all_succ xs k hlt HD.out hd)
          have hd2 := digB_true hd
          have hd3 := hd2.1
          have hd4 := hd2.2
          clear hd2 hd
          go_wp2
          go_round
          case rel => exact ⟨k + 1, by omega, by go_num, HS⟩
          case measure => simp [intOf]; omega
        · have hd' : digB xs[k] = false := by simpa using hd
          have HN := Lib.hid (not_all xs k hlt hd')
          have hd2 := digB_false hd'
          by_cases hneg : xs[k] < 0
          · go_wp2
            go_ret
            exact ⟨ret_bool HN.out.symm, rfl⟩
          · have hbig : 1000000000 ≤ xs[k] := by omega
            go_wp2
            go_ret
            exact ⟨ret_bool HN.out.symm, rfl⟩
      · have HF := Lib.hid (all_upto xs k HD.out hlt)
        by_cases h0 : xs.length = 0
        · have hz : ((xs.length : Int) == 0) = true := by simp [h0]
          obtain rfl : xs = [] := List.eq_nil_of_length_eq_zero h0
          clear h0
          go_wp2
          go_ret
          exact ⟨rfl, rfl⟩
        · have hz : ((xs.length : Int) == 0) = false := by rw [beq_eq_false_iff_ne]; omega
          have hlt2 : xs.length - 1 < xs.length := by omega
          obtain ⟨a, rfl, _, _, hca⟩ := HA.out (xs.length - 1) _ (intsV_at xs (xs.length - 1) hlt2)
          have HL := Lib.hid (ok_last xs HF.out h50 hlt2)
          clear h0
          go_wp2
          go_ret
          exact ⟨ret_bool HL.out, rfl⟩
  · have HN := Lib.hid (ok_long xs h50)
    go_enter Tryz.func82, Tryz.ntmps82
    go_wp2
    go_ret
    exact ⟨ret_bool HN.out.symm, rfl⟩
theorem implNatOk_any (v : Value) (xs : List Int) (lo hi : Nat) (w : World) (hl : xs.length ≤ 1048576) (_ : hi ≤ w.heap.size) (hr : Row w lo hi v (intsV xs)) :
    Calls Tryz.prog 82 #[v] w fun e w' => e = .returned (.bool (natOkB xs)) ∧ Below w.heap.size w w' := by
  refine (implNatOk_same v xs lo hi w (by omega) hr).mono ?_
  rintro e w' ⟨rfl, rfl⟩
  exact ⟨rfl, Below.refl _ _⟩

set_option maxHeartbeats 400000 in
set_option maxRecDepth 100000 in
theorem implNatOf_any (n : Int) (w : World) (h1 : n ≤ 9223372036854775807) :
    Calls Tryz.prog 175 #[.int .i64 n] w (NewInts (limbs n.toNat) w) := by
  obtain ⟨i0, hi, hz0, hz1, hz2⟩ := info_parts intInfo
  go_enter Tryz.func175, Tryz.ntmps175
  go_wp2
  go_loopw [0, 3] (fun a v wr => ∃ (m : Int) (out : List Int) (f : Nat), m ≤ 9223372036854775807 ∧ out.length + f ≤ 3 ∧ m < 1000000000 ^ f ∧ a = .int .i64 m ∧ Hid (out ++ limbs m.toNat = limbs n.toNat) ∧ wr.ownsRow w.heap.size 3 1 v out.length (intsV out) ∧ Below w.heap.size w wr) (fun a _ _ => (intOf a).toNat)
  case atStart => exact ⟨n, [], 3, h1, by simp, by omega, rfl, Lib.hid rfl, World.ownsRow_nil _ _ _ _, Below.refl _ _⟩
  case round =>
    obtain ⟨m, out, f, hm, hol, hmf, rfl, HE, hown, hb1⟩ := hrel
    by_cases h0 : 0 < m
    · obtain ⟨g, rfl⟩ : ∃ g, f = g + 1 := by
        cases f with
        | zero => simp at hmf; omega
        | succ g => exact ⟨g, rfl⟩
      have hmg : m / 1000000000 < 1000000000 ^ g := by
        rw [Int.pow_succ] at hmf
        exact Int.ediv_lt_of_lt_mul (by omega) hmf
      have HS : Hid (out ++ [m % 1000000000] ++ limbs (m / 1000000000).toNat = limbs n.toNat) := Lib.hid (by
        have e := HE.out
        rw [limbs_pos m.toNat (by omega)] at e
        rw [List.append_assoc, ← e, show ((m.toNat % 1000000000 : Nat) : Int) = m % 1000000000 from by omega, show m.toNat / 1000000000 = (m / 1000000000).toNat from by omega]
        rfl)
      clear hmf
      go_wp2_with (at_builtin; refine wpList_append_own _ rfl (.tmp 8) (.tmp 11) 23 rfl w.heap.size 3 i0 (.int .i64 0) 1 8 Tryz.underlying23 hi hz0 hz1 hz2 rfl (by decide) _ _ _ rfl (own_alloc hown _) ⟨wr.heap.size, 0, none⟩ 1 1 [.int .i64 (m % 1000000000)] rfl rfl (one_new _ _ _) ?c2 ?c3 ?c4 ?c5 ?_)
      case c2 => first | (intro u hu; simp at hu; subst hu; rfl) | rfl
      case c3 => unfold maxLen; omega
      case c4 => omega
      case c5 => have := hb1.size; simp; omega
      intro v1 w1 hown1 hg1 _
      have hb2 := below_push hb1 (Nat.le_refl _) hown hg1
      go_wp2
      exact ⟨⟨m / 1000000000, out ++ [m % 1000000000], g, by omega, by simp; omega, hmg, rfl, HS, by simpa [intsV] using hown1, hb2⟩, by simp [intOf]; omega⟩
    · have HF : Hid (out = limbs n.toNat) := Lib.hid (by have e := HE.out; rwa [show m.toNat = 0 from by omega, limbs_none, List.append_nil] at e)
      go_wp2
      go_ret
      exact ⟨_, rfl, by rw [← HF.out]; exact hown, hb1⟩

/-- a callee that only computes, met inside a region that draws -/
theorem quiet_at {P : Program} {f : FuncId} {args : Array Value} {W : World} {X : Nat → World} {n : Nat} {v : Value} (hX : X n = W)
    (h : Calls P f args W fun e w' => e = .returned v ∧ W = w') : Calls P f args W fun e w'' => e = .returned v ∧ ∃ m, w'' = X m :=
  h.mono fun _ _ ⟨he, hm⟩ => ⟨he, n, hm.symm.trans hX.symm⟩

set_option maxHeartbeats 400000 in
set_option maxRecDepth 100000 in
theorem isNaN_any (x : Int) (w : World) : Calls Tryz.prog 117 #[.int .i64 x] w fun e w' => e = .returned (.bool false) ∧ w = w' := by
  go_enter Tryz.func117, Tryz.ntmps117
  go_wp2
  go_ret
  exact ⟨by simp, rfl⟩
set_option maxHeartbeats 400000 in
set_option maxRecDepth 100000 in
theorem compare_any (x y : Int) (w : World) : Calls Tryz.prog 83 #[.int .i64 x, .int .i64 y] w fun e w' => e = .returned (.int .i64 (cmpI x y)) ∧ w = w' := by
  go_enter Tryz.func83, Tryz.ntmps83
  go_wp2_with (go_at_call 117; refine (isNaN_any _ _).mono ?_; rintro e w' ⟨rfl, rfl⟩)
  all_goals (go_ret; refine ⟨?_, rfl⟩; unfold cmpI; (repeat' split) <;> first | rfl | (exfalso; omega))

set_option maxHeartbeats 1000000 in
set_option maxRecDepth 100000 in
theorem compareLimbs_any (va vb : Value) (a b : List Int) (la ha lb hb : Nat) (w : World) (hal : a.length ≤ 9223372036854775807) (_hbl : b.length ≤ 9223372036854775807) (oa : DigN a ∧ a.getLastD 1 ≠ 0) (ob : DigN b ∧ b.getLastD 1 ≠ 0)
    (hra : Row w la ha va (intsV a)) (hrb : Row w lb hb vb (intsV b)) :
    Calls Tryz.prog 43 #[va, vb] w fun e w' => e = .returned (.int .i64 (cmpI (nval a) (nval b))) ∧ ∃ q, w.drewN q = w' := by
  have OA := Lib.hid oa
  have OB := Lib.hid ob
  obtain ⟨A, c, rfl, hA⟩ := hra
  obtain ⟨B, d, rfl, hB⟩ := hrb
  rw [intsV_length]
  rw [intsV_length]
  have HA := Lib.hid hA
  have HB := Lib.hid hB
  clear hA hB oa ob
  by_cases hlen : a.length = b.length
  · have HL := Lib.hid hlen
    have hbe : ((a.length : Int) != (b.length : Int)) = false := by simp [hlen]
    clear hlen
    go_enter Tryz.func43, Tryz.ntmps43
    go_wp2
    go_loopw [5] (fun i wr => ∃ k q : Nat, k ≤ a.length ∧ i = .int .i64 ((k : Int) - 1) ∧ wr = w.drewN q ∧ Hid (a.drop k = b.drop k)) (fun i _ => (intOf i + 1).toNat)
    case atStart => exact ⟨a.length, 0, Nat.le_refl _, rfl, rfl, Lib.hid (by rw [List.drop_of_length_le (Nat.le_refl _), List.drop_of_length_le (by have := HL.out; omega)])⟩
    case round =>
      obtain ⟨k, q, hk, rfl, rfl, HT⟩ := hrel
      by_cases hz : 0 < k
      · obtain ⟨m, rfl⟩ : ∃ m, k = m + 1 := ⟨k - 1, by omega⟩
        have hlt : m < a.length := by omega
        have hlt2 : m < b.length := by have := HL.out; omega
        obtain ⟨p, rfl, _, _, hca⟩ := HA.out m _ (intsV_at a m hlt)
        obtain ⟨r, rfl, _, _, hcb⟩ := HB.out m _ (intsV_at b m hlt2)
        have hm1 : ((m + 1 : Nat) : Int) - 1 = (m : Int) := by omega
        rw [hm1]
        clear hm1 hz
        by_cases he : a[m] = b[m]
        · have hne : (a[m] != b[m]) = false := by simp [he]
          have HS := Lib.hid (drop_same a b m hlt hlt2 HT.out he)
          clear he
          go_wp2
          go_quiet (fail)
          go_wp2
          go_roundw
          case rel => exact ⟨m, _, by omega, rfl, rfl, HS⟩
          case measure => simp [intOf]
        · have hne : (a[m] != b[m]) = true := by rw [bne_iff_ne]; exact he
          have HV : Hid (cmpI a[m] b[m] = cmpI (nval a) (nval b)) := Lib.hid (by
            by_cases h1 : a[m] < b[m]
            · rw [cmp_lt h1, cmp_lt (nval_lt_down a b OA.out.1 OB.out.1 HL.out m (by rw [nval_drop a m hlt, nval_drop b m hlt2, HT.out]; omega))]
            · rw [cmp_gt (show b[m] < a[m] by omega), cmp_gt (nval_lt_down b a OB.out.1 OA.out.1 HL.out.symm m (by rw [nval_drop a m hlt, nval_drop b m hlt2, HT.out]; omega))])
          clear he
          go_wp2
          go_quiet (fail)
          go_wp2
          go_quiet ((go_at_call 83; exact quiet_at rfl (compare_any _ _ _)))
          go_wp2
          go_ret
          exact ⟨ret_int HV.out, drew_three _ _ _ _⟩
      · obtain rfl : k = 0 := by omega
        go_wp2
        go_ret
        exact ⟨ret_int (cmp_eq (by have := HT.out; rw [List.drop_zero, List.drop_zero] at this; rw [this])).symm, q, rfl⟩
  · have hbe : ((a.length : Int) != (b.length : Int)) = true := by simp; omega
    have HV : Hid (cmpI (a.length : Int) (b.length : Int) = cmpI (nval a) (nval b)) := Lib.hid (by
      by_cases hs : a.length < b.length
      · rw [cmp_lt (by omega), cmp_lt (nval_short a b OA.out.1 OB.out.1 hs OB.out.2)]
      · rw [cmp_gt (by omega), cmp_gt (nval_short b a OB.out.1 OA.out.1 (by omega) OA.out.2)])
    clear hlen
    go_enter Tryz.func43, Tryz.ntmps43
    go_wp2_with (go_at_call 83; refine (compare_any _ _ _).mono ?_; rintro e w' ⟨rfl, rfl⟩)
    go_ret
    exact ⟨ret_int HV.out, 0, rfl⟩

set_option maxHeartbeats 1000000 in
set_option maxRecDepth 100000 in
theorem implNatCmp_drew (va vb : Value) (a b : List Int) (la ha lb hb : Nat) (w : World) (hal : a.length ≤ 9223372036854775807) (hbl : b.length ≤ 9223372036854775807)
    (hra : Row w la ha va (intsV a)) (hrb : Row w lb hb vb (intsV b)) :
    Calls Tryz.prog 173 #[va, vb] w fun e w' => e = .returned (.int .i64 (cmpN a b)) ∧ ∃ q, w.drewN q = w' := by
  by_cases oa : natOkB a = true
  · by_cases ob : natOkB b = true
    · have HC := Lib.hid (show cmpN a b = cmpI (nval a) (nval b) by unfold cmpN; rw [if_pos ⟨oa, ob⟩])
      have OA := Lib.hid (ok_dig oa)
      have OB := Lib.hid (ok_dig ob)
      go_enter Tryz.func173, Tryz.ntmps173
      go_wp2_with fail
      refine (implNatOk_same va a la ha _ hal hra).mono ?_
      rintro e w' ⟨rfl, rfl⟩
      rw [oa]
      go_wp2_with fail
      refine (implNatOk_same vb b lb hb _ hbl hrb).mono ?_
      rintro e w' ⟨rfl, rfl⟩
      rw [ob]
      clear oa ob
      go_wp2_with fail
      refine (compareLimbs_any va vb a b la ha lb hb _ hal hbl OA.out OB.out hra hrb).mono ?_
      rintro e w' ⟨rfl, q, rfl⟩
      go_wp2
      go_ret
      exact ⟨ret_int HC.out.symm, q, rfl⟩
    · have ob' : natOkB b = false := by simpa using ob
      have HC := Lib.hid (show cmpN a b = 0 by unfold cmpN; rw [if_neg (fun h => ob h.2)])
      clear ob
      go_enter Tryz.func173, Tryz.ntmps173
      go_wp2_with fail
      refine (implNatOk_same va a la ha _ hal hra).mono ?_
      rintro e w' ⟨rfl, rfl⟩
      rw [oa]
      go_wp2_with fail
      refine (implNatOk_same vb b lb hb _ hbl hrb).mono ?_
      rintro e w' ⟨rfl, rfl⟩
      rw [ob']
      go_wp2
      go_ret
      exact ⟨ret_int HC.out.symm, 0, rfl⟩
  · have oa' : natOkB a = false := by simpa using oa
    have HC := Lib.hid (show cmpN a b = 0 by unfold cmpN; rw [if_neg (fun h => oa h.1)])
    clear oa
    go_enter Tryz.func173, Tryz.ntmps173
    go_wp2_with fail
    refine (implNatOk_same va a la ha _ hal hra).mono ?_
    rintro e w' ⟨rfl, rfl⟩
    rw [oa']
    go_wp2
    go_ret
    exact ⟨ret_int HC.out.symm, 0, rfl⟩
theorem implNatCmp_any (va vb : Value) (a b : List Int) (la ha lb hb : Nat) (w : World) (hal : a.length ≤ 1048576) (hbl : b.length ≤ 1048576) (_ : ha ≤ w.heap.size) (_ : hb ≤ w.heap.size)
    (hra : Row w la ha va (intsV a)) (hrb : Row w lb hb vb (intsV b)) :
    Calls Tryz.prog 173 #[va, vb] w fun e w' => e = .returned (.int .i64 (cmpN a b)) ∧ Below w.heap.size w w' := by
  refine (implNatCmp_drew va vb a b la ha lb hb w (by omega) (by omega) hra hrb).mono ?_
  rintro e w' ⟨rfl, q, rfl⟩
  exact ⟨rfl, below_drewN (Below.refl _ _) q⟩

theorem max_limbs : limbs (9223372036854775807 : Int).toNat = [854775807, 223372036, 9] := by
  rw [show (9223372036854775807 : Int).toNat = 9223372036854775807 from rfl, limbs_pos _ (by decide), limbs_pos _ (by decide), limbs_pos _ (by decide), limbs, dif_pos (by decide)]
  rfl

end Go.Proofs.YtcenmdiblbooeaaGreatDoor

namespace Go.Proofs.YtcenmdiblbooeaaGreatDoor
open Go.RowKit

set_option maxHeartbeats 400000 in
set_option maxRecDepth 100000 in
theorem implIntOk_any (v : Value) (x : SI) (w : World) (hl : x.2.length ≤ 1048576) (h : RdS w v x) :
    Calls Tryz.prog 42 #[v] w fun e w' => e = .returned (.bool (okS x)) ∧ Below w.heap.size w w' := by
  obtain ⟨n, xs⟩ := x
  obtain ⟨u, rfl, hp⟩ := h
  obtain ⟨A, c, rfl⟩ := row_form hp
  rw [intsV_length] at hp ⊢
  simp only at hl hp ⊢
  have hbx : Below w.heap.size w (w.alloc (.cells #[.bool n, .slice A xs.length c] 25)) := below_al (Below.refl _ _) _
  have HV := Lib.hid (show okS (n, xs) = (natOkB xs && (!n || decide (0 < xs.length))) from rfl)
  by_cases ok : natOkB xs = true
  · rw [ok] at HV
    go_enter Tryz.func42, Tryz.ntmps42
    go_wp2_with fail
    refine (implNatOk_same _ xs 0 w.heap.size _ (by omega) (hp.below hbx (Nat.le_refl _))).mono ?_
    rintro e w1 ⟨rfl, rfl⟩
    rw [ok]
    by_cases hz : xs.length = 0
    · have hb : ((xs.length : Int) == 0) = true := by rw [hz]; rfl
      have hd : decide (0 < xs.length) = false := decide_eq_false (by omega)
      rw [hd] at HV
      clear hz hd
      cases n <;>
      · go_wp2
        go_ret
        exact ⟨ret_bool (by rw [HV.out]; rfl), hbx⟩
    · have hb : ((xs.length : Int) == 0) = false := by rw [beq_eq_false_iff_ne]; omega
      have hd : decide (0 < xs.length) = true := decide_eq_true (by omega)
      rw [hd] at HV
      clear hz hd
      cases n <;>
      · go_wp2
        go_ret
        exact ⟨ret_bool (by rw [HV.out]; rfl), hbx⟩
  · have ok' : natOkB xs = false := by simpa using ok
    rw [ok'] at HV
    clear ok
    go_enter Tryz.func42, Tryz.ntmps42
    go_wp2_with fail
    refine (implNatOk_same _ xs 0 w.heap.size _ (by omega) (hp.below hbx (Nat.le_refl _))).mono ?_
    rintro e w1 ⟨rfl, rfl⟩
    rw [ok']
    go_wp2
    go_ret
    exact ⟨ret_bool (by rw [HV.out]; rfl), hbx⟩

theorem Below.drew1 {B : Nat} {w w1 : World} (h : Below B w w1) : Below B w w1.drew := ⟨h.os, h.tape, h.output, h.size, h.block⟩
end Go.Proofs.YtcenmdiblbooeaaGreatDoor

namespace Go.Proofs.YtcenmdiblbooeaaGreatDoor
open Go.RowKit

/-- what a nat lies in: the cells behind its limbs, and the type of the block (a nat alone, or the head of an integer) -/
structure NatK where
  rest : List Value
  ty : TypeId
  ne : ty ≠ 3
@[reducible] def natK : NatK := ⟨[], 119, by decide⟩
/-- the pointer at block b leads to a nat of the call's own whose limbs are xs -/
def NatX (K : NatK) (B b : Nat) (xs : List Int) (w : World) : Prop :=
  B ≤ b ∧ ∃ v, w.heap[b]? = some (.cells (v :: K.rest).toArray K.ty (0, 0)) ∧ w.ownsRow B 3 1 v xs.length (intsV xs) ∧ v.ownBlock ≠ some b

abbrev NatAt (B b : Nat) (xs : List Int) (w : World) : Prop := NatX natK B b xs w

theorem NatX.lt {K : NatK} {B b : Nat} {xs : List Int} {w : World} (h : NatX K B b xs w) : b < w.heap.size := by
  obtain ⟨_, v, hb, _⟩ := h
  exact (Array.getElem?_eq_some_iff.1 hb).1
theorem NatX.cell {K : NatK} {v : Value} {b : Nat} {w : World} (hb : w.heap[b]? = some (.cells (v :: K.rest).toArray K.ty (0, 0))) : w.cell? ⟨b, 0, none⟩ = some v := by
  rw [Lib.cell_of_heap hb]; simp
theorem NatX.cell1 {K : NatK} {v u : Value} {b : Nat} {w : World} (hb : w.heap[b]? = some (.cells (v :: K.rest).toArray K.ty (0, 0))) (j : Nat) (hj : K.rest[j]? = some u) : w.cell? ⟨b, j + 1, none⟩ = some u := by
  rw [Lib.cell_of_heap hb]; simpa using hj
/-- new limbs laid into it -/
theorem NatX.put {K : NatK} {B b : Nat} {v v' : Value} {ys : List Int} {w : World} (hB : B ≤ b) (hb : w.heap[b]? = some (.cells (v :: K.rest).toArray K.ty (0, 0))) (hown : w.ownsRow B 3 1 v' ys.length (intsV ys)) :
    NatX K B b ys (w.setCell ⟨b, 0, none⟩ v') := by
  have hne := Lib.ownBlock_ne hown hb K.ne
  refine ⟨hB, v', ?_, ?_, hne⟩
  · simp [World.setCell, Array.getElem?_modify, hb]
  · exact hown.kept (row := some b) ⟨rfl, rfl, rfl, by simp [World.setCell], fun k _ hk => Below.heap_setCell _ _ _ _ (fun e => hk (by simp [e]))⟩ (Or.inr hne)
theorem NatAt.put {B b : Nat} {v v' : Value} {ys : List Int} {w : World} (hB : B ≤ b) (hb : w.heap[b]? = some (.cells #[v] 119 (0, 0))) (hown : w.ownsRow B 3 1 v' ys.length (intsV ys)) :
    NatAt B b ys (w.setCell ⟨b, 0, none⟩ v') := NatX.put (K := natK) hB hb hown
theorem NatX.new {K : NatK} {B : Nat} {v : Value} {xs : List Int} {w : World} (hB : B ≤ w.heap.size) (hown : w.ownsRow B 3 1 v xs.length (intsV xs)) : NatX K B w.heap.size xs (w.alloc (.cells (v :: K.rest).toArray K.ty)) := by
  refine ⟨hB, v, heap_alloc_new w _, own_alloc hown _, fun h => ?_⟩
  have := (own_lt hown h).2
  omega
theorem NatAt.new {B : Nat} {v : Value} {xs : List Int} {w : World} (hB : B ≤ w.heap.size) (hown : w.ownsRow B 3 1 v xs.length (intsV xs)) : NatAt B w.heap.size xs (w.alloc (.cells #[v] 119)) :=
  NatX.new (K := natK) hB hown

set_option maxHeartbeats 1000000 in
set_option maxRecDepth 100000 in
theorem cloneI_any (v : Value) (xs : List Int) (lo hi : Nat) (w : World) (hl : xs.length ≤ 1048576) (hr : Row w lo hi v (intsV xs)) :
    Calls Tryz.prog 191 #[v] w (NewInts xs w) := by
  obtain ⟨i0, hi0, hz0, hz1, hz2⟩ := info_parts intInfo
  obtain ⟨A, c, rfl, hA⟩ := hr
  have q22 : ∀ (w : World) (a : Option Addr) (n c n' c' : Nat), (binOp .eql 23 (.slice a n c) (.slice none n' c')).run Tryz.prog w = .ok (.bool a.isNone) w := fun w a n c n' c' => Lib.run_eql_slice_nil w _ _ a n c n' c' Tryz.underlying23
  cases A with
  | none =>
    obtain rfl : xs = [] := by
      cases xs with
      | nil => rfl
      | cons x r =>
        obtain ⟨a, e, _⟩ := hA 0 _ rfl
        cases e
    clear hA
    go_enter Tryz.func191, Tryz.ntmps191
    go_wp2
    go_ret
    exact ⟨_, rfl, World.ownsRow_nil _ _ _ _, Below.refl _ _⟩
  | some a =>
    have HA := Lib.hid hA
    clear hA
    rw [intsV_length]
    go_enter Tryz.func191, Tryz.ntmps191
    go_wp2_with (at_builtin; refine wpList_append_own _ rfl _ _ 23 rfl w.heap.size 3 i0 (.int .i64 0) 1 8 Tryz.underlying23 hi0 hz0 hz1 hz2 rfl (by decide) _ _ _ rfl (World.ownsRow_made w #[] 0 (Nat.le_refl _) (Nat.zero_le _) rfl) a xs.length c (intsV xs) rfl ?qc1 ?qc2 ?qc3 ?qc4 ?qc5 ?qc6 ?_)
    case qc1 => simp [intsV_length]
    case qc2 =>
      intro j u hj
      obtain ⟨p, e, h1, h2, h3⟩ := HA.out j u hj
      cases e
      exact Lib.cell?_alloc_some _ h3
    case qc3 => intro u hu; obtain ⟨x, _, rfl⟩ := List.mem_map.1 hu; rfl
    case qc4 => unfold maxLen; omega
    case qc5 => omega
    case qc6 => simp
    intro v' w1 hown hgrow hnil
    go_wp2
    go_ret
    exact ⟨v', rfl, by simpa using hown, ((Below.refl _ w).alloc (Nat.le_refl _) _).grown hgrow (by simp) (by intro k hk; simp [Value.ownBlock] at hk; omega)⟩

/-- a new nat that holds xs -/
def NewNat (xs : List Int) (w : World) (e : Ending) (w' : World) : Prop :=
  ∃ b, e = .returned (.pointer (some ⟨b, 0, none⟩)) ∧ NatAt w.heap.size b xs w' ∧ Below w.heap.size w w'

set_option maxHeartbeats 400000 in
set_option maxRecDepth 100000 in
theorem copyNat_any (v : Value) (xs : List Int) (lo hi : Nat) (w : World) (hl : xs.length ≤ 1048576) (hr : Row w lo hi v (intsV xs)) :
    Calls Tryz.prog 156 #[v] w (NewNat xs w) := by
  go_enter Tryz.func156, Tryz.ntmps156
  go_wp2_with fail
  refine (cloneI_any v xs lo hi _ hl hr).mono ?_
  rintro e w1 ⟨v1, rfl, o1, b1⟩
  obtain ⟨A1, c1, rfl⟩ := own_len o1
  go_wp2
  go_ret
  exact ⟨_, rfl, NatAt.new b1.size o1, b1.alloc b1.size _⟩

set_option maxHeartbeats 400000 in
set_option maxRecDepth 100000 in
theorem natResult_any {K : NatK} (B b : Nat) (xs : List Int) (w : World) (hl : xs.length ≤ 1048576) (h : NatX K B b xs w) :
    Calls Tryz.prog 116 #[.pointer (some ⟨b, 0, none⟩)] w (OwnPost B (capL xs) w) := by
  obtain ⟨hB, v, hb, hown, hne⟩ := h
  have hc : w.cell? ⟨b, 0, none⟩ = some v := NatX.cell hb
  obtain ⟨A, c, rfl⟩ := own_len hown
  have HB := Lib.hid hb
  have HO := Lib.hid hown
  clear hb hown hne
  by_cases h50 : 50 < xs.length
  · have HR := Lib.hid (show capL xs = [] by unfold capL; rw [if_pos h50])
    go_enter Tryz.func116, Tryz.ntmps116
    go_wp2
    go_ret
    exact ⟨rfl, _, rfl, by rw [HR.out]; exact World.ownsRow_nil _ _ _ _⟩
  · have HR := Lib.hid (show capL xs = xs by unfold capL; rw [if_neg h50])
    go_enter Tryz.func116, Tryz.ntmps116
    go_wp2
    go_ret
    exact ⟨rfl, _, rfl, by rw [HR.out]; exact HO.out⟩
end Go.Proofs.YtcenmdiblbooeaaGreatDoor

namespace Go.Proofs.YtcenmdiblbooeaaGreatDoor
open Go.RowKit

/-- what a method leaves: the number, and all below B as it was -/
def LeftX (K : NatK) (B b : Nat) (xs : List Int) (w w' : World) : Prop := NatX K B b xs w' ∧ Below B w w'
abbrev Left (B b : Nat) (xs : List Int) (w w' : World) : Prop := LeftX natK B b xs w w'
theorem zeros_step (xs : List Int) (k : Nat) : xs ++ List.replicate k 0 ++ [(0 : Int)] = xs ++ List.replicate (k + 1) 0 := by
  rw [List.append_assoc, List.replicate_succ']
theorem zeros_pad (xs : List Int) (k p : Nat) (h : xs.length + k ≤ p + 1 ∨ k = 0) (h2 : p < xs.length + k) : xs ++ List.replicate k 0 = padL xs (p + 1) := by
  unfold padL
  rw [show p + 1 - xs.length = k by omega]
theorem intsV_append (xs ys : List Int) : intsV (xs ++ ys) = intsV xs ++ intsV ys := by simp [intsV]

/-- a store into the limbs of a nat -/
theorem NatX.stored {K : NatK} {B b g cap : Nat} {xs : List Int} {w : World} (hB : B ≤ b) (hb : w.heap[b]? = some (.cells (.slice (some ⟨g, 0, none⟩) xs.length cap :: K.rest).toArray K.ty (0, 0)))
    (hown : w.ownsRow B 3 1 (.slice (some ⟨g, 0, none⟩) xs.length cap) xs.length (intsV xs)) (p : Nat) (d : Int) :
    LeftX K B b (xs.set p d) w (w.setCell ⟨g, p, none⟩ (.int .i64 d)) ∧ (w.setCell ⟨g, p, none⟩ (.int .i64 d)).heap[b]? = some (.cells (.slice (some ⟨g, 0, none⟩) xs.length cap :: K.rest).toArray K.ty (0, 0)) ∧
      (w.setCell ⟨g, p, none⟩ (.int .i64 d)).ownsRow B 3 1 (.slice (some ⟨g, 0, none⟩) (xs.set p d).length cap) (xs.set p d).length (intsV (xs.set p d)) := by
  have hne := Lib.ownBlock_ne hown hb K.ne
  have hgb : b ≠ g := fun e => hne (by simp [Value.ownBlock, e])
  obtain ⟨ho, hg⟩ := hown.stored p (.int .i64 d)
  have hlt := own_lt hown (g := g) rfl
  have hbs : B ≤ w.heap.size := by omega
  have hb2 : (w.setCell ⟨g, p, none⟩ (.int .i64 d)).heap[b]? = some (.cells (.slice (some ⟨g, 0, none⟩) xs.length cap :: K.rest).toArray K.ty (0, 0)) := (Below.heap_setCell _ _ _ _ hgb).trans hb
  have hl : (xs.set p d).length = xs.length := List.length_set
  rw [intsV_set] at ho
  refine ⟨⟨⟨hB, _, hb2, by rw [hl]; exact ho, hne⟩, (Below.refl _ _).setCell (p := ⟨g, p, none⟩) hlt.1 _⟩, hb2, by rw [hl]; exact ho⟩

set_option maxHeartbeats 1000000 in
set_option maxRecDepth 100000 in
theorem addAt_any {K : NatK} (B b : Nat) (xs : List Int) (p : Nat) (v : Int) (w : World) (hl : xs.length ≤ 1048576) (hp : p ≤ 1048576) (hv0 : 0 ≤ v) (hv1 : v ≤ 1000000000000000000) (hd : DigN xs) (h : NatX K B b xs w) :
    Calls Tryz.prog 155 #[.pointer (some ⟨b, 0, none⟩), .int .i64 p, .int .i64 v] w fun e w' => e = .returned (.int .i64 (addAtC xs p v)) ∧ LeftX K B b (addAtL xs p v) w w' := by
  obtain ⟨i0, hi0, hz0, hz1, hz2⟩ := info_parts intInfo
  have HD := Lib.hid hd
  clear hd
  go_enter Tryz.func155, Tryz.ntmps155
  go_wp2
  go_loopg [] (p + 1 - xs.length) (fun n wr => ∃ k : Nat, Hid (xs.length + k ≤ p + 1 ∨ k = 0) ∧ Hid (n = p + 1 - (xs.length + k)) ∧ NatX K B b (xs ++ List.replicate k 0) wr ∧ Below B w wr)
  case atStart => exact ⟨0, Lib.hid (Or.inr rfl), Lib.hid (by omega), by simpa using h, Below.refl _ _⟩
  case round =>
    obtain ⟨k, HK, HN, hat, hb1⟩ := hrel
    have hlt := hat.lt
    obtain ⟨hB, u, hbk, hown, hne⟩ := hat
    have hlen : (xs ++ List.replicate k (0 : Int)).length = xs.length + k := by simp
    have hxk : xs.length + k ≤ 1048577 := by rcases HK.out with h | h <;> omega
    rw [hlen] at hown
    by_cases hc : xs.length + k ≤ p
    · obtain ⟨A, c, rfl⟩ := own_len hown
      have c1 : wr.cell? ⟨b, 0, none⟩ = some (.slice A (xs.length + k) c) := NatX.cell hbk
      have HB := Lib.hid hbk
      have HE := Lib.hid hne
      clear hbk hne hlen
      go_wp2_with (at_builtin; refine wpList_append_own _ rfl _ _ 23 rfl B 3 i0 (.int .i64 0) 1 8 Tryz.underlying23 hi0 hz0 hz1 hz2 rfl (by decide) _ _ _ rfl (own_alloc hown _) ⟨wr.heap.size, 0, none⟩ 1 1 [.int .i64 0] rfl rfl (one_new _ _ _) ?c2 ?c3 ?c4 ?c5 ?_)
      case c2 => first | (intro u hu; simp at hu; subst hu; rfl) | rfl
      case c3 => unfold maxLen; omega
      case c4 => omega
      case c5 => simp; omega
      intro v1 w1 hown1 hg1 _
      have hb2 : w1.heap[b]? = some (.cells (.slice A (xs.length + k) c :: K.rest).toArray K.ty (0, 0)) := by
        rw [hg1.block b (by simp; omega) (fun e => HE.out e.symm), Below.heap_alloc _ _ _ hlt]
        exact HB.out
      have d1 : w1.cell? ⟨b, 0, none⟩ = some (.slice A (xs.length + k) c) := NatX.cell hb2
      have f1 : w1.frozen? ⟨b, 0, none⟩ = false := Lib.frozen_of_heap hb2 0
      have hb3 : Below B w w1 := (hb1.alloc (by omega) _).grown hg1 (by simp; omega) (fun k hk => (own_lt hown hk).1)
      obtain ⟨A1, cc1, rfl⟩ := own_len hown1
      have hput := NatX.put (ys := xs ++ List.replicate (k + 1) 0) hB hb2 (by rw [← zeros_step, intsV_append]; simpa [intsV, Nat.add_assoc] using hown1)
      have HB2 := Lib.hid hb2
      clear hb2 c1
      go_wp2
      go_roundg (p + 1 - (xs.length + (k + 1)))
      case measure => have := HN.out; omega
      case rel => exact ⟨k + 1, Lib.hid (by omega), Lib.hid rfl, hput, hb3.setCell (p := ⟨b, 0, none⟩) hB _⟩
    · have HP := Lib.hid (zeros_pad xs k p HK.out (by omega))
      obtain ⟨g, cap, rfl, hg1, hg2, hg3⟩ := own_form hown (by omega)
      have c1 : wr.cell? ⟨b, 0, none⟩ = some (.slice (some ⟨g, 0, none⟩) (xs.length + k) cap) := NatX.cell hbk
      have hpl : p < (padL xs (p + 1)).length := by rw [padL_length]; omega
      have hcell := hown.cellAt p (by omega)
      rw [HP.out, intsV_at _ p hpl, padL_at] at hcell
      have hfr := hown.frozenAt p
      have hdg := getD_dig HD.out p
      have hs : xs.length + k = (padL xs (p + 1)).length := by rw [← HP.out, hlen]
      have HST := Lib.hid (NatX.stored (xs := padL xs (p + 1)) hB (by rw [← hs]; exact hbk) (by rw [← hs, ← HP.out]; exact hown) p ((v + xs.getD p 0) % 1000000000))
      have HC := Lib.hid (show addAtC xs p v = (v + xs.getD p 0) / 1000000000 from rfl)
      have HL := Lib.hid (show addAtL xs p v = (padL xs (p + 1)).set p ((v + xs.getD p 0) % 1000000000) from rfl)
      clear hown hbk hs hlen hne
      generalize xs.getD p 0 = dg at hcell hdg HST HC HL
      have hdg0 := hdg.1
      have hdg1 := hdg.2
      clear hdg
      go_wp2
      go_ret
      exact ⟨ret_int HC.out.symm, by rw [HL.out]; exact ⟨HST.out.1.1, hb1.trans HST.out.1.2⟩⟩

/-! ### a number of the call's own with the blocks on which it leans -/
/-- the nat at block b; T: its block and that of its limbs -/
def NatOnX (K : NatK) (T : List Nat) (b : Nat) (xs : List Int) (w : World) : Prop :=
  ∃ v, w.heap[b]? = some (.cells (v :: K.rest).toArray K.ty (0, 0)) ∧ w.ownsRow 0 3 1 v xs.length (intsV xs) ∧ v.ownBlock ≠ some b ∧ T = b :: v.ownBlock.toList
/-- what a method leaves that keeps the blocks -/
def KeptX (K : NatK) (T : List Nat) (b : Nat) (xs : List Int) (w w' : World) : Prop := NatOnX K T b xs w' ∧ Chg T w w'
abbrev NatOn (T : List Nat) (b : Nat) (xs : List Int) (w : World) : Prop := NatOnX natK T b xs w
abbrev Kept (T : List Nat) (b : Nat) (xs : List Int) (w w' : World) : Prop := KeptX natK T b xs w w'
theorem NatOnX.lt {K : NatK} {T : List Nat} {b : Nat} {xs : List Int} {w : World} (h : NatOnX K T b xs w) : b < w.heap.size := by
  obtain ⟨v, hb, _⟩ := h
  exact (Array.getElem?_eq_some_iff.1 hb).1
theorem NatOnX.mem {K : NatK} {T : List Nat} {b : Nat} {xs : List Int} {w : World} (h : NatOnX K T b xs w) : b ∈ T := by
  obtain ⟨v, _, _, _, rfl⟩ := h
  simp
theorem NatOnX.at_ {K : NatK} {T : List Nat} {b : Nat} {xs : List Int} {w : World} (h : NatOnX K T b xs w) : At T (NatOnX K T b xs) w := by
  have hh := h
  obtain ⟨v, hb, ho, hne, rfl⟩ := h
  refine ⟨hh, fun g hg => ?_, fun w' hk => ⟨v, (hk b (by simp)).trans hb, own_stays ho fun g hg => hk g (by simp [hg]), hne, rfl⟩⟩
  rcases List.mem_cons.1 hg with rfl | hg
  · exact (Array.getElem?_eq_some_iff.1 hb).1
  · exact (own_lt ho (by simpa using hg)).2
theorem NatX.on {K : NatK} {B b : Nat} {xs : List Int} {w : World} (h : NatX K B b xs w) : ∃ T, NatOnX K T b xs w ∧ ∀ g ∈ T, B ≤ g := by
  obtain ⟨hB, v, hb, ho, hne⟩ := h
  refine ⟨_, ⟨v, hb, own_zero ho, hne, rfl⟩, fun g hg => ?_⟩
  rcases List.mem_cons.1 hg with rfl | hg
  · exact hB
  · exact (own_lt ho (by simpa using hg)).1
theorem own_raise {w : World} {base n : Nat} {e : TypeId} {v : Value} {xs : List Value} (h : w.ownsRow 0 e 1 v n xs) (hb : ∀ g, v.ownBlock = some g → base ≤ g) : w.ownsRow base e 1 v n xs := by
  obtain ⟨hl, h | ⟨g, cap, cur, rfl, _, r⟩⟩ := h
  · exact ⟨hl, .inl h⟩
  · exact ⟨hl, .inr ⟨g, cap, cur, rfl, hb g rfl, r⟩⟩
theorem NatOnX.natAt {K : NatK} {T : List Nat} {B b : Nat} {xs : List Int} {w : World} (h : NatOnX K T b xs w) (hT : ∀ g ∈ T, B ≤ g) : NatX K B b xs w := by
  obtain ⟨v, hb, ho, hne, rfl⟩ := h
  exact ⟨hT b (by simp), v, hb, own_raise ho fun g hg => hT g (by simp [hg]), hne⟩
theorem KeptX.left {K : NatK} {T : List Nat} {B b : Nat} {xs : List Int} {w w' : World} (h : KeptX K T b xs w w') (hB : B ≤ w.heap.size) (hT : ∀ g ∈ T, B ≤ g) : LeftX K B b xs w w' :=
  ⟨h.1.natAt hT, below_chg (Below.refl _ _) h.2 hB hT⟩
theorem KeptX.trans {K : NatK} {T : List Nat} {b : Nat} {xs ys : List Int} {w w1 w2 : World} (h : KeptX K T b xs w w1) (k : KeptX K T b ys w1 w2) : KeptX K T b ys w w2 := ⟨k.1, h.2.trans k.2⟩
theorem NatX.size {K : NatK} {B b : Nat} {xs : List Int} {w : World} (h : NatX K B b xs w) : B ≤ w.heap.size := by
  have := h.lt
  have := h.1
  omega
theorem NatOnX.put {K : NatK} {T : List Nat} {b : Nat} {v v' : Value} {ys : List Int} {w : World} (hb : w.heap[b]? = some (.cells (v :: K.rest).toArray K.ty (0, 0))) (hown : w.ownsRow 0 3 1 v' ys.length (intsV ys)) (hT : T = b :: v'.ownBlock.toList) :
    NatOnX K T b ys (w.setCell ⟨b, 0, none⟩ v') := by
  obtain ⟨_, u, h1, h2, h3⟩ := NatX.put (Nat.zero_le b) hb hown
  have e : u = v' := by
    have : (w.setCell ⟨b, 0, none⟩ v').heap[b]? = some (.cells (v' :: K.rest).toArray K.ty (0, 0)) := by simp [World.setCell, Array.getElem?_modify, hb]
    rw [this] at h1
    simpa using h1.symm
  subst e
  exact ⟨_, h1, h2, h3, hT⟩
/-- a store into the limbs -/
theorem NatOnX.stored {K : NatK} {b g cap : Nat} {xs : List Int} {w : World} (hb : w.heap[b]? = some (.cells (.slice (some ⟨g, 0, none⟩) xs.length cap :: K.rest).toArray K.ty (0, 0)))
    (hown : w.ownsRow 0 3 1 (.slice (some ⟨g, 0, none⟩) xs.length cap) xs.length (intsV xs)) (hne : (Value.slice (some ⟨g, 0, none⟩) xs.length cap).ownBlock ≠ some b) (p : Nat) (d : Int) :
    KeptX K [b, g] b (xs.set p d) w (w.setCell ⟨g, p, none⟩ (.int .i64 d)) ∧ (w.setCell ⟨g, p, none⟩ (.int .i64 d)).heap[b]? = some (.cells (.slice (some ⟨g, 0, none⟩) xs.length cap :: K.rest).toArray K.ty (0, 0)) ∧
      (w.setCell ⟨g, p, none⟩ (.int .i64 d)).ownsRow 0 3 1 (.slice (some ⟨g, 0, none⟩) (xs.set p d).length cap) (xs.set p d).length (intsV (xs.set p d)) := by
  have hgb : b ≠ g := fun e => hne (by simp [Value.ownBlock, e])
  obtain ⟨ho, hg⟩ := hown.stored p (.int .i64 d)
  have hb2 : (w.setCell ⟨g, p, none⟩ (.int .i64 d)).heap[b]? = some (.cells (.slice (some ⟨g, 0, none⟩) xs.length cap :: K.rest).toArray K.ty (0, 0)) := (Below.heap_setCell _ _ _ _ hgb).trans hb
  have hl : (xs.set p d).length = xs.length := List.length_set
  rw [intsV_set] at ho
  exact ⟨⟨⟨_, hb2, by rw [hl]; exact ho, hne, rfl⟩, (Chg.refl _ _).setCell (p := ⟨g, p, none⟩) (by simp) _⟩, hb2, by rw [hl]; exact ho⟩

set_option maxHeartbeats 1000000 in
set_option maxRecDepth 100000 in
theorem takeAt_on {K : NatK} (T : List Nat) (b : Nat) (xs : List Int) (p : Nat) (v : Int) (w : World) (hl : xs.length ≤ 1048576) (hp : p < xs.length) (hv0 : 0 ≤ v) (hv1 : v ≤ 1000000000000000000) (hd : DigN xs) (h : NatOnX K T b xs w) :
    Calls Tryz.prog 157 #[.pointer (some ⟨b, 0, none⟩), .int .i64 p, .int .i64 v] w fun e w' => e = .returned (.int .i64 (takeAtC xs p v)) ∧ KeptX K T b (takeAtL xs p v) w w' := by
  have hdg := hd.at_ p hp
  have hg : xs.getD p 0 = xs[p] := by rw [List.getD_eq_getElem?_getD, List.getElem?_eq_getElem hp]; rfl
  have HL := Lib.hid (show takeAtL xs p v = xs.set p ((xs[p] - v) % 1000000000) by rw [← hg]; rfl)
  have HC := Lib.hid (show takeAtC xs p v = -((xs[p] - v) / 1000000000) by rw [← hg]; rfl)
  clear hg hd
  obtain ⟨u, hbk, hown, hne, hT⟩ := h
  obtain ⟨g, cap, rfl, hg1, hg2, hg3⟩ := own_form hown (by omega)
  have hT2 : T = [b, g] := hT
  subst hT2
  have c1 : w.cell? ⟨b, 0, none⟩ = some (.slice (some ⟨g, 0, none⟩) xs.length cap) := NatX.cell hbk
  have hcell := hown.cellAt p (by omega)
  rw [intsV_at _ p hp] at hcell
  have hfr := hown.frozenAt p
  have hgb : ¬ b = g := fun e => hne (by simp [Value.ownBlock, e])
  obtain ⟨hs1, hk1, ho1⟩ := NatOnX.stored hbk hown hne p (xs[p] - v % 1000000000)
  have HS1 := Lib.hid hs1
  have hl1 : (xs.set p (xs[p] - v % 1000000000)).length = xs.length := List.length_set
  have HS2 := Lib.hid (NatOnX.stored (xs := xs.set p (xs[p] - v % 1000000000)) (by rw [hl1]; exact hk1) ho1 (by rw [hl1]; exact hne) p (xs[p] - v % 1000000000 + 1000000000))
  rw [List.set_set] at HS2
  clear hown hbk hne hs1 hk1 ho1 hl1 hT
  generalize xs[p] = dg at hcell hdg HS1 HS2 HC HL
  have hdg0 := hdg.1
  have hdg1 := hdg.2
  clear hdg
  by_cases hc : v % 1000000000 ≤ dg
  · have HC2 := Lib.hid (show takeAtC xs p v = v / 1000000000 by rw [HC.out]; omega)
    have HL2 := Lib.hid (show takeAtL xs p v = xs.set p (dg - v % 1000000000) by rw [HL.out]; congr 1; omega)
    clear HC HL
    go_enter Tryz.func157, Tryz.ntmps157
    go_wp2
    go_ret
    exact ⟨ret_int HC2.out.symm, by rw [HL2.out]; exact HS1.out⟩
  · have HC2 := Lib.hid (show takeAtC xs p v = v / 1000000000 + 1 by rw [HC.out]; omega)
    have HL2 := Lib.hid (show takeAtL xs p v = xs.set p (dg - v % 1000000000 + 1000000000) by rw [HL.out]; congr 1; omega)
    clear HC HL
    go_enter Tryz.func157, Tryz.ntmps157
    go_wp2
    go_ret
    exact ⟨ret_int HC2.out.symm, by rw [HL2.out]; exact HS1.out.trans HS2.out.1⟩

set_option maxHeartbeats 1000000 in
set_option maxRecDepth 100000 in
theorem natTrim_on {K : NatK} (T : List Nat) (b : Nat) (xs : List Int) (w : World) (hl : xs.length ≤ 1048576) (h : NatOnX K T b xs w) :
    Calls Tryz.prog 106 #[.pointer (some ⟨b, 0, none⟩)] w fun e w' => e = .returned (.tuple #[]) ∧ KeptX K T b (trimL xs) w w' := by
  have hTm := h.mem
  have HT0 := Lib.hid hTm
  clear hTm
  obtain ⟨v, hbk, hown, hne, hT⟩ := h
  obtain ⟨A, c, e1, hA⟩ := Row.of_own hown
  rw [intsV_length] at e1
  subst e1
  have c1 : w.cell? ⟨b, 0, none⟩ = some (.slice A xs.length c) := NatX.cell hbk
  have f1 : w.frozen? ⟨b, 0, none⟩ = false := Lib.frozen_of_heap hbk 0
  have hcap : xs.length ≤ c := by
    rcases hown.2 with ⟨h1, h2⟩ | ⟨g, cap, cur, e1, _, _, hn, _⟩
    · omega
    · injection e1 with _ _ e3; omega
  have HA := Lib.hid hA
  have HB := Lib.hid hbk
  have HO := Lib.hid hown
  have HTT : Hid (∀ k, T = b :: (Value.slice A k c).ownBlock.toList) := Lib.hid (by intro k; rw [hT]; cases A <;> rfl)
  clear hA hbk hown hne hT
  go_enter Tryz.func106, Tryz.ntmps106
  go_wp2
  go_loop [2] (fun n => ∃ k : Nat, k ≤ xs.length ∧ n = .int .i64 ((k : Int) - 1) ∧ Hid (∀ j (h : j < xs.length), k ≤ j → xs[j] = 0)) (fun n => (intOf n + 1).toNat)
  case atStart => exact ⟨xs.length, Nat.le_refl _, rfl, Lib.hid (fun j h hj => absurd h (by omega))⟩
  case round =>
    obtain ⟨k, hk, rfl, HZ⟩ := hrel
    by_cases h0 : 0 < k
    · obtain ⟨m, rfl⟩ : ∃ m, k = m + 1 := ⟨k - 1, by omega⟩
      have hlt : m < xs.length := by omega
      obtain ⟨a, rfl, _, _, hca⟩ := HA.out m _ (intsV_at xs m hlt)
      have hm1 : ((m + 1 : Nat) : Int) - 1 = (m : Int) := by omega
      rw [hm1]
      clear hm1 h0
      by_cases hz : xs[m] = 0
      · have hzb : (xs[m] == 0) = true := by rw [beq_iff_eq]; exact hz
        have HN : Hid (∀ j (h : j < xs.length), m ≤ j → xs[j] = 0) := Lib.hid (fun j h hj => by
          by_cases e : j = m
          · subst e; exact hz
          · exact HZ.out j h (by omega))
        clear hz
        go_wp2
        go_round
        case rel => exact ⟨m, by omega, rfl, HN⟩
        case measure => simp [intOf]
      · have hzb : (xs[m] == 0) = false := by rw [beq_eq_false_iff_ne]; exact hz
        have HT := Lib.hid (trim_prefix xs (m + 1) hk HZ.out (fun _ _ => hz))
        have HP := Lib.hid (NatOnX.put (ys := xs.take (m + 1)) (v' := .slice (some a) (m + 1) c) HB.out (by
          rw [← intsV_take, List.length_take, show min (m + 1) xs.length = m + 1 from by omega]
          exact own_take (m + 1) hk HO.out) (HTT.out _))
        clear hz
        go_wp2
        go_end0
        exact ⟨rfl, by rw [HT.out]; exact ⟨HP.out, (Chg.refl _ _).setCell (p := ⟨b, 0, none⟩) HT0.out _⟩⟩
    · obtain rfl : k = 0 := by omega
      have HT := Lib.hid (trim_prefix xs 0 hk HZ.out (fun _ h => absurd h (by omega)))
      have HP := Lib.hid (NatOnX.put (ys := xs.take 0) (v' := .slice A 0 c) HB.out (by
          rw [← intsV_take, List.length_take, Nat.zero_min]
          exact own_take 0 hk HO.out) (HTT.out _))
      go_wp2
      go_end0
      exact ⟨rfl, by rw [HT.out]; exact ⟨HP.out, (Chg.refl _ _).setCell (p := ⟨b, 0, none⟩) HT0.out _⟩⟩
theorem natTrim_any {K : NatK} (B b : Nat) (xs : List Int) (w : World) (hl : xs.length ≤ 1048576) (h : NatX K B b xs w) :
    Calls Tryz.prog 106 #[.pointer (some ⟨b, 0, none⟩)] w fun e w' => e = .returned (.tuple #[]) ∧ LeftX K B b (trimL xs) w w' := by
  obtain ⟨T, hT, hB⟩ := h.on
  refine (natTrim_on T b xs w hl hT).mono ?_
  rintro e w' ⟨rfl, hk⟩
  exact ⟨rfl, hk.left h.size hB⟩
end Go.Proofs.YtcenmdiblbooeaaGreatDoor
