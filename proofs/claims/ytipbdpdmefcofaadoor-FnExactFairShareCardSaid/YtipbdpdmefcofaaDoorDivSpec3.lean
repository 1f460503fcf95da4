/-
  What NatDiv, NatGcd, NatTen, NatScale, NatCut and NatEven of package spec return.
-/
import Derived.Test.YtipbdpdmefcofaaDoorDivSpec2
import Derived.Deep.LoopGhost
namespace Go.Proofs.YtipbdpdmefcofaaDoor
open Go.RowKit

/-- a nil slice of the call's own, or an argument, has no capacity -/
def NoCap (v : Value) : Prop := ∀ n c, v = .slice none n c → c = 0
theorem own_noCap {w : World} {base n : Nat} {e : TypeId} {v : Value} {xs : List Value} (h : w.ownsRow base e 1 v n xs) : NoCap v := by
  intro m c e1
  rcases h.2 with ⟨rfl, _⟩ | ⟨g, cap, cur, rfl, _⟩
  · injection e1 with _ _ e3
    exact e3.symm
  · cases e1
/-- append of a slice that reads as a list, nil let in -/
theorem append_row {P : Program} {w : World} {ops : Array Oper} {rest : List Oper} {o : Oper} {a : Act} {Q : Exit → Act → World → Prop} (hgd : o.guard = none) (s x : Operand) (t : TypeId)
    (ho : o.op = .call { callee := .builtin .append, args := #[s, x], argTypes := #[t, t] }) (base : Nat) (e : TypeId) (i : TypeInfo) (z : Value) (bytes : Nat) (ht : P.underlying t = some (.slice e)) (hi : P.info? e = some i)
    (hz : i.zero = some z) (hsize : i.size = 1) (hby : i.bytes = bytes) (hzs : z.cells.size = 1) (v : Value) (n : Nat) (xs : List Value) (hs : a.eval s = v) (hown : w.ownsRow base e 1 v n xs)
    (vx : Value) (lo hi' : Nat) (news : List Value) (hx : a.eval x = vx) (hr : Row w lo hi' vx news) (hnc : NoCap vx) (h1 : ∀ u ∈ news, u.oneCell' = true) (h63 : n + news.length ≤ maxLen) (hbytes : (n + news.length) * bytes ≤ 140737488355328) (hbase : base ≤ w.heap.size)
    (h : ∀ v' w', w'.ownsRow base e 1 v' (n + news.length) (xs ++ news) → w.grownBy w' v.ownBlock → wpList P ops Q rest (a.put o.dst v') w') : wpList P ops Q (o :: rest) a w := by
  obtain ⟨A, c, rfl, hA⟩ := hr
  cases A with
  | none =>
    obtain rfl : news = [] := by
      cases news with
      | nil => rfl
      | cons y r => obtain ⟨_, e, _⟩ := hA 0 y rfl; cases e
    obtain rfl : c = 0 := hnc _ _ rfl
    exact wpList_append_own_none hgd s x t ho base e i 1 ht hi v n xs hs hown hx (h v w (by simpa using hown) (World.grownBy.refl _ _))
  | some ad =>
    refine wpList_append_own _ hgd s x t ho base e i z 1 bytes ht hi hz hsize hby hzs (by omega) v n xs hs hown ad news.length c news hx (by omega) (fun j u hu => ?_) h1 h63 hbytes hbase ?_
    · obtain ⟨p, e, _, _, hc⟩ := hA j u hu
      cases e
      exact hc
    · intro v' w' h2 h3 _
      exact h v' w' h2 h3

set_option maxHeartbeats 400000 in
set_option maxRecDepth 100000 in
theorem specDivOne_any (va vb : Value) (a : List Int) (d : Int) (la ha lb hb_ : Nat) (w : World) (hal : a.length ≤ 1048576) (hha : ha ≤ w.heap.size) (oa : DigN a) (hd0 : 0 < d) (hd1 : d ≤ 999999999)
    (hra : Row w la ha va (intsV a)) (hrb : Row w lb hb_ vb (intsV [d])) :
    Calls Tryd.prog 37 #[va, vb] w (TwoRows (limbs (nval a / d).toNat) (limbs (nval a % d).toNat) w) := by
  obtain ⟨B, c, rfl, hB⟩ := hrb
  obtain ⟨p, rfl, _, _, hcb⟩ := hB 0 _ rfl
  have hcb0 : w.cell? p = some (.int .i64 d) := hcb
  rw [intsV_length]
  have OA := Lib.hid oa
  have hm := Lib.hid (show 0 ≤ nval a % d ∧ nval a % d < d from ⟨Int.emod_nonneg _ (by omega), Int.emod_lt_of_pos _ hd0⟩)
  clear hB oa
  go_enter Tryd.func37, Tryd.ntmps37
  go_wp2_with fail
  refine (specSmall_any va a d la ha _ hal hha hd0 hd1 OA.out hra).mono ?_
  rintro e w1 ⟨v1, rfl, o1, b1⟩
  go_wp2_with fail
  refine (specNatOf_any _ _ (by have := hm.out; omega)).mono ?_
  rintro e w2 ⟨v2, rfl, o2, b2⟩
  go_wp2
  go_ret2
  exact ⟨v1, v2, rfl, own_below o1 b2, own_base o2 b1.size, (Lies.of o1).apart (Lies.of o2) (.inl (Nat.le_refl _)), Below.next b1 b2⟩

theorem one_of_len {b : List Int} (h : b.length = 1) : b = [b[0]] := by
  match b, h with
  | [x], _ => rfl
theorem specDiv_any (va vb : Value) (a b : List Int) (la ha lb hb_ : Nat) (w : World) (hal : a.length ≤ 50) (hbl : b.length ≤ 50) (hb0 : 0 < b.length) (hha : ha ≤ w.heap.size) (hhb : hb_ ≤ w.heap.size) (oa : DigN a) (ob : DigN b ∧ b.getLastD 1 ≠ 0)
    (hra : Row w la ha va (intsV a)) (hrb : Row w lb hb_ vb (intsV b)) :
    Calls Tryd.prog 37 #[va, vb] w (TwoRows (limbs (nval a / nval b).toNat) (limbs (nval a % nval b).toNat) w) := by
  by_cases h1 : b.length = 1
  · have hv : nval b = b[0] := by
      conv => lhs; rw [one_of_len h1]
      show b[0] + 1000000000 * 0 = _
      omega
    have hd := ob.1.at_ 0 hb0
    have hne : b[0] ≠ 0 := by
      have := ob.2
      rw [one_of_len h1] at this
      simpa using this
    rw [hv]
    exact specDivOne_any va vb a b[0] la ha lb hb_ w (by omega) hha oa (by omega) hd.2 hra (by rw [← one_of_len h1]; exact hrb)
  · exact specDivBig_any va vb a b la ha lb hb_ w hal hbl (by omega) hha hhb oa ob hra hrb

/-- what NatDiv answers -/
def divN (a b : List Int) : List Int × List Int := if natOkB a = true ∧ natOkB b = true ∧ 0 < b.length then (limbs (nval a / nval b).toNat, limbs (nval a % nval b).toNat) else ([], [])
theorem two_nil {w w' : World} (hb : Below w.heap.size w w') : TwoRows [] [] w (.returned (.tuple #[.slice none 0 0, .slice none 0 0])) w' := ⟨_, _, rfl, nil_own, nil_own, (fun x y hx _ => by cases hx), hb⟩

end Go.Proofs.YtipbdpdmefcofaaDoor
