/-
  What l03Div and NatDiv of package spec return.
-/
import Derived.Test.YtofehcpapdlcnaaDivSpec
import Derived.Laws.AppendOwnNone
namespace Go.Proofs.Ytofehcpapdlcnaa
open Go.RowKit

/-- append of a row of the call's own, nil let in -/
theorem append_owned {P : Program} {w : World} {ops : Array Oper} {rest : List Oper} {o : Oper} {a : Act} {Q : Exit → Act → World → Prop} (hgd : o.guard = none) (s x : Operand) (t : TypeId)
    (ho : o.op = .call { callee := .builtin .append, args := #[s, x], argTypes := #[t, t] }) (base : Nat) (e : TypeId) (i : TypeInfo) (z : Value) (bytes : Nat) (ht : P.underlying t = some (.slice e)) (hi : P.info? e = some i)
    (hz : i.zero = some z) (hsize : i.size = 1) (hby : i.bytes = bytes) (hzs : z.cells.size = 1) (v : Value) (n : Nat) (xs : List Value) (hs : a.eval s = v) (hown : w.ownsRow base e 1 v n xs)
    (vx : Value) (m base2 : Nat) (e2 : TypeId) (news : List Value) (hx : a.eval x = vx) (hsrc : w.ownsRow base2 e2 1 vx m news) (h1 : ∀ u ∈ news, u.oneCell' = true) (h63 : n + m ≤ maxLen) (hbytes : (n + m) * bytes ≤ 140737488355328) (hbase : base ≤ w.heap.size)
    (h : ∀ v' w', w'.ownsRow base e 1 v' (n + m) (xs ++ news) → w.grownBy w' v.ownBlock → wpList P ops Q rest (a.put o.dst v') w') : wpList P ops Q (o :: rest) a w := by
  have hm : news.length = m := by have := hsrc.1; omega
  rcases hsrc.2 with ⟨rfl, rfl⟩ | ⟨g, cap, cur, rfl, _⟩
  · obtain rfl : news = [] := List.eq_nil_of_length_eq_zero hm
    exact wpList_append_own_none hgd s x t ho base e i 1 ht hi v n xs hs hown hx (h v w (by simpa using hown) (World.grownBy.refl _ _))
  · refine wpList_append_own _ hgd s x t ho base e i z 1 bytes ht hi hz hsize hby hzs (by omega) v n xs hs hown ⟨g, 0, none⟩ m cap news hx (by omega) (fun j u hu => hsrc.cells (g := g) rfl j u hu) h1 h63 hbytes hbase ?_
    intro v' w' h2 h3 _
    exact h v' w' h2 h3

/-- two new rows apart from each other -/
def TwoRows (xs ys : List Int) (w : World) (e : Ending) (w' : World) : Prop :=
  ∃ v1 v2, e = .returned (.tuple #[v1, v2]) ∧ w'.ownsRow w.heap.size 3 1 v1 xs.length (intsV xs) ∧ w'.ownsRow w.heap.size 3 1 v2 ys.length (intsV ys) ∧
    (∀ x y, v1.ownBlock = some x → v2.ownBlock = some y → x ≠ y) ∧ Below w.heap.size w w'

theorem limbs_mono {m n : Int} (h0 : 0 ≤ m) (h : m ≤ n) : (limbs m.toNat).length ≤ (limbs n.toNat).length := by
  rcases Nat.lt_or_ge (limbs n.toNat).length (limbs m.toNat).length with hl | hl
  · have := nval_short (limbs n.toNat) (limbs m.toNat) (limbs_digN _) (limbs_digN _) hl (limbs_lastN _)
    rw [limbs_toNat m h0, limbs_toNat n (by omega)] at this
    omega
  · exact hl
theorem own_base {w : World} {base base' n : Nat} {e : TypeId} {v : Value} {xs : List Value} (h : w.ownsRow base e 1 v n xs) (hb : base' ≤ base) : w.ownsRow base' e 1 v n xs := by
  obtain ⟨hl, h | ⟨g, cap, cur, rfl, hg, r⟩⟩ := h
  · exact ⟨hl, .inl h⟩
  · exact ⟨hl, .inr ⟨g, cap, cur, rfl, by omega, r⟩⟩
/-- limb k of a division brought down -/
theorem down_limb {x R : Int} (hx0 : 0 ≤ x) (hx1 : x ≤ 999999999) (hR : 0 ≤ R) : trimL (x :: limbs R.toNat) = limbs (R * 1000000000 + x).toNat := by
  have hd : DigN (x :: limbs R.toNat) := DigN.cons hx0 hx1 (limbs_digN _)
  rw [trim_limbs _ hd]
  congr 2
  show x + 1000000000 * nval (limbs R.toNat) = _
  rw [limbs_toNat R hR]
  omega
/-- the state of the loop: the quotient so far, and the rest -/
def DivS (w : World) (a : List Int) (D : Int) (k : Nat) (v : Value) (wr : World) : Prop :=
  ∃ (R : Int) (qs : List Int), DivR a D k R qs ∧ wr.ownsRow w.heap.size 3 1 (.slice (some ⟨w.heap.size, 0, none⟩) a.length a.length) a.length (intsV (List.replicate k 0 ++ qs)) ∧
    wr.ownsRow (w.heap.size + 1) 3 1 v (limbs R.toNat).length (intsV (limbs R.toNat)) ∧ Below w.heap.size w wr

end Go.Proofs.Ytofehcpapdlcnaa
