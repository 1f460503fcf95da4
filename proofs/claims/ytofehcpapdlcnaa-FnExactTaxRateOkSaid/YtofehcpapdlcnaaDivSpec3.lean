/-
  What NatDiv, NatGcd, NatTen, NatScale, NatCut and NatEven of package spec return.
-/
import Derived.Test.YtofehcpapdlcnaaDivSpec2
import Derived.Deep.LoopGhost
namespace Go.Proofs.Ytofehcpapdlcnaa
open Go.RowKit

/-- a nil slice of the call's own, or an argument, has no capacity -/
def NoCap (v : Value) : Prop := ∀ n c, v = .slice none n c → c = 0
theorem own_noCap {w : World} {base n : Nat} {e : TypeId} {v : Value} {xs : List Value} (h : w.ownsRow base e 1 v n xs) : NoCap v := by
  intro m c e1
  rcases h.2 with ⟨rfl, _⟩ | ⟨g, cap, cur, rfl, _⟩
  · injection e1 with _ _ e3
    exact e3.symm
  · cases e1
/-- append of a slice that reads as a list, nil let in -/
theorem append_row {P : Program} {w : World} {ops : Array Oper} {rest : List Oper} {o : Oper} {a : Act} {Q : Exit → Act → World → Prop} (hgd : o.guard = none) (s x : Operand) (t : TypeId)
    (ho : o.op = .call { callee := .builtin .append, args := #[s, x], argTypes := #[t, t] }) (base : Nat) (e : TypeId) (i : TypeInfo) (z : Value) (bytes : Nat) (ht : P.underlying t = some (.slice e)) (hi : P.info? e = some i)
    (hz : i.zero = some z) (hsize : i.size = 1) (hby : i.bytes = bytes) (hzs : z.cells.size = 1) (v : Value) (n : Nat) (xs : List Value) (hs : a.eval s = v) (hown : w.ownsRow base e 1 v n xs)
    (vx : Value) (lo hi' : Nat) (news : List Value) (hx : a.eval x = vx) (hr : Row w lo hi' vx news) (hnc : NoCap vx) (h1 : ∀ u ∈ news, u.oneCell' = true) (h63 : n + news.length ≤ maxLen) (hbytes : (n + news.length) * bytes ≤ 140737488355328) (hbase : base ≤ w.heap.size)
    (h : ∀ v' w', w'.ownsRow base e 1 v' (n + news.length) (xs ++ news) → w.grownBy w' v.ownBlock → wpList P ops Q rest (a.put o.dst v') w') : wpList P ops Q (o :: rest) a w := by
  obtain ⟨A, c, rfl, hA⟩ := hr
  cases A with
  | none =>
    obtain rfl : news = [] := by
      cases news with
      | nil => rfl
      | cons y r => obtain ⟨_, e, _⟩ := hA 0 y rfl; cases e
    obtain rfl : c = 0 := hnc _ _ rfl
    exact wpList_append_own_none hgd s x t ho base e i 1 ht hi v n xs hs hown hx (h v w (by simpa using hown) (World.grownBy.refl _ _))
  | some ad =>
    refine wpList_append_own _ hgd s x t ho base e i z 1 bytes ht hi hz hsize hby hzs (by omega) v n xs hs hown ad news.length c news hx (by omega) (fun j u hu => ?_) h1 h63 hbytes hbase ?_
    · obtain ⟨p, e, _, _, hc⟩ := hA j u hu
      cases e
      exact hc
    · intro v' w' h2 h3 _
      exact h v' w' h2 h3


/-- what NatDiv answers -/
def divN (a b : List Int) : List Int × List Int := if natOkB a = true ∧ natOkB b = true ∧ 0 < b.length then (limbs (nval a / nval b).toNat, limbs (nval a % nval b).toNat) else ([], [])
theorem two_nil {w w' : World} (hb : Below w.heap.size w w') : TwoRows [] [] w (.returned (.tuple #[.slice none 0 0, .slice none 0 0])) w' := ⟨_, _, rfl, nil_own, nil_own, (fun x y hx _ => by cases hx), hb⟩

end Go.Proofs.Ytofehcpapdlcnaa
