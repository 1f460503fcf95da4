/-
  The words that kind R, impl.Rat, answers to: to, eq, sz, mark, held.
-/
import Derived.Test.YtipbdpdmefcofaaDoorRat
import Derived.Test.YtipbdpdmefcofaaDoorLoc0
namespace Go.Proofs.YtipbdpdmefcofaaDoor
open Go.RowKit

/-! ### kind R: impl.Rat -/
def capQ (x : QI) : Prop := x.1.2.length ≤ 9223372036854775807 ∧ x.2.length ≤ 9223372036854775807
theorem szQ_nonneg (x : QI) : 0 ≤ szQ x := by unfold szQ szS szI; omega
theorem szQ_len {x : QI} (h : szQ x ≤ 1048576) : x.1.2.length ≤ 1048576 ∧ x.2.length ≤ 1048576 := by unfold szQ szS szI at h; omega
theorem capQ_of {x : QI} (h : szQ x ≤ 1048576) : capQ x := by have := szQ_len h; unfold capQ; omega
theorem ownQ_form {v : Value} {x : QI} {w : World} (h : OwnQ v x w) : ∃ A c B d, v = .agg #[.bool x.1.1, .slice A x.1.2.length c, .slice B x.2.length d] := by
  obtain ⟨u, d, rfl, o, p, _⟩ := h
  obtain ⟨A, c, rfl⟩ := own_len o
  obtain ⟨B, d, rfl⟩ := own_len p
  exact ⟨A, c, B, d, rfl⟩
theorem rdQ_form {v : Value} {x : QI} {w : World} (h : RdQ w v x) : ∃ A c B d, v = .agg #[.bool x.1.1, .slice A x.1.2.length c, .slice B x.2.length d] := by
  obtain ⟨u, d, rfl, o, p⟩ := h
  obtain ⟨A, c, rfl⟩ := row_form o
  obtain ⟨B, d, rfl⟩ := row_form p
  rw [intsV_length, intsV_length]
  exact ⟨A, c, B, d, rfl⟩
theorem partsQ_at {u d : Value} {x : QI} {B C : Nat} {w : World} (ou : w.ownsRow B 3 1 u x.1.2.length (intsV x.1.2)) (od : w.ownsRow C 3 1 d x.2.length (intsV x.2)) (hap : ∀ g, u.ownBlock = some g → d.ownBlock ≠ some g) :
    At (partsB u d) (OwnQ (.agg #[.bool x.1.1, u, d]) x) w := (At.both (own_at' ou) (own_at' od)).imp fun _ h => ⟨u, d, rfl, h.1, h.2, hap⟩
theorem NewQ.newV {x : QI} {w w' : World} {e : Ending} (h : NewQ x w e w') : NewV (fun v => OwnQ v x) w e w' := by
  obtain ⟨u, d, rfl, o, p, hap, b⟩ := h
  exact ⟨_, partsB u d, rfl, partsQ_at o p hap, fun g hg => by
    rcases List.mem_append.1 hg with hg | hg
    · exact own_within o g hg
    · exact own_within p g hg, b⟩
theorem eqQ_cal (u v : Value) (x y : QI) (w : World) (hz : capQ x) (hu : RdQ w u x) (hv : RdQ w v y) : Calls Tryd.prog 9 #[u, v] w (Postb (decide (x = y)) w) :=
  eqRat_at u v x y w hz.1 hz.2 hu hv
theorem ownQ_open {u d : Value} {c : Value} {x : QI} {w : World} (h : OwnQ (.agg #[c, u, d]) x w) : c = .bool x.1.1 ∧ OwnI u x.1.2 w ∧ OwnI d x.2 w ∧ (∀ g, u.ownBlock = some g → d.ownBlock ≠ some g) := by
  obtain ⟨u', d', e, hu, hd, hap⟩ := h
  injection e with e
  simp at e
  obtain ⟨e1, e2, e3⟩ := e
  subst e1 e2 e3
  exact ⟨rfl, hu, hd, hap⟩
theorem markQ_cal (v : Value) (x : QI) (S : List Nat) (m : Int) (w : World) (hm : m + szQ x ≤ 9223372036854775807) (hm0 : 0 ≤ m) (h : At S (OwnQ v x) w) :
    Calls Tryd.prog 14 #[v, .int .i64 m] w fun e w' => e = .returned (.int .i64 (m + szQ x)) ∧ At S (MarkQ v x m) w' ∧ Chg S w w' := by
  obtain ⟨u, d, rfl, ou, od, hap⟩ := h.here
  have hs : ∀ g ∈ partsB u d, g ∈ S := fun g hg => by
    rcases List.mem_append.1 hg with hg | hg
    · exact toList_own (at_ints_mem h fun w' k => (ownQ_open k).2.1) g hg
    · exact toList_own (at_ints_mem h fun w' k => (ownQ_open k).2.2.1) g hg
  refine (markRat_at u d x m w hm hm0 ou od hap).mono fun e w' k => ?_
  obtain ⟨e1, k1, k2⟩ := k
  have hc := k2.more hs
  exact ⟨e1, k1.more hs (fun g hg => Nat.lt_of_lt_of_le (h.lt g hg) hc.size), hc⟩
theorem heldQ_cal (v : Value) (x : QI) (m : Int) (w : World) (hm : m + szQ x ≤ 9223372036854775807) (hm0 : 0 ≤ m) (h : MarkQ v x m w) : Calls Tryd.prog 15 #[v, .int .i64 m] w (Postn (m + szQ x) w) :=
  heldRat_at v x m w hm hm0 h

/-! ### what calls answer: a new fraction or signed number, and scalars with it -/
def PostQb (R0 : QI) (R1 : Bool) (w : World) (e : Ending) (w' : World) : Prop :=
  ∃ (v : Value) (S : List Nat), e = .returned (.tuple #[v, .bool R1]) ∧ At S (OwnQ v R0) w' ∧ Within S w.heap.size w'.heap.size ∧ Below w.heap.size w w'
end Go.Proofs.YtipbdpdmefcofaaDoor
