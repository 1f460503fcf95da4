/-
  Chapter 13 of package spec: words of FairShare
-/
import Derived.Test.YtipbdpdmefcofaaDoorShareW
import Derived.Test.YtipbdpdmefcofaaDoorSharePlain
import Derived.Test.YtipbdpdmefcofaaDoorRatLow
import Derived.Test.YtipbdpdmefcofaaDoorRatPlain2
namespace Go.Proofs.YtipbdpdmefcofaaDoor
open Go.RowKit

/-- the words in which FairShare's answers are said -/
theorem newQb_chgS {R0 : QI} {R1 : Bool} {S T : List Nat} {v : Value} {w W : World} (o : At S (OwnQ v R0) W) (hd : ∀ i ∈ S, i ∉ T) (hT : ∀ i ∈ T, w.heap.size ≤ i) (l : ∀ i ∈ S, w.heap.size ≤ i) (hW : Below w.heap.size w W) :
    ∀ W', Chg T W W' → PostQb R0 R1 w (.returned (.tuple #[v, .bool R1])) W' :=
  fun _ hc => ⟨v, S, rfl, o.chg hc hd, fun i hi => ⟨l i hi, Nat.lt_of_lt_of_le (o.lt i hi) hc.size⟩, below_chg hW hc hW.size hT⟩
theorem newQb_zeroS {T : List Nat} {w W : World} (hT : ∀ i ∈ T, w.heap.size ≤ i) (hW : Below w.heap.size w W) : ∀ W', Chg T W W' → PostQb zeroQ false w (.returned (.tuple #[.agg #[.bool false, .slice none 0 0, .slice none 0 0], .bool false])) W' :=
  newQb_chgS (S := []) ⟨ownQ_zero _, fun _ hg => absurd hg List.not_mem_nil, fun w' _ => ownQ_zero w'⟩ (fun _ hg => absurd hg List.not_mem_nil) hT (fun _ hg => absurd hg List.not_mem_nil) hW
theorem postQb_isS {q : QI × Bool} {X : QI} {b : Bool} (e : q = (X, b)) {w w' : World} {n : Ending} (h : PostQb q.1 q.2 w n w') : PostQb X b w n w' := by rw [e] at h; exact h
theorem same_below {e : Ending} {w w' : World} {v : Value} (h : e = .returned v ∧ w = w') : e = .returned v ∧ Below w.heap.size w w' := by obtain ⟨h1, rfl⟩ := h; exact ⟨h1, Below.refl _ _⟩
theorem ofZ_szF (z : Int) : szS (ofZ z) ≤ 1048576 := by have := ofZ_len z; unfold szS szI; omega
theorem natW_len2 {w : List Int} (h : PartsW w) : (limbs (natW w).sum).length ≤ 2 := limbs_length_le _ 2 (by have := h.sum; have e : bp 2 = 1000000000000000000 := rfl; omega)
theorem fair_yes {x : SI} {ws : List Int} {k : Nat} (hw : okW ws = true) (hk : k < ws.length) (hx : okS x = true) : fairR x ws (k : Int) = lowQ x.1 ((nval x.2).toNat * (natW ws)[k]!) (natW ws).sum := by
  unfold fairR
  rw [if_pos ⟨hw, ⟨by omega, by omega⟩, hx⟩, Int.toNat_natCast]
theorem fair_no {x : SI} {ws : List Int} {i : Int} (h : ¬ (okW ws = true ∧ (0 ≤ i ∧ i < ws.length) ∧ okS x = true)) : fairR x ws i = (zeroQ, false) := by unfold fairR; rw [if_neg h]
theorem newV_ints {n m : Nat} {w w' : World} {e : Ending} (h : NewInts (limbs n) w e w') (hn : n = m) : NewV (fun v => OwnI v (limbs m)) w e w' := by subst hn; exact h.newV
theorem newV_limbs {n m : Nat} {w w' : World} {e : Ending} (h : NewInts (limbs n) w e w') (hn : n = m) : NewV (fun v => OwnI v (limbs m)) w e w' := by subst hn; exact h.newV
end Go.Proofs.YtipbdpdmefcofaaDoor
