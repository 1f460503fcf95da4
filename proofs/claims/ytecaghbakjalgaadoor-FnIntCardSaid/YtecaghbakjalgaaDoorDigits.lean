/-
  Plain facts on texts of decimal digits.
-/
import Derived.Test.YtecaghbakjalgaaDoorIsWalks
namespace Go.Proofs.YtecaghbakjalgaaDoor
open Go.RowKit

/-- the number that digits spell -/
def valL : List UInt8 → Int := List.foldl (fun a c => a * 10 + ((c.toNat : Int) - 48)) 0
theorem valL_snoc (l : List UInt8) (c : UInt8) : valL (l ++ [c]) = valL l * 10 + ((c.toNat : Int) - 48) := by
  unfold valL
  rw [List.foldl_append]
  rfl
/-- all are digits -/
def DigL (l : List UInt8) : Prop := ∀ c ∈ l, 48 ≤ c.toNat ∧ c.toNat ≤ 57
theorem fold_ge (l : List UInt8) : ∀ a : Int, DigL l → 0 ≤ a → a ≤ List.foldl (fun a c => a * 10 + ((c.toNat : Int) - 48)) a l := by
  induction l with
  | nil => intro a _ _; exact Int.le_refl _
  | cons c l ih =>
    intro a h h0
    have hc := h c (by simp)
    have h1 := ih (a * 10 + ((c.toNat : Int) - 48)) (fun x hx => h x (by simp [hx])) (by omega)
    rw [List.foldl_cons]
    omega
theorem valL_nonneg (l : List UInt8) (h : DigL l) : 0 ≤ valL l := fold_ge l 0 h (Int.le_refl _)
theorem valL_mono (l r : List UInt8) (h : DigL (l ++ r)) : valL l ≤ valL (l ++ r) := by
  have h0 := valL_nonneg l (fun x hx => h x (by simp [hx]))
  have h1 := fold_ge r (valL l) (fun x hx => h x (by simp [hx])) h0
  unfold valL at h1 ⊢
  rw [List.foldl_append]
  exact h1
theorem allFrom_dig (s : ByteArray) : allFrom s 48 57 48 57 0 = true ↔ DigL s.data.toList := by
  unfold allFrom DigL
  rw [List.drop_zero, List.all_eq_true]
  constructor
  · intro h c hc
    have := h c hc
    simp [inTwo] at this
    omega
  · intro h c hc
    have := h c hc
    simp [inTwo]
    omega
theorem digitsB_iff (s : ByteArray) : digitsB s = true ↔ DigL s.data.toList ∧ s.data.toList ≠ [] := by
  unfold digitsB
  rw [Bool.and_eq_true, allFrom_dig, decide_eq_true_eq]
  constructor
  · intro ⟨h1, h2⟩
    exact ⟨h1, fun e => by have : s.data.toList.length = s.size := rfl; rw [e] at this; simp at this; omega⟩
  · intro ⟨h1, h2⟩
    refine ⟨h1, ?_⟩
    have : s.data.toList.length = s.size := rfl
    have := List.length_pos_iff.2 h2
    omega

theorem take_val (s : ByteArray) (k : Nat) (h : k < s.size) : valL (s.data.toList.take (k + 1)) = valL (s.data.toList.take k) * 10 + ((s[k].toNat : Int) - 48) := by
  rw [List.take_succ_eq_append_getElem (by simpa using h), valL_snoc]
  rfl
theorem dig_at (s : ByteArray) (k : Nat) (h : k < s.size) (hd : DigL s.data.toList) : 48 ≤ s[k].toNat ∧ s[k].toNat ≤ 57 := hd _ (by simp [ByteArray.getElem_eq_getElem_data])
end Go.Proofs.YtecaghbakjalgaaDoor
