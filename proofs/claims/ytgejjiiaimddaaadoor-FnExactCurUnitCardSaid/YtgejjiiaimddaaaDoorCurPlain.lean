/-
  The table of currencies in plain words: rows of code, number, places and cash, in the order of each side; what a look-up answers does not hang on the order.
-/
import Derived.Test.YtgejjiiaimddaaaDoorCore
namespace Go.Proofs.YtgejjiiaimddaaaDoor
open Go.RowKit

/-- code, number, places, cash -/
abbrev CR : Type := ByteArray × ByteArray × Int × Int
def specT : List CR := [
  (⟨#[65, 85, 68]⟩, ⟨#[48, 51, 54]⟩, 2, 5),
  (⟨#[66, 72, 68]⟩, ⟨#[48, 52, 56]⟩, 3, 5),
  (⟨#[67, 65, 68]⟩, ⟨#[49, 50, 52]⟩, 2, 5),
  (⟨#[67, 72, 70]⟩, ⟨#[55, 53, 54]⟩, 2, 5),
  (⟨#[67, 76, 70]⟩, ⟨#[57, 57, 48]⟩, 4, 1),
  (⟨#[67, 90, 75]⟩, ⟨#[50, 48, 51]⟩, 2, 100),
  (⟨#[68, 75, 75]⟩, ⟨#[50, 48, 56]⟩, 2, 50),
  (⟨#[69, 85, 82]⟩, ⟨#[57, 55, 56]⟩, 2, 1),
  (⟨#[71, 66, 80]⟩, ⟨#[56, 50, 54]⟩, 2, 1),
  (⟨#[72, 85, 70]⟩, ⟨#[51, 52, 56]⟩, 2, 500),
  (⟨#[73, 83, 75]⟩, ⟨#[51, 53, 50]⟩, 0, 1),
  (⟨#[74, 80, 89]⟩, ⟨#[51, 57, 50]⟩, 0, 1),
  (⟨#[75, 82, 87]⟩, ⟨#[52, 49, 48]⟩, 0, 10),
  (⟨#[75, 87, 68]⟩, ⟨#[52, 49, 52]⟩, 3, 5),
  (⟨#[78, 79, 75]⟩, ⟨#[53, 55, 56]⟩, 2, 100),
  (⟨#[78, 90, 68]⟩, ⟨#[53, 53, 52]⟩, 2, 10),
  (⟨#[80, 76, 78]⟩, ⟨#[57, 56, 53]⟩, 2, 1),
  (⟨#[83, 69, 75]⟩, ⟨#[55, 53, 50]⟩, 2, 100),
  (⟨#[84, 78, 68]⟩, ⟨#[55, 56, 56]⟩, 3, 10),
  (⟨#[85, 83, 68]⟩, ⟨#[56, 52, 48]⟩, 2, 1)]
def implT : List CR := [
  (⟨#[67, 72, 70]⟩, ⟨#[55, 53, 54]⟩, 2, 5),
  (⟨#[69, 85, 82]⟩, ⟨#[57, 55, 56]⟩, 2, 1),
  (⟨#[85, 83, 68]⟩, ⟨#[56, 52, 48]⟩, 2, 1),
  (⟨#[71, 66, 80]⟩, ⟨#[56, 50, 54]⟩, 2, 1),
  (⟨#[74, 80, 89]⟩, ⟨#[51, 57, 50]⟩, 0, 1),
  (⟨#[83, 69, 75]⟩, ⟨#[55, 53, 50]⟩, 2, 100),
  (⟨#[78, 79, 75]⟩, ⟨#[53, 55, 56]⟩, 2, 100),
  (⟨#[68, 75, 75]⟩, ⟨#[50, 48, 56]⟩, 2, 50),
  (⟨#[67, 90, 75]⟩, ⟨#[50, 48, 51]⟩, 2, 100),
  (⟨#[72, 85, 70]⟩, ⟨#[51, 52, 56]⟩, 2, 500),
  (⟨#[80, 76, 78]⟩, ⟨#[57, 56, 53]⟩, 2, 1),
  (⟨#[67, 65, 68]⟩, ⟨#[49, 50, 52]⟩, 2, 5),
  (⟨#[65, 85, 68]⟩, ⟨#[48, 51, 54]⟩, 2, 5),
  (⟨#[78, 90, 68]⟩, ⟨#[53, 53, 52]⟩, 2, 10),
  (⟨#[75, 87, 68]⟩, ⟨#[52, 49, 52]⟩, 3, 5),
  (⟨#[66, 72, 68]⟩, ⟨#[48, 52, 56]⟩, 3, 5),
  (⟨#[84, 78, 68]⟩, ⟨#[55, 56, 56]⟩, 3, 10),
  (⟨#[73, 83, 75]⟩, ⟨#[51, 53, 50]⟩, 0, 1),
  (⟨#[75, 82, 87]⟩, ⟨#[52, 49, 48]⟩, 0, 10),
  (⟨#[67, 76, 70]⟩, ⟨#[57, 57, 48]⟩, 4, 1)]
def cellsC (r : CR) : List Value := [.string r.1, .string r.2.1, .int .i64 r.2.2.1, .int .i64 r.2.2.2]
def cellsT (l : List CR) : List Value := l.flatMap cellsC
def codesT (l : List CR) : List ByteArray := l.map (·.1)
def byNum (l : List CR) (n : ByteArray) : ByteArray := match l.find? (fun r => decide (r.2.1 = n)) with
  | some r => r.1
  | none => ⟨#[]⟩

theorem find_of_mem {α β : Type} [DecidableEq β] {f : α → β} : ∀ {l : List α}, (l.map f).Nodup → ∀ {r : α}, r ∈ l → l.find? (fun x => decide (f x = f r)) = some r
  | [], _, _, h => absurd h List.not_mem_nil
  | x :: l, hn, r, h => by
    rw [List.map_cons, List.nodup_cons] at hn
    rw [List.find?_cons]
    rcases List.mem_cons.1 h with rfl | h
    · simp
    · have : ¬ f x = f r := fun e => hn.1 (by rw [e]; exact List.mem_map_of_mem h)
      rw [decide_eq_false this]
      exact find_of_mem hn.2 h
theorem find_perm {α β : Type} [DecidableEq β] {f : α → β} {l m : List α} (hl : (l.map f).Nodup) (hm : (m.map f).Nodup) (h1 : ∀ x ∈ l, x ∈ m) (h2 : ∀ x ∈ m, x ∈ l) (b : β) :
    l.find? (fun x => decide (f x = b)) = m.find? (fun x => decide (f x = b)) := by
  cases h : l.find? (fun x => decide (f x = b)) with
  | some r =>
    have hr := List.mem_of_find?_eq_some h
    have hb : f r = b := by simpa using List.find?_some h
    subst hb
    exact (find_of_mem hm (h1 r hr)).symm
  | none =>
    cases k : m.find? (fun x => decide (f x = b)) with
    | none => rfl
    | some r =>
      have hr := List.mem_of_find?_eq_some k
      have hb : f r = b := by simpa using List.find?_some k
      subst hb
      rw [find_of_mem hl (h2 r hr)] at h
      cases h
theorem sub_of {l m : List CR} (h : (l.all fun x => m.any fun y => decide (x = y)) = true) : ∀ x ∈ l, x ∈ m := fun x hx => by
  have := List.all_eq_true.1 h x hx
  obtain ⟨y, hy, e⟩ := List.any_eq_true.1 this
  rw [of_decide_eq_true e]
  exact hy
set_option maxRecDepth 100000 in
theorem implT_sub : ∀ x ∈ implT, x ∈ specT := sub_of (by decide +kernel)
set_option maxRecDepth 100000 in
theorem specT_sub : ∀ x ∈ specT, x ∈ implT := sub_of (by decide +kernel)
set_option maxRecDepth 100000 in
theorem implT_nums : (implT.map fun r => r.2.1).Nodup := by decide +kernel
set_option maxRecDepth 100000 in
theorem specT_nums : (specT.map fun r => r.2.1).Nodup := by decide +kernel
set_option maxRecDepth 100000 in
theorem implT_codes : (implT.map fun r => r.1).Nodup := by decide +kernel
set_option maxRecDepth 100000 in
theorem specT_codes : (specT.map fun r => r.1).Nodup := by decide +kernel
theorem byNum_mem {l : List CR} (hn : (l.map fun r => r.2.1).Nodup) {r : CR} (h : r ∈ l) : byNum l r.2.1 = r.1 := by
  unfold byNum
  rw [find_of_mem (f := fun r : CR => r.2.1) hn h]
theorem byNum_none {l : List CR} {n : ByteArray} (h : ∀ r ∈ l, ¬ r.2.1 = n) : byNum l n = ⟨#[]⟩ := by
  unfold byNum
  rw [List.find?_eq_none.2 fun r hr => by simpa using h r hr]
theorem implT_len : implT.length = 20 := rfl
theorem specT_len : specT.length = 20 := rfl
theorem take_next {l : List CR} {φ : CR → Prop} {k : Nat} (h : ∀ r ∈ l.take k, φ r) (hk : k < l.length) (hx : φ l[k]) : ∀ r ∈ l.take (k + 1), φ r := by
  intro r hr
  rw [List.take_succ_eq_append_getElem hk] at hr
  rcases List.mem_append.1 hr with hr | hr
  · exact h r hr
  · rw [List.mem_singleton.1 hr]
    exact hx
theorem bytes_neC {a b : ByteArray} (h : ¬ a = b) : (a.toList == b.toList) = false := by
  rw [beq_eq_false_iff_ne, ByteArray.toList_eq, ByteArray.toList_eq]
  exact fun e => h (WideShapes.bytes_inj e)
theorem cellsT_cons (r : CR) (l : List CR) : cellsT (r :: l) = cellsC r ++ cellsT l := by simp [cellsT]
theorem cellsT_get : ∀ (l : List CR) (k j : Nat) (hk : k < l.length), j < 4 → (cellsT l)[k * 4 + j]? = (cellsC l[k])[j]?
  | [], k, j, hk, _ => absurd hk (by simp)
  | r :: l, 0, j, _, hj => by
    rw [cellsT_cons, Nat.zero_mul, Nat.zero_add, List.getElem?_append_left (by simpa [cellsC] using hj)]
    rfl
  | r :: l, k + 1, j, hk, hj => by
    have e : (k + 1) * 4 + j = (cellsC r).length + (k * 4 + j) := by simp [cellsC]; omega
    rw [cellsT_cons, e, List.getElem?_append_right (by omega), Nat.add_sub_cancel_left, cellsT_get l k j (by simpa using hk) hj]
    rfl
theorem byNum_eq (n : ByteArray) : byNum implT n = byNum specT n := by
  unfold byNum
  rw [find_perm (f := fun r : CR => r.2.1) implT_nums specT_nums implT_sub specT_sub n]
end Go.Proofs.YtgejjiiaimddaaaDoor
