/-
  What laws.markText returns: a text that is a function of its number alone.
-/
import Derived.Test.YtbfolegllhpkjaaDoorCore
namespace Go.Proofs.YtbfolegllhpkjaaDoor
open Go.RowKit

/-- the decimal digits of k ahead of acc, at most f of them -/
def digGo : Nat → Nat → List UInt8 → List UInt8
  | 0, _, acc => acc
  | f + 1, k, acc => if k = 0 then acc else digGo f (k / 10) ((48 + UInt8.ofNat (k % 10)) :: acc)
def markB (k : Int) : ByteArray := if k ≤ 0 then ⟨#[109, 48]⟩ else ⟨(109 :: digGo 19 k.toNat []).toArray⟩

theorem digGo_step {f m : Nat} {acc : List UInt8} {D : List UInt8} (h : digGo f m acc = D ∧ m < 10 ^ f) (hm : 0 < m) : ∃ g, f = g + 1 ∧ digGo g (m / 10) ((48 + UInt8.ofNat (m % 10)) :: acc) = D ∧ m / 10 < 10 ^ g := by
  cases f with
  | zero => have := h.2; simp at this; omega
  | succ g =>
    refine ⟨g, rfl, ?_, ?_⟩
    · rw [← h.1, digGo, if_neg (by omega)]
    · have := h.2; rw [Nat.pow_succ] at this; omega
theorem digGo_zero (f : Nat) (acc : List UInt8) : digGo f 0 acc = acc := by cases f <;> simp [digGo]
theorem push_one (c : UInt8) (acc : List UInt8) : (⟨#[c]⟩ : ByteArray) ++ ⟨acc.toArray⟩ = ⟨(c :: acc).toArray⟩ := by
  apply ByteArray.ext
  simp
theorem mark_done {n m f : Nat} {acc : List UInt8} (h0 : 0 < (n : Int)) (hz : ¬ 0 < m) (h : digGo f m acc = digGo 19 n [] ∧ m < 10 ^ f) : (⟨#[109]⟩ : ByteArray) ++ ⟨acc.toArray⟩ = markB n := by
  obtain rfl : m = 0 := by omega
  rw [markB, if_neg (by omega), push_one, Int.toNat_natCast, ← h.1, digGo_zero]

/-- string([]byte{c}) -/
theorem conv_byte (W : World) (c : Int) : (convert 41 9 (.slice (some ⟨W.heap.size, 0, none⟩) 1 1)).run Tryd.prog (W.alloc (.cells #[.int .u8 c] 5)) = .ok (.string ⟨#[UInt8.ofNat c.toNat]⟩) (W.alloc (.cells #[.int .u8 c] 5)) := by
  rw [run_convert_bytes_string _ 41 9 5 _ _ _ Tryd.underlying41 Tryd.underlying5 Tryd.underlying9]
  rw [run_bytesToString _ _ 1 1 [c] ?_]
  · rfl
  · simp [loadCells, go_sem]

set_option maxHeartbeats 400000 in
set_option maxRecDepth 100000 in
theorem markText_any (k : Int) (w : World) (hk : k ≤ 9223372036854775807) :
    Calls Tryd.prog 14 #[.int .i64 k] w fun e w' => e = .returned (.string (markB k)) ∧ Below w.heap.size w w' := by
  by_cases h0 : k ≤ 0
  · go_enter Tryd.func14, Tryd.ntmps14
    go_wp2
    go_ret
    exact ⟨ret_str (by rw [markB, if_pos h0]), Below.refl _ _⟩
  · obtain ⟨n, rfl⟩ := Int.eq_ofNat_of_zero_le (show 0 ≤ k by omega)
    have hcv := conv_byte
    go_enter Tryd.func14, Tryd.ntmps14
    go_wp2
    go_loopw [0, 3] (fun a o wr => ∃ (m f : Nat) (acc : List UInt8), m ≤ 9223372036854775807 ∧ acc.length + f ≤ 19 ∧ a = .int .i64 m ∧ o = .string ⟨acc.toArray⟩ ∧ Hid (digGo f m acc = digGo 19 n [] ∧ m < 10 ^ f) ∧ Below w.heap.size w wr) (fun a _ _ => (intOf a).toNat)
    case atStart => exact ⟨n, 19, [], by omega, by simp, rfl, rfl, Lib.hid ⟨rfl, by omega⟩, Below.refl _ _⟩
    case round =>
      obtain ⟨m, f, acc, hm, hf, rfl, rfl, HD, hb⟩ := hrel
      by_cases hz : 0 < m
      · obtain ⟨g, rfl, h1, h2⟩ := digGo_step HD.out hz
        have H1 := Lib.hid (And.intro h1 h2)
        clear h1 h2 HD
        go_wp2
        go_roundw
        case rel => exact ⟨m / 10, g, _, by omega, by simp; omega, by go_num, by rw [push_one], H1, hb.alloc hb.size _⟩
        case measure => simp [intOf]; omega
      · go_wp2
        go_ret
        exact ⟨ret_str (mark_done (by omega) hz HD.out), hb⟩
end Go.Proofs.YtbfolegllhpkjaaDoor
