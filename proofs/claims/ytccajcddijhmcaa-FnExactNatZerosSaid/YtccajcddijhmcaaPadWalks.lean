/-
  What spec.Pad and impl.Pad return.
-/
import Derived.Test.YtccajcddijhmcaaCore
namespace Go.Proofs.Ytccajcddijhmcaa
open Go.RowKit

/-- zeros ahead of a text -/
def padB (s : ByteArray) (n : Int) : ByteArray := ⟨(List.replicate (n.toNat - s.size) (48 : UInt8) ++ s.data.toList).toArray⟩

theorem padB_same (s : ByteArray) (n : Int) (h : n ≤ s.size) : padB s n = s := by
  unfold padB
  rw [show n.toNat - s.size = 0 from by omega]
  apply ByteArray.ext
  simp
theorem padB_step (s : ByteArray) (n : Int) (h : (s.size : Int) < n) : padB ((⟨#[48]⟩ : ByteArray) ++ s) n = padB s n := by
  have e : n.toNat - s.size = (n.toNat - (s.size + 1)) + 1 := by omega
  have hsz : ((⟨#[48]⟩ : ByteArray) ++ s).size = s.size + 1 := by rw [ByteArray.size_append]; show 1 + s.size = _; omega
  unfold padB
  rw [hsz, e, List.replicate_succ']
  apply ByteArray.ext
  simp
/-- so many zeros -/
def zerosB (m : Int) : ByteArray := ⟨(List.replicate m.toNat (48 : UInt8)).toArray⟩
theorem zerosB_size (m : Int) : (zerosB m).size = m.toNat := by
  unfold zerosB
  show (List.replicate m.toNat (48 : UInt8)).toArray.size = _
  simp
def strSize : Value → Nat
  | .string t => t.size
  | _ => 0
theorem size_zero_app (t : ByteArray) : ((⟨#[48]⟩ : ByteArray) ++ t).size = t.size + 1 := by
  rw [ByteArray.size_append]
  show 1 + t.size = _
  omega
set_option maxHeartbeats 400000 in
set_option maxRecDepth 100000 in
theorem specPad_any (s : ByteArray) (n : Int) (w : World) (hs : s.size ≤ 1048576) (hn : n ≤ 2000) :
    Calls Try.prog 51 #[.string s, .int .i64 n] w fun e w' => e = .returned (.string (padB s n)) ∧ w = w' := by
  go_enter Try.func51, Try.ntmps51
  go_wp2
  go_loop [0] (fun a => ∃ t : ByteArray, t.size ≤ 1048576 ∧ a = .string t ∧ Hid (padB t n = padB s n)) (fun a => n.toNat - strSize a)
  case atStart => exact ⟨s, hs, rfl, Lib.hid rfl⟩
  case round =>
    obtain ⟨t, ht, rfl, HP⟩ := hrel
    by_cases hlt : (t.size : Int) < n
    · have HS := Lib.hid (padB_step t n hlt)
      have HZ := Lib.hid (size_zero_app t)
      go_wp2
      go_round
      case rel => exact ⟨_, by rw [HZ.out]; omega, rfl, Lib.hid (HS.out.trans HP.out)⟩
      case measure => simp only [strSize, HZ.out]; omega
    · go_wp2
      go_ret
      exact ⟨ret_str (by rw [← HP.out, padB_same t n (by omega)]), rfl⟩

set_option maxHeartbeats 400000 in
set_option maxRecDepth 100000 in
theorem specPad_big (s : ByteArray) (n : Int) (w : World) (hn : 2000 < n) :
    Calls Try.prog 51 #[.string s, .int .i64 n] w fun e w' => e = .returned (.string s) ∧ w = w' := by
  go_enter Try.func51, Try.ntmps51
  go_wp2
  go_ret
  exact ⟨rfl, rfl⟩
end Go.Proofs.Ytccajcddijhmcaa
