/-
  What spec.IntText and impl.IntText return: the decimal numeral.
-/
import Derived.Test.YtecaghbakjalgaaDoorCore
import Derived.Test.YtecaghbakjalgaaDoorShelf
import Derived.Deep.RegionWith
import Derived.Lib.ItoaNum
import Derived.IntWalk
namespace Go.Proofs.YtecaghbakjalgaaDoor
open Go.RowKit

/-- the decimal numeral of an int -/
def numB (n : Int) : ByteArray := ⟨(Lib.itoa n).toArray⟩
/-- one byte as a text -/
def byteB (c : Int) : ByteArray := ⟨#[UInt8.ofNat c.toNat]⟩

/-- string([]byte{c}), the cell known -/
theorem conv_cell (W : World) (b : Nat) (c : Int) (h : W.cell? ⟨b, 0, none⟩ = some (.int .u8 c)) : (convert 22 9 (.slice (some ⟨b, 0, none⟩) 1 1)).run Tryd.prog W = .ok (.string (byteB c)) W := by
  rw [run_convert_bytes_string _ 22 9 5 _ _ _ Tryd.underlying22 Tryd.underlying5 Tryd.underlying9]
  rw [run_bytesToString _ _ 1 1 [c] ?_]
  · rfl
  · simp [loadCells, loadCellsFrom, go_sem, Addr.add, h]

theorem dec_small (u : Nat) (h : u < 10) : Lib.decDigits u = [UInt8.ofNat (48 + u)] := by rw [Lib.decDigits, dif_pos h]
theorem dec_big (u : Nat) (h : ¬ u < 10) : Lib.decDigits u = Lib.decDigits (u / 10) ++ [UInt8.ofNat (48 + u % 10)] := by rw [Lib.decDigits, dif_neg h]
theorem num_neg_small (n : Int) (h : n < 0) (h1 : -10 < n) : (⟨#[45]⟩ : ByteArray) ++ byteB (48 - n) = numB n := by
  unfold numB byteB Lib.itoa
  rw [if_pos h, dec_small _ (by omega), show (48 - n).toNat = 48 + n.natAbs from by omega]
  apply ByteArray.ext
  simp
theorem num_neg_big (n : Int) (h : n ≤ -10) : numB (n.tdiv 10) ++ byteB (48 - n.tmod 10) = numB n := by
  have hq : n.tdiv 10 = -((n.natAbs / 10 : Nat) : Int) := by
    obtain ⟨m, rfl⟩ : ∃ m : Nat, n = -(m : Int) := ⟨n.natAbs, by omega⟩
    rw [Int.neg_tdiv, Int.natAbs_neg, Int.natAbs_natCast]
    rfl
  have hr : n.tmod 10 = -((n.natAbs % 10 : Nat) : Int) := by
    obtain ⟨m, rfl⟩ : ∃ m : Nat, n = -(m : Int) := ⟨n.natAbs, by omega⟩
    rw [Int.neg_tmod, Int.natAbs_neg, Int.natAbs_natCast]
    rfl
  unfold numB byteB Lib.itoa
  rw [hq, hr, if_pos (by omega), if_pos (by omega), dec_big n.natAbs (by omega), show (48 - -((n.natAbs % 10 : Nat) : Int)).toNat = 48 + n.natAbs % 10 from by omega, show (-((n.natAbs / 10 : Nat) : Int)).natAbs = n.natAbs / 10 from by omega]
  apply ByteArray.ext
  simp
theorem numB_size (n : Int) (k : Nat) (h : n.natAbs < 10 ^ (k + 1)) : (numB n).size ≤ k + 2 := by
  have hd : ∀ (k u : Nat), u < 10 ^ (k + 1) → (Lib.decDigits u).length ≤ k + 1 := by
    intro k
    induction k with
    | zero => intro u hu; rw [dec_small u (by simpa using hu)]; simp
    | succ k ih =>
      intro u hu
      by_cases hs : u < 10
      · rw [dec_small u hs]; simp
      · rw [dec_big u hs, List.length_append]
        have := ih (u / 10) (by rw [Nat.pow_succ] at hu; omega)
        simp; omega
  have e : (numB n).size = (Lib.itoa n).length := rfl
  rw [e]
  unfold Lib.itoa
  split
  · have := hd k n.natAbs h; simp; omega
  · have := hd k n.toNat (by omega); omega

theorem quo_small (n : Int) (h : n < 0) (h1 : -10 < n) : (n.tdiv 10 == 0) = true := by
  rw [beq_iff_eq]
  obtain ⟨m, rfl⟩ : ∃ m : Nat, n = -(m : Int) := ⟨n.natAbs, by omega⟩
  rw [Int.neg_tdiv, Int.tdiv_eq_zero_of_lt (by omega) (by omega)]
  rfl
theorem quo_rem (n : Int) (h : n ≤ 0) : n.tdiv 10 * 10 + n.tmod 10 = n ∧ -9 ≤ n.tmod 10 ∧ n.tmod 10 ≤ 0 := by
  obtain ⟨m, rfl⟩ : ∃ m : Nat, n = -(m : Int) := ⟨n.natAbs, by omega⟩
  have hq : (-(m : Int)).tdiv 10 = -((m / 10 : Nat) : Int) := by rw [Int.neg_tdiv]; rfl
  have hr : (-(m : Int)).tmod 10 = -((m % 10 : Nat) : Int) := by rw [Int.neg_tmod]; rfl
  rw [hq, hr]
  omega

set_option maxHeartbeats 400000 in
set_option maxRecDepth 100000 in
theorem specIntText_negSmall (n : Int) (w : World) (hn : n < 0) (hp : -10 < n) :
    Calls Tryd.prog 71 #[.int .i64 n] w fun e w' => e = .returned (.string (numB n)) ∧ Below w.heap.size w w' := by
  have hcv := conv_cell
  have hq := quo_small n hn hp
  go_enter Tryd.func71, Tryd.ntmps71
  go_wp2
  go_ret
  exact ⟨ret_str (num_neg_small n hn hp), (Below.refl _ _).alloc (Nat.le_refl _) _⟩

set_option maxHeartbeats 1000000 in
set_option maxRecDepth 100000 in
theorem specIntText_neg (k : Nat) : ∀ (n : Int) (w : World), k ≤ 18 → n < 0 → n.natAbs < 10 ^ (k + 1) → -9223372036854775808 ≤ n →
    Calls Tryd.prog 71 #[.int .i64 n] w fun e w' => e = .returned (.string (numB n)) ∧ Below w.heap.size w w' := by
  induction k with
  | zero =>
    intro n w hk hn hp hl
    exact specIntText_negSmall n w hn (by simp at hp; omega)
  | succ k ih =>
    intro n w hk hn hp hl
    have IH := Lib.hid ih
    clear ih
    by_cases hs : -10 < n
    · exact specIntText_negSmall n w hn hs
    · have hcv := conv_cell
      have hqr := quo_rem n (by omega)
      have HF := Lib.hid (num_neg_big n (by omega))
      have hq : (n.tdiv 10 == 0) = false := by rw [beq_eq_false_iff_ne]; omega
      have hpq : (n.tdiv 10).natAbs < 10 ^ (k + 1) := by rw [Nat.pow_succ] at hp; omega
      have hsz := numB_size _ k hpq
      have HC := Lib.hid (fun w' : World => IH.out (n.tdiv 10) w' (by omega) (by omega) hpq (by omega))
      have hbs : ∀ c : Int, (byteB c).size = 1 := fun _ => rfl
      have hcat : ¬ 9223372036854775807 < (numB (n.tdiv 10)).size + 1 := by omega
      have hw1 : IntKind.i64.wrap (n.tdiv 10) = n.tdiv 10 := IntWalk.i64_in _ (by omega)
      have hw2 : IntKind.i64.wrap (n.tmod 10) = n.tmod 10 := IntWalk.i64_in _ (by omega)
      have hw3 : IntKind.i64.wrap (48 - n.tmod 10) = 48 - n.tmod 10 := IntWalk.i64_in _ (by omega)
      have hw4 : IntKind.u8.wrap (48 - n.tmod 10) = 48 - n.tmod 10 := by rw [IntKind.wrap_u8]; omega
      clear hp hpq IH
      go_enter Tryd.func71, Tryd.ntmps71
      go_wp2
      go_region_with (go_at_call 71; refine (HC.out _).mono ?_; rintro e w1 ⟨rfl, hb1⟩; obtain ⟨hc1, hf1⟩ := below_rules hb1)
      all_goals go_wp2
      all_goals go_ret
      all_goals refine ⟨ret_str HF.out, ?_⟩
      all_goals first
        | exact (Below.next (Below.refl _ w).drew hb1).alloc hb1.size _
        | exact Below.next ((Below.refl _ w).drew.alloc (Nat.le_refl _) _) hb1
        | exact Below.next ((Below.refl _ w).alloc (Nat.le_refl _) _).drew hb1

/-- the digits of m ahead of what has been written -/
theorem pos_step (m : Nat) (acc : List UInt8) (h : ¬ m < 10) : Lib.decDigits m ++ acc = Lib.decDigits (m / 10) ++ (UInt8.ofNat (48 + m % 10) :: acc) := by
  rw [dec_big m h, List.append_assoc]
  rfl
theorem byte_app (m : Nat) (acc : List UInt8) : byteB (48 + (m : Int) % 10) ++ (⟨acc.toArray⟩ : ByteArray) = ⟨(UInt8.ofNat (48 + m % 10) :: acc).toArray⟩ := by
  unfold byteB
  rw [show (48 + (m : Int) % 10).toNat = 48 + m % 10 from by omega]
  apply ByteArray.ext
  simp
theorem pos_last (n m : Nat) (acc : List UInt8) (h : m < 10) (hd : Lib.decDigits m ++ acc = Lib.decDigits n) : byteB (48 + (m : Int)) ++ (⟨acc.toArray⟩ : ByteArray) = numB n := by
  unfold byteB numB Lib.itoa
  rw [if_neg (by omega), Int.toNat_natCast, ← hd, dec_small m h, show (48 + (m : Int)).toNat = 48 + m from by omega]
  apply ByteArray.ext
  simp

set_option maxHeartbeats 400000 in
set_option maxRecDepth 100000 in
theorem specIntText_pos (n : Nat) (w : World) (hn : n ≤ 9223372036854775807) :
    Calls Tryd.prog 71 #[.int .i64 n] w fun e w' => e = .returned (.string (numB n)) ∧ Below w.heap.size w w' := by
  have hcv := conv_cell
  have hbs : ∀ c : Int, (byteB c).size = 1 := fun _ => rfl
  have hn0 : ¬ (n : Int) < 0 := by omega
  go_enter Tryd.func71, Tryd.ntmps71
  go_wp2
  go_loopw [0, 3] (fun a o wr => ∃ (m f : Nat) (acc : List UInt8), m < 10 ^ f ∧ acc.length + f ≤ 19 ∧ m ≤ 9223372036854775807 ∧ a = .int .i64 m ∧ o = .string ⟨acc.toArray⟩ ∧ Hid (Lib.decDigits m ++ acc = Lib.decDigits n) ∧ Below w.heap.size w wr) (fun a _ _ => (intOf a).toNat)
  case atStart => exact ⟨n, 19, [], by omega, by simp, by omega, rfl, rfl, Lib.hid (List.append_nil _), Below.refl _ _⟩
  case round =>
    obtain ⟨m, f, acc, hf, hl, hm, rfl, rfl, HD, hb⟩ := hrel
    by_cases hs : m < 10
    · go_wp2
      go_ret
      exact ⟨ret_str (pos_last n m acc hs HD.out), hb.alloc hb.size _⟩
    · have HS := Lib.hid ((pos_step m acc hs).symm.trans HD.out)
      obtain ⟨g, rfl⟩ : ∃ g, f = g + 1 := by
        cases f with
        | zero => simp at hf; omega
        | succ g => exact ⟨g, rfl⟩
      have hg : m / 10 < 10 ^ g := by rw [Nat.pow_succ] at hf; omega
      clear hf
      go_wp2
      go_roundw
      case rel => exact ⟨m / 10, g, _, hg, by simp; omega, by omega, by go_num, by rw [byte_app], HS, hb.alloc hb.size _⟩
      case measure => simp [intOf]; omega

theorem specIntText_any (n : Int) (w : World) (h0 : -9223372036854775808 ≤ n) (h1 : n ≤ 9223372036854775807) :
    Calls Tryd.prog 71 #[.int .i64 n] w fun e w' => e = .returned (.string (numB n)) ∧ Below w.heap.size w w' := by
  by_cases h : n < 0
  · exact specIntText_neg 18 n w (by omega) h (by omega) h0
  · obtain ⟨m, rfl⟩ := Int.eq_ofNat_of_zero_le (show 0 ≤ n by omega)
    exact specIntText_pos m w (by omega)

/-- the table that the library reads is at hand -/
def Tab (w : World) : Prop := Lib.TabIs Tryd.prog w "internal/strconv.uint64pow10" .u64 Lib.pow10Tab
theorem powGlobal : Tryd.prog.globalNamed "internal/strconv.uint64pow10" = some 0 := by kernel_rfl
theorem Tab.lt {w : World} (h : Tab w) : 0 < w.heap.size := by
  unfold Tab Lib.TabIs World.var? at h
  rw [powGlobal] at h
  simp only [Option.bind_some] at h
  split at h
  · rename_i hh; exact (Array.getElem?_eq_some_iff.1 hh).1
  · cases h
theorem Tab.below {w w' : World} (h : Tab w) (hb : Below w.heap.size w w') : Tab w' := by
  have hl := h.lt
  unfold Tab Lib.TabIs World.var? at h ⊢
  rw [powGlobal] at h ⊢
  simp only [Option.bind_some] at h ⊢
  rw [hb.block _ hl]
  exact h
theorem Tab.drewN {w : World} (h : Tab w) (n : Nat) : Tab (w.drewN n) := h

theorem below_grow (w : World) (k : Nat) (os : Array Obj) : Below w.heap.size w (Sort.grow (w.drewN k) os) :=
  ⟨rfl, rfl, rfl, by show w.heap.size ≤ (w.heap ++ os).size; simp, fun i hi => by show (w.heap ++ os)[i]? = _; rw [Array.getElem?_append_left hi]⟩

theorem itoa_any (n : Int) (w : World) (h0 : -9223372036854775808 ≤ n) (h1 : n ≤ 9223372036854775807) (ht : Tab w) :
    Calls Tryd.prog 80 #[.int .i64 n] w fun e w' => e = .returned (.string (numB n)) ∧ Below w.heap.size w w' := by
  refine (Tryd.strconv_Itoa n h0 h1 w ht).mono ?_
  rintro e w' ⟨rfl, k, os, rfl⟩
  exact ⟨rfl, below_grow w k os⟩

set_option maxHeartbeats 400000 in
set_option maxRecDepth 100000 in
theorem implIntText_any (n : Int) (w : World) (h0 : -9223372036854775808 ≤ n) (h1 : n ≤ 9223372036854775807) (ht : Tab w) :
    Calls Tryd.prog 59 #[.int .i64 n] w fun e w' => e = .returned (.string (numB n)) ∧ Below w.heap.size w w' := by
  go_enter Tryd.func59, Tryd.ntmps59
  go_wp2_with fail
  refine (itoa_any n _ h0 h1 ht).mono ?_
  rintro e w1 ⟨rfl, hb⟩
  go_wp2
  go_ret
  exact ⟨rfl, hb⟩
end Go.Proofs.YtecaghbakjalgaaDoor
