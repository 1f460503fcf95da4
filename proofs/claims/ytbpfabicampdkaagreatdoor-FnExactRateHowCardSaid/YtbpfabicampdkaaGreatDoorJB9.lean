/-
  Decimal numbers as fractions: DecRat, RatDec, DecDiv.
  What spec.IntText and impl.IntText return: the decimal numeral.
  What (*strings.Builder).copyCheck and WriteString do to a builder of the call's own.
  What impl.joinAll, impl.Join and spec.Join return: the same text.
  What spec.Pad and impl.Pad return.
  Chapter 3: NatText and NatDigits of package spec.
  What spec.l01All, impl.IsDigits, IsWord, IsCode and their spec twins return, as walks over the program.
  Plain facts on texts of decimal digits.
  What TextNat of package spec returns.
  What spec.TextInt and impl.TextInt return: the int whose numeral the text is, if there is one.
  Plain facts: the text of limbs is the decimal numeral of their number; when a text of digits is a numeral.
  What NatZeros of package spec returns: how many zeros stand at the end of the numeral.
  The laws of chapter 4, walked: they return true wherever both packages answer alike.
  The laws of chapter 4, for arguments of any size; impl's contracts are handed in.
  What NatEven of package impl returns.
  What NatTen of package impl returns.
  What limbAt, NatTen, NatScale, NatZeros and NatEven of package impl return.
  A quotient that is rounded: its limbs, whatever the sizes.
-/
import Derived.Deep.RegionWith
import Derived.Lib.ItoaNum
import Derived.IntWalk
import Derived.Lib.FrozenHead2
import Derived.Lib.OthersKept
import Derived.Deep.RegionHeld3
import Derived.Lib.IndexBytes
import Derived.Test.YtbpfabicampdkaaGreatDoorJB8
namespace Go.Proofs.YtbpfabicampdkaaGreatDoor
open Go.RowKit

def ratD (d : DI) : QI := if okD d = true then (makeQ d.1 (tenS d.2)).1 else zeroQ
/-- the size that a fraction times ten to the power k is rounded to, with its sign -/
def scaledN (r : QI) (k m : Int) : Nat := roundN r.1.1 (topN r * 10 ^ k.toNat) (denQ r) m
def scaledZ (r : QI) (k m : Int) : Int := if r.1.1 = true then -(scaledN r k m : Int) else scaledN r k m
/-- what RatDec and DecDiv answer -/
def ratDecD (r : QI) (k m : Int) : DI × Bool := if okQ r = true ∧ (0 ≤ k ∧ k ≤ 30) ∧ modeB m = true then decZ (scaledZ r k m) k else (zeroD, false)
def divD (d e : DI) (k m : Int) : DI × Bool := if (divQ (ratD d) (ratD e)).2 = true then ratDecD (divQ (ratD d) (ratD e)).1 k m else (zeroD, false)

theorem rat_bad {d : DI} (h : ¬ okD d = true) : ratD d = zeroQ := by unfold ratD; rw [if_neg h]
theorem ten_bd {d : DI} (h : okD d = true) : makeQ d.1 (tenS d.2) = (ratD d, true) ∧ Bd (ratD d) 6 ∧ ratV (ratD d) = (numD d : Rat) / (pt d.2 : Rat) := by
  have p := partsD h
  have hp := okS_parts p.ok
  have t := tenS_ok p.lo p.hi
  have hn := nval_ok hp.1
  have hP := pt_pos d.2
  have e : makeQ d.1 (tenS d.2) = lowQ d.1.1 (nval d.1.2).toNat (pt d.2).toNat := by
    unfold makeQ
    rw [if_pos ⟨p.ok, t.1⟩]
    have : nval (tenS d.2).2 = pt d.2 := t.2.1
    rw [this]
    show lowQ (d.1.1 != false) _ _ = _
    cases d.1.1 <;> rfl
  have hr : ratD d = (makeQ d.1 (tenS d.2)).1 := by unfold ratD; rw [if_pos h]
  have hab := valS_abs d.1 hp.1
  have hlt := num_lt p
  have h46 : bp 4 ≤ bp 6 := bp_mono (by omega)
  have h4 := pt_lt p.hi
  unfold numD at hlt
  obtain ⟨b1, b2, b3⟩ := low_bd (n := d.1.1) (a := (nval d.1.2).toNat) (b := (pt d.2).toNat) (m := 6) (by omega) (by omega) (by omega) (by omega)
  rw [hr, e]
  refine ⟨pair_eq b1, b2, b3.trans ?_⟩
  rw [Int.toNat_of_nonneg hn, Int.toNat_of_nonneg (by omega)]
  rfl
theorem ratD_sz (d : DI) : szQ (ratD d) ≤ 1048576 := by
  unfold ratD
  split
  · unfold makeQ
    split
    · exact lowQ_sz _ _ _
    · decide
  · decide
theorem ratDecD_sz (r : QI) (k m : Int) : szD (ratDecD r k m).1 ≤ 1048576 := by unfold ratDecD; split; exact decZ_sz _ _; exact zeroD_sz
theorem divD_sz (d e : DI) (k m : Int) : szD (divD d e k m).1 ≤ 1048576 := by unfold divD; split; exact ratDecD_sz _ _ _; exact zeroD_sz
/-- what is rounded, and what comes out, is short -/
theorem scaled_lt {r : QI} (h : okQ r = true) {k : Int} (h1 : k ≤ 30) : ((topN r * 10 ^ k.toNat : Nat) : Int) < bp 22 := by
  have p := parts_of h
  have a := p.nlt
  have b := pt_lt h1
  rw [← pt_nat] at b
  exact mul_lt (i := 18) (j := 4) a b
theorem scaledN_lt {r : QI} (h : okQ r = true) {k : Int} (m : Int) (h1 : k ≤ 30) : (scaledN r k m : Int) < bp 23 := by
  have a := scaled_lt h h1
  have b := roundN_le r.1.1 (topN r * 10 ^ k.toNat) (denQ r) m
  have c : topN r * 10 ^ k.toNat / denQ r ≤ topN r * 10 ^ k.toNat := Nat.div_le_self ..
  have d : bp 22 < bp 23 := bp_step 22
  unfold scaledN
  omega
/-- the number that RatDec rounds to, with a scale -/
theorem ratDec_is {r : QI} {k m : Int} (h : okQ r = true) (h0 : 0 ≤ k) (h1 : k ≤ 30) (hm : modeB m = true) : decD (mkS r.1.1 (limbs (scaledN r k m))) k = ratDecD r k m := by
  unfold ratDecD
  rw [if_pos ⟨h, ⟨h0, h1⟩, hm⟩, mkS_limbs]
  have a := scaledN_lt h m h1
  have b : bp 23 ≤ bp 50 := bp_mono (by omega)
  refine decD_ofZ _ ?_
  split <;> omega
end Go.Proofs.YtbpfabicampdkaaGreatDoor

namespace Go.Proofs.YtbpfabicampdkaaGreatDoor
open Go.RowKit

/-- the decimal numeral of an int -/
def numB (n : Int) : ByteArray := ⟨(Lib.itoa n).toArray⟩
/-- one byte as a text -/
def byteB (c : Int) : ByteArray := ⟨#[UInt8.ofNat c.toNat]⟩

/-- string([]byte{c}), the cell known -/
theorem conv_cell (W : World) (b : Nat) (c : Int) (h : W.cell? ⟨b, 0, none⟩ = some (.int .u8 c)) : (convert 22 9 (.slice (some ⟨b, 0, none⟩) 1 1)).run Tryz.prog W = .ok (.string (byteB c)) W := by
  rw [run_convert_bytes_string _ 22 9 5 _ _ _ Tryz.underlying22 Tryz.underlying5 Tryz.underlying9]
  rw [run_bytesToString _ _ 1 1 [c] ?_]
  · rfl
  · simp [loadCells, loadCellsFrom, go_sem, Addr.add, h]

theorem dec_small (u : Nat) (h : u < 10) : Lib.decDigits u = [UInt8.ofNat (48 + u)] := by rw [Lib.decDigits, dif_pos h]
theorem dec_big (u : Nat) (h : ¬ u < 10) : Lib.decDigits u = Lib.decDigits (u / 10) ++ [UInt8.ofNat (48 + u % 10)] := by rw [Lib.decDigits, dif_neg h]
theorem num_neg_small (n : Int) (h : n < 0) (h1 : -10 < n) : (⟨#[45]⟩ : ByteArray) ++ byteB (48 - n) = numB n := by
  unfold numB byteB Lib.itoa
  rw [if_pos h, dec_small _ (by omega), show (48 - n).toNat = 48 + n.natAbs from by omega]
  apply ByteArray.ext
  simp
theorem num_neg_big (n : Int) (h : n ≤ -10) : numB (n.tdiv 10) ++ byteB (48 - n.tmod 10) = numB n := by
  have hq : n.tdiv 10 = -((n.natAbs / 10 : Nat) : Int) := by
    obtain ⟨m, rfl⟩ : ∃ m : Nat, n = -(m : Int) := ⟨n.natAbs, by omega⟩
    rw [Int.neg_tdiv, Int.natAbs_neg, Int.natAbs_natCast]
    rfl
  have hr : n.tmod 10 = -((n.natAbs % 10 : Nat) : Int) := by
    obtain ⟨m, rfl⟩ : ∃ m : Nat, n = -(m : Int) := ⟨n.natAbs, by omega⟩
    rw [Int.neg_tmod, Int.natAbs_neg, Int.natAbs_natCast]
    rfl
  unfold numB byteB Lib.itoa
  rw [hq, hr, if_pos (by omega), if_pos (by omega), dec_big n.natAbs (by omega), show (48 - -((n.natAbs % 10 : Nat) : Int)).toNat = 48 + n.natAbs % 10 from by omega, show (-((n.natAbs / 10 : Nat) : Int)).natAbs = n.natAbs / 10 from by omega]
  apply ByteArray.ext
  simp
theorem numB_size (n : Int) (k : Nat) (h : n.natAbs < 10 ^ (k + 1)) : (numB n).size ≤ k + 2 := by
  have hd : ∀ (k u : Nat), u < 10 ^ (k + 1) → (Lib.decDigits u).length ≤ k + 1 := by
    intro k
    induction k with
    | zero => intro u hu; rw [dec_small u (by simpa using hu)]; simp
    | succ k ih =>
      intro u hu
      by_cases hs : u < 10
      · rw [dec_small u hs]; simp
      · rw [dec_big u hs, List.length_append]
        have := ih (u / 10) (by rw [Nat.pow_succ] at hu; omega)
        simp; omega
  have e : (numB n).size = (Lib.itoa n).length := rfl
  rw [e]
  unfold Lib.itoa
  split
  · have := hd k n.natAbs h; simp; omega
  · have := hd k n.toNat (by omega); omega

theorem quo_small (n : Int) (h : n < 0) (h1 : -10 < n) : (n.tdiv 10 == 0) = true := by
  rw [beq_iff_eq]
  obtain ⟨m, rfl⟩ : ∃ m : Nat, n = -(m : Int) := ⟨n.natAbs, by omega⟩
  rw [Int.neg_tdiv, Int.tdiv_eq_zero_of_lt (by omega) (by omega)]
  rfl
theorem quo_rem (n : Int) (h : n ≤ 0) : n.tdiv 10 * 10 + n.tmod 10 = n ∧ -9 ≤ n.tmod 10 ∧ n.tmod 10 ≤ 0 := by
  obtain ⟨m, rfl⟩ : ∃ m : Nat, n = -(m : Int) := ⟨n.natAbs, by omega⟩
  have hq : (-(m : Int)).tdiv 10 = -((m / 10 : Nat) : Int) := by rw [Int.neg_tdiv]; rfl
  have hr : (-(m : Int)).tmod 10 = -((m % 10 : Nat) : Int) := by rw [Int.neg_tmod]; rfl
  rw [hq, hr]
  omega

set_option maxHeartbeats 400000 in
set_option maxRecDepth 100000 in
theorem specIntText_negSmall (n : Int) (w : World) (hn : n < 0) (hp : -10 < n) :
    Calls Tryz.prog 216 #[.int .i64 n] w fun e w' => e = .returned (.string (numB n)) ∧ Below w.heap.size w w' := by
  have hcv := conv_cell
  have hq := quo_small n hn hp
  go_enter Tryz.func216, Tryz.ntmps216
  go_wp2
  go_ret
  exact ⟨ret_str (num_neg_small n hn hp), (Below.refl _ _).alloc (Nat.le_refl _) _⟩

set_option maxHeartbeats 1000000 in
set_option maxRecDepth 100000 in
theorem specIntText_neg (k : Nat) : ∀ (n : Int) (w : World), k ≤ 18 → n < 0 → n.natAbs < 10 ^ (k + 1) → -9223372036854775808 ≤ n →
    Calls Tryz.prog 216 #[.int .i64 n] w fun e w' => e = .returned (.string (numB n)) ∧ Below w.heap.size w w' := by
  induction k with
  | zero =>
    intro n w hk hn hp hl
    exact specIntText_negSmall n w hn (by simp at hp; omega)
  | succ k ih =>
    intro n w hk hn hp hl
    have IH := Lib.hid ih
    clear ih
    by_cases hs : -10 < n
    · exact specIntText_negSmall n w hn hs
    · have hcv := conv_cell
      have hqr := quo_rem n (by omega)
      have HF := Lib.hid (num_neg_big n (by omega))
      have hq : (n.tdiv 10 == 0) = false := by rw [beq_eq_false_iff_ne]; omega
      have hpq : (n.tdiv 10).natAbs < 10 ^ (k + 1) := by rw [Nat.pow_succ] at hp; omega
      have hsz := numB_size _ k hpq
      have HC := Lib.hid (fun w' : World => IH.out (n.tdiv 10) w' (by omega) (by omega) hpq (by omega))
      have hbs : ∀ c : Int, (byteB c).size = 1 := fun _ => rfl
      have hcat : ¬ 9223372036854775807 < (numB (n.tdiv 10)).size + 1 := by omega
      have hw1 : IntKind.i64.wrap (n.tdiv 10) = n.tdiv 10 := IntWalk.i64_in _ (by omega)
      have hw2 : IntKind.i64.wrap (n.tmod 10) = n.tmod 10 := IntWalk.i64_in _ (by omega)
      have hw3 : IntKind.i64.wrap (48 - n.tmod 10) = 48 - n.tmod 10 := IntWalk.i64_in _ (by omega)
      have hw4 : IntKind.u8.wrap (48 - n.tmod 10) = 48 - n.tmod 10 := by rw [IntKind.wrap_u8]; omega
      clear hp hpq IH
      go_enter Tryz.func216, Tryz.ntmps216
      go_wp2
      go_region_with (go_at_call 216; refine (HC.out _).mono ?_; rintro e w1 ⟨rfl, hb1⟩; obtain ⟨hc1, hf1⟩ := below_rules hb1)
      all_goals go_wp2
      all_goals go_ret
      all_goals refine ⟨ret_str HF.out, ?_⟩
      all_goals first
        | exact (Below.next (Below.refl _ w).drew hb1).alloc hb1.size _
        | exact Below.next ((Below.refl _ w).drew.alloc (Nat.le_refl _) _) hb1
        | exact Below.next ((Below.refl _ w).alloc (Nat.le_refl _) _).drew hb1

/-- the digits of m ahead of what has been written -/
theorem pos_step (m : Nat) (acc : List UInt8) (h : ¬ m < 10) : Lib.decDigits m ++ acc = Lib.decDigits (m / 10) ++ (UInt8.ofNat (48 + m % 10) :: acc) := by
  rw [dec_big m h, List.append_assoc]
  rfl
theorem byte_app (m : Nat) (acc : List UInt8) : byteB (48 + (m : Int) % 10) ++ (⟨acc.toArray⟩ : ByteArray) = ⟨(UInt8.ofNat (48 + m % 10) :: acc).toArray⟩ := by
  unfold byteB
  rw [show (48 + (m : Int) % 10).toNat = 48 + m % 10 from by omega]
  apply ByteArray.ext
  simp
theorem pos_last (n m : Nat) (acc : List UInt8) (h : m < 10) (hd : Lib.decDigits m ++ acc = Lib.decDigits n) : byteB (48 + (m : Int)) ++ (⟨acc.toArray⟩ : ByteArray) = numB n := by
  unfold byteB numB Lib.itoa
  rw [if_neg (by omega), Int.toNat_natCast, ← hd, dec_small m h, show (48 + (m : Int)).toNat = 48 + m from by omega]
  apply ByteArray.ext
  simp

set_option maxHeartbeats 400000 in
set_option maxRecDepth 100000 in
theorem specIntText_pos (n : Nat) (w : World) (hn : n ≤ 9223372036854775807) :
    Calls Tryz.prog 216 #[.int .i64 n] w fun e w' => e = .returned (.string (numB n)) ∧ Below w.heap.size w w' := by
  have hcv := conv_cell
  have hbs : ∀ c : Int, (byteB c).size = 1 := fun _ => rfl
  have hn0 : ¬ (n : Int) < 0 := by omega
  go_enter Tryz.func216, Tryz.ntmps216
  go_wp2
  go_loopw [0, 3] (fun a o wr => ∃ (m f : Nat) (acc : List UInt8), m < 10 ^ f ∧ acc.length + f ≤ 19 ∧ m ≤ 9223372036854775807 ∧ a = .int .i64 m ∧ o = .string ⟨acc.toArray⟩ ∧ Hid (Lib.decDigits m ++ acc = Lib.decDigits n) ∧ Below w.heap.size w wr) (fun a _ _ => (intOf a).toNat)
  case atStart => exact ⟨n, 19, [], by omega, by simp, by omega, rfl, rfl, Lib.hid (List.append_nil _), Below.refl _ _⟩
  case round =>
    obtain ⟨m, f, acc, hf, hl, hm, rfl, rfl, HD, hb⟩ := hrel
    by_cases hs : m < 10
    · go_wp2
      go_ret
      exact ⟨ret_str (pos_last n m acc hs HD.out), hb.alloc hb.size _⟩
    · have HS := Lib.hid ((pos_step m acc hs).symm.trans HD.out)
      obtain ⟨g, rfl⟩ : ∃ g, f = g + 1 := by
        cases f with
        | zero => simp at hf; omega
        | succ g => exact ⟨g, rfl⟩
      have hg : m / 10 < 10 ^ g := by rw [Nat.pow_succ] at hf; omega
      clear hf
      go_wp2
      go_roundw
      case rel => exact ⟨m / 10, g, _, hg, by simp; omega, by omega, by go_num, by rw [byte_app], HS, hb.alloc hb.size _⟩
      case measure => simp [intOf]; omega

theorem specIntText_any (n : Int) (w : World) (h0 : -9223372036854775808 ≤ n) (h1 : n ≤ 9223372036854775807) :
    Calls Tryz.prog 216 #[.int .i64 n] w fun e w' => e = .returned (.string (numB n)) ∧ Below w.heap.size w w' := by
  by_cases h : n < 0
  · exact specIntText_neg 18 n w (by omega) h (by omega) h0
  · obtain ⟨m, rfl⟩ := Int.eq_ofNat_of_zero_le (show 0 ≤ n by omega)
    exact specIntText_pos m w (by omega)

/-- the table that the library reads is at hand -/
def Tab (w : World) : Prop := Lib.TabIs Tryz.prog w "internal/strconv.uint64pow10" .u64 Lib.pow10Tab
theorem powGlobal : Tryz.prog.globalNamed "internal/strconv.uint64pow10" = some 7 := by kernel_rfl
theorem Tab.lt {w : World} (h : Tab w) : 7 < w.heap.size := by
  unfold Tab Lib.TabIs World.var? at h
  rw [powGlobal] at h
  simp only [Option.bind_some] at h
  split at h
  · rename_i hh; exact (Array.getElem?_eq_some_iff.1 hh).1
  · cases h
theorem Tab.below {w w' : World} (h : Tab w) (hb : Below w.heap.size w w') : Tab w' := by
  have hl := h.lt
  unfold Tab Lib.TabIs World.var? at h ⊢
  rw [powGlobal] at h ⊢
  simp only [Option.bind_some] at h ⊢
  rw [hb.block _ hl]
  exact h
theorem Tab.drewN {w : World} (h : Tab w) (n : Nat) : Tab (w.drewN n) := h

theorem below_grow (w : World) (k : Nat) (os : Array Obj) : Below w.heap.size w (Sort.grow (w.drewN k) os) :=
  ⟨rfl, rfl, rfl, by show w.heap.size ≤ (w.heap ++ os).size; simp, fun i hi => by show (w.heap ++ os)[i]? = _; rw [Array.getElem?_append_left hi]⟩

theorem itoa_any (n : Int) (w : World) (h0 : -9223372036854775808 ≤ n) (h1 : n ≤ 9223372036854775807) (ht : Tab w) :
    Calls Tryz.prog 208 #[.int .i64 n] w fun e w' => e = .returned (.string (numB n)) ∧ Below w.heap.size w w' := by
  refine (Tryz.strconv_Itoa n h0 h1 w ht).mono ?_
  rintro e w' ⟨rfl, k, os, rfl⟩
  exact ⟨rfl, below_grow w k os⟩

set_option maxHeartbeats 400000 in
set_option maxRecDepth 100000 in
theorem implIntText_any (n : Int) (w : World) (h0 : -9223372036854775808 ≤ n) (h1 : n ≤ 9223372036854775807) (ht : Tab w) :
    Calls Tryz.prog 172 #[.int .i64 n] w fun e w' => e = .returned (.string (numB n)) ∧ Below w.heap.size w w' := by
  go_enter Tryz.func172, Tryz.ntmps172
  go_wp2_with fail
  refine (itoa_any n _ h0 h1 ht).mono ?_
  rintro e w1 ⟨rfl, hb⟩
  go_wp2
  go_ret
  exact ⟨rfl, hb⟩
end Go.Proofs.YtbpfabicampdkaaGreatDoor

namespace Go.Proofs.YtbpfabicampdkaaGreatDoor
open Go.RowKit

theorem sizeBuilder : (Tryz.prog.info? 197).map (fun i => i.size) = some 2 := by kernel_rfl
theorem liesBuilder : liesAt Tryz.prog Tryz.prog.depth 197 (2 / Tryz.prog.cellsOf 197) 0 197 1 = true := by kernel_rfl
theorem byteInfo : (Tryz.prog.info? 5).map (fun i => (i.zero, i.size, i.bytes)) = some (some (.int .u8 0), 1, 1) := by kernel_rfl

set_option maxHeartbeats 400000 in
set_option maxRecDepth 100000 in
theorem copyCheck_used (b : Nat) (w : World) (h0 : w.cell? ⟨b, 0, none⟩ = some (.pointer (some ⟨b, 0, none⟩))) :
    Calls Tryz.prog 203 #[.pointer (some ⟨b, 0, none⟩)] w fun e w' => e = .returned (.tuple #[]) ∧ w = w' := by
  obtain ⟨j, hj, _⟩ := Option.map_eq_some_iff.1 sizeBuilder
  go_enter Tryz.func203, Tryz.ntmps203
  go_wp2
  rw [Lib.run_neq_ptr_same w _ Tryz.underlying195 hj]
  go_wp2
  go_end0
  exact ⟨rfl, rfl⟩

set_option maxHeartbeats 400000 in
set_option maxRecDepth 100000 in
theorem copyCheck_fresh (b : Nat) (w : World) (h0 : w.cell? ⟨b, 0, none⟩ = some (.pointer none)) (hsh : w.shape? b = some (197, 2)) (hfz : w.frozen? ⟨b, 0, none⟩ = false) :
    Calls Tryz.prog 203 #[.pointer (some ⟨b, 0, none⟩)] w fun e w' => e = .returned (.tuple #[]) ∧ w.setCell ⟨b, 0, none⟩ (.pointer (some ⟨b, 0, none⟩)) = w' := by
  obtain ⟨j, hj, hjs⟩ := Option.map_eq_some_iff.1 sizeBuilder
  go_enter Tryz.func203, Tryz.ntmps203
  go_wp2
  rw [Lib.run_to_unsafe w ⟨b, 0, none⟩ Tryz.underlying195 Tryz.underlying244 hj (by rw [hjs]; decide) hsh (Nat.zero_lt_succ 1)]
  simp only [Result.andThen]
  rw [Oper.upon_value]
  go_wp2
  rw [run_callFunc_extern Tryz.func224 (by kernel_rfl) (by kernel_rfl) (by kernel_rfl) (e := Extern.AbiNoEscape.same) (by kernel_rfl)]
  rw [Lib.run_noEscape]
  simp only [Result.andThen]
  rw [Oper.upon_value]
  go_wp2
  rw [Lib.run_from_unsafe w ⟨b, 0, none⟩ Tryz.underlying244 Tryz.underlying195 hj hsh liesBuilder]
  simp only [Result.andThen]
  rw [Oper.upon_value]
  go_wp2
  go_end0
  exact ⟨rfl, rfl⟩

/-- a builder of the call's own, with what it holds, and the frame above it -/
def Built (B b : Nat) (bs : List Value) (w w' : World) : Prop := Lib.IsBuilderF 197 5 B b bs w' ∧ Below B w w' ∧ Lib.OthersKept 5 (some b) w w'

theorem copyCheck_any (B b : Nat) (bs : List Value) (w : World) (h : Lib.IsBuilderF 197 5 B b bs w) :
    Calls Tryz.prog 203 #[.pointer (some ⟨b, 0, none⟩)] w fun e w' => e = .returned (.tuple #[]) ∧ Lib.BuilderAtF 197 5 B b (.pointer (some ⟨b, 0, none⟩)) bs w' ∧ Below B w w' ∧ Lib.OthersKept 5 (some b) w w' := by
  rcases h with h | h
  · refine (copyCheck_fresh b w h.cell0 h.shape h.frozen0).mono ?_
    rintro e w' ⟨rfl, rfl⟩
    exact ⟨rfl, h.used _, (Below.refl B w).setCell (p := ⟨b, 0, none⟩) h.1 _, (Lib.OthersKept.refl _ _ w).setCell ⟨b, 0, none⟩ rfl _⟩
  · refine (copyCheck_used b w h.cell0).mono ?_
    rintro e w' ⟨rfl, rfl⟩
    exact ⟨rfl, h, Below.refl B _, Lib.OthersKept.refl _ _ _⟩

set_option maxHeartbeats 1000000 in
set_option maxRecDepth 100000 in
theorem writeString_any (B b : Nat) (bs : List Value) (s : ByteArray) (w : World) (h : Lib.IsBuilderF 197 5 B b bs w) (hlen : bs.length + s.size ≤ 140737488355328) (hBw : B ≤ w.heap.size) :
    Calls Tryz.prog 169 #[.pointer (some ⟨b, 0, none⟩), .string s] w fun e w' => e = .returned (.tuple #[.int .i64 s.size, .nilIface]) ∧ Built B b (bs ++ Lib.strCells s) w w' := by
  obtain ⟨i0, hi, hz0, hz1, hz2⟩ := info_parts byteInfo
  go_enter Tryz.func169, Tryz.ntmps169
  go_wp2_with fail
  refine (copyCheck_any B b bs _ h).mono ?_
  rintro e w1 ⟨rfl, h1, hb1, hk1⟩
  obtain ⟨hB, v, hbk, hown, hne⟩ := h1
  have c1 : w1.cell? ⟨b, 1, none⟩ = some v := by rw [Lib.cell_of_heap hbk]; rfl
  go_wp2_with (at_builtin; refine Lib.wpList_append_own_stringF _ rfl _ _ 22 9 rfl B 5 i0 Tryz.underlying22 Tryz.underlying9 hi hz0 hz1 hz2 _ _ _ rfl hown s rfl ?c3 ?c4 ?c5 ?_)
  case c3 => unfold maxLen; omega
  case c4 => omega
  case c5 => have := hb1.size; omega
  intro v' w2 hown' hgrow _
  have hlt : b < w1.heap.size := (Array.getElem?_eq_some_iff.1 hbk).1
  have hb2 : w2.heap[b]? = some (.cells #[.pointer (some ⟨b, 0, none⟩), v] 197 (0, 0)) := by
    rw [hgrow.block b hlt (fun e => hne e.symm)]
    exact hbk
  have d1 : w2.cell? ⟨b, 1, none⟩ = some v := by rw [Lib.cell_of_heap hb2]; rfl
  have f1 : w2.frozen? ⟨b, 1, none⟩ = false := Lib.frozen_of_heap hb2 1
  obtain ⟨ao, n', cap, rfl⟩ : ∃ ao n' cap, v' = .slice ao n' cap := by
    rcases hown'.2 with ⟨hv, _⟩ | ⟨g, cap, cur, fz, hv, _⟩
    · exact ⟨_, _, _, hv⟩
    · exact ⟨_, _, _, hv⟩
  go_wp2
  go_ret2
  refine ⟨rfl, .inr ?_, ?_, (hk1.grown hgrow (Lib.ownsRowF_kind hown)).setCell ⟨b, 1, none⟩ rfl _⟩
  · exact Lib.BuilderAtF.put hB hb2 (bs' := bs ++ Lib.strCells s) (by simpa [Lib.strCells_length] using hown') (by decide)
  · exact (hb1.grown hgrow (by have := hb1.size; omega) (fun k hk => (hown.lt k hk).1)).setCell (p := ⟨b, 1, none⟩) hB _
end Go.Proofs.YtbpfabicampdkaaGreatDoor

namespace Go.Proofs.YtbpfabicampdkaaGreatDoor
open Go.RowKit

/-- the first k parts with by between them -/
def joinTo (by_ : ByteArray) (ss : List ByteArray) : Nat → List UInt8
  | 0 => []
  | k + 1 => joinTo by_ ss k ++ (if 0 < k then by_.data.toList else []) ++ (ss.getD k ByteArray.empty).data.toList
def joinB (by_ : ByteArray) (ss : List ByteArray) : ByteArray := ⟨(joinTo by_ ss ss.length).toArray⟩

theorem joinTo_length (by_ : ByteArray) (ss : List ByteArray) (hy : by_.size ≤ 1048576) (hs : ∀ s ∈ ss, s.size ≤ 1048576) (k : Nat) : (joinTo by_ ss k).length ≤ k * 2097152 := by
  induction k with
  | zero => simp [joinTo]
  | succ k ih =>
    have h1 : (ss.getD k ByteArray.empty).data.toList.length ≤ 1048576 := by
      rw [List.getD_eq_getElem?_getD]
      by_cases hk : k < ss.length
      · rw [List.getElem?_eq_getElem hk]
        exact hs _ (List.getElem_mem hk)
      · rw [List.getElem?_eq_none (by omega)]
        exact Nat.zero_le _
    have h2 : (if 0 < k then by_.data.toList else []).length ≤ 1048576 := by
      split
      · exact hy
      · exact Nat.zero_le _
    unfold joinTo
    rw [List.length_append, List.length_append]
    omega

theorem joinTo_more (by_ : ByteArray) (ss : List ByteArray) (k : Nat) (h0 : 0 < k) (h : k < ss.length) : joinTo by_ ss (k + 1) = joinTo by_ ss k ++ by_.data.toList ++ ss[k].data.toList := by
  rw [joinTo, if_pos h0, List.getD_eq_getElem?_getD, List.getElem?_eq_getElem h]
  rfl
theorem joinTo_first (by_ : ByteArray) (ss : List ByteArray) (k : Nat) (h0 : ¬ 0 < k) (h : k < ss.length) : joinTo by_ ss (k + 1) = joinTo by_ ss k ++ ss[k].data.toList := by
  rw [joinTo, if_neg h0, List.getD_eq_getElem?_getD, List.getElem?_eq_getElem h, List.append_nil]
  rfl

set_option maxHeartbeats 1000000 in
set_option maxRecDepth 100000 in
theorem joinAll_any (by_ : ByteArray) (v : Value) (ss : List ByteArray) (lo hi : Nat) (w : World) (hhi : hi ≤ w.heap.size) (hn : ss.length ≤ 1048576) (hy : by_.size ≤ 1048576) (hs : ∀ s ∈ ss, s.size ≤ 1048576)
    (hr : Row w lo hi v (ss.map Value.string)) :
    Calls Tryz.prog 126 #[.string by_, v] w fun e w' => e = .returned (.string (joinB by_ ss)) ∧ Below w.heap.size w w' := by
  obtain ⟨A, c, rfl, hA⟩ := hr
  rw [List.length_map]
  have HA := Lib.hid hA
  have HS := Lib.hid hs
  clear hA hs
  go_enter Tryz.func126, Tryz.ntmps126
  go_wp2
  go_loopw [10] (fun i wr => ∃ k : Nat, k ≤ ss.length ∧ i = .int .i64 k ∧ Lib.IsBuilderF 197 5 w.heap.size w.heap.size (Lib.byteCells (joinTo by_ ss k)) wr ∧ Below w.heap.size w wr) (fun i _ => ss.length - (intOf i).toNat)
  case atStart => exact ⟨0, Nat.zero_le _, rfl, .inl ⟨Nat.le_refl _, .slice none 0 0, heap_alloc_new w _, ⟨rfl, .inl ⟨rfl, rfl⟩⟩, by simp [Value.ownBlock]⟩, (Below.refl _ _).alloc (Nat.le_refl _) _⟩
  case round =>
    obtain ⟨k, hk, rfl, hB, hb⟩ := hrel
    have hjl := joinTo_length by_ ss hy HS.out k
    by_cases hlt : k < ss.length
    · obtain ⟨a, rfl, _, hab, hca⟩ := HA.out k (.string ss[k]) (by simp [hlt])
      have hca' : wr.cell? (a.add k) = some (.string ss[k]) := (hb.cell (by rw [block_add]; omega)).trans hca
      clear hca
      have hsk : ss[k].size ≤ 1048576 := HS.out _ (List.getElem_mem hlt)
      by_cases h0 : 0 < k
      · have HJ := Lib.hid (joinTo_more by_ ss k h0 hlt)
        go_wp2_with fail
        refine (writeString_any w.heap.size w.heap.size _ by_ _ hB (by rw [Lib.byteCells_length]; omega) hb.size).mono ?_
        rintro e w1 ⟨rfl, hB1, hb1, _⟩
        go_wp2_with fail
        refine (writeString_any w.heap.size w.heap.size _ ss[k] _ hB1 (by rw [List.length_append, Lib.byteCells_length, Lib.strCells_length]; omega) (by have := hb.size; have := hb1.size; omega)).mono ?_
        rintro e w2 ⟨rfl, hB2, hb2, _⟩
        rw [Lib.strCells_eq, Lib.strCells_eq, ← Lib.byteCells_append, ← Lib.byteCells_append] at hB2
        go_wp2
        go_roundw
        case rel => exact ⟨k + 1, by omega, by go_num, by rw [HJ.out]; exact hB2, (hb.trans hb1).trans hb2⟩
        case measure => simp [intOf]; omega
      · have HJ := Lib.hid (joinTo_first by_ ss k h0 hlt)
        go_wp2_with fail
        refine (writeString_any w.heap.size w.heap.size _ ss[k] _ hB (by rw [Lib.byteCells_length]; omega) hb.size).mono ?_
        rintro e w1 ⟨rfl, hB1, hb1, _⟩
        rw [Lib.strCells_eq, ← Lib.byteCells_append] at hB1
        go_wp2
        go_roundw
        case rel => exact ⟨k + 1, by omega, by go_num, by rw [HJ.out]; exact hB1, hb.trans hb1⟩
        case measure => simp [intOf]; omega
    · obtain rfl : k = ss.length := by omega
      go_wp2_with fail
      refine (Tryz.Builder_String_any_k w.heap.size w.heap.size _ _ hB hb.size).mono ?_
      rintro e w1 ⟨rfl, _, hb1, _⟩
      go_wp2
      go_ret
      exact ⟨rfl, hb.trans hb1⟩

theorem app_one (acc : List UInt8) (b : ByteArray) : (⟨acc.toArray⟩ : ByteArray) ++ b = ⟨(acc ++ b.data.toList).toArray⟩ := by
  apply ByteArray.ext
  simp
theorem app_two (acc : List UInt8) (a b : ByteArray) : (⟨acc.toArray⟩ : ByteArray) ++ a ++ b = ⟨(acc ++ a.data.toList ++ b.data.toList).toArray⟩ := by
  rw [app_one, app_one]

set_option maxHeartbeats 400000 in
set_option maxRecDepth 100000 in
theorem implJoin_any (v : Value) (by_ : ByteArray) (ss : List ByteArray) (lo hi : Nat) (w : World) (hhi : hi ≤ w.heap.size) (hn : ss.length ≤ 1048576) (hy : by_.size ≤ 1048576) (hs : ∀ s ∈ ss, s.size ≤ 1048576)
    (hr : Row w lo hi v (ss.map Value.string)) :
    Calls Tryz.prog 68 #[v, .string by_] w fun e w' => e = .returned (.string (joinB by_ ss)) ∧ Below w.heap.size w w' := by
  have HS := Lib.hid hs
  clear hs
  go_enter Tryz.func68, Tryz.ntmps68
  go_wp2_with fail
  refine (joinAll_any by_ v ss lo hi _ hhi hn hy HS.out hr).mono ?_
  rintro e w1 ⟨rfl, hb⟩
  go_wp2
  go_ret
  exact ⟨rfl, hb⟩

end Go.Proofs.YtbpfabicampdkaaGreatDoor

namespace Go.Proofs.YtbpfabicampdkaaGreatDoor
open Go.RowKit

/-- zeros ahead of a text -/
def padB (s : ByteArray) (n : Int) : ByteArray := ⟨(List.replicate (n.toNat - s.size) (48 : UInt8) ++ s.data.toList).toArray⟩

theorem padB_same (s : ByteArray) (n : Int) (h : n ≤ s.size) : padB s n = s := by
  unfold padB
  rw [show n.toNat - s.size = 0 from by omega]
  apply ByteArray.ext
  simp
theorem padB_step (s : ByteArray) (n : Int) (h : (s.size : Int) < n) : padB ((⟨#[48]⟩ : ByteArray) ++ s) n = padB s n := by
  have e : n.toNat - s.size = (n.toNat - (s.size + 1)) + 1 := by omega
  have hsz : ((⟨#[48]⟩ : ByteArray) ++ s).size = s.size + 1 := by rw [ByteArray.size_append]; show 1 + s.size = _; omega
  unfold padB
  rw [hsz, e, List.replicate_succ']
  apply ByteArray.ext
  simp
theorem repeat_zero (c : Nat) : Lib.repeatL [48] c = List.replicate c 48 := by
  induction c with
  | zero => rfl
  | succ c ih => rw [Lib.repeatL, ih, List.replicate_succ]; rfl
/-- so many zeros -/
def zerosB (m : Int) : ByteArray := ⟨(List.replicate m.toNat (48 : UInt8)).toArray⟩
theorem zerosB_size (m : Int) : (zerosB m).size = m.toNat := by
  unfold zerosB
  show (List.replicate m.toNat (48 : UInt8)).toArray.size = _
  simp
def strSize : Value → Nat
  | .string t => t.size
  | _ => 0
theorem size_zero_app (t : ByteArray) : ((⟨#[48]⟩ : ByteArray) ++ t).size = t.size + 1 := by
  rw [ByteArray.size_append]
  show 1 + t.size = _
  omega
theorem repeat_any (m : Int) (w : World) (h0 : 0 ≤ m) (h1 : m ≤ 2000) :
    Calls Tryz.prog 171 #[.string ⟨#[48]⟩, .int .i64 m] w fun e w' => e = .returned (.string (zerosB m)) ∧ Below w.heap.size w w' := by
  obtain ⟨c, rfl⟩ := Int.eq_ofNat_of_zero_le h0
  refine (Tryz.strings_Repeat ⟨#[48]⟩ c w (by omega) (by show 1 * c ≤ _; omega)).mono fun e w' ⟨he, hb⟩ => ⟨?_, hb⟩
  rw [he]
  exact ret_str (by rw [zerosB, Int.toNat_natCast, ← repeat_zero])
theorem join_pad (s : ByteArray) (n : Int) (h : (s.size : Int) < n) : joinB ⟨#[]⟩ [zerosB (n - s.size), s] = padB s n := by
  unfold joinB padB zerosB
  rw [show (n - s.size).toNat = n.toNat - s.size from by omega]
  simp [joinTo]

set_option maxHeartbeats 400000 in
set_option maxRecDepth 100000 in
theorem specPad_any (s : ByteArray) (n : Int) (w : World) (hs : s.size ≤ 1048576) (hn : n ≤ 2000) :
    Calls Tryz.prog 185 #[.string s, .int .i64 n] w fun e w' => e = .returned (.string (padB s n)) ∧ w = w' := by
  go_enter Tryz.func185, Tryz.ntmps185
  go_wp2
  go_loop [0] (fun a => ∃ t : ByteArray, t.size ≤ 1048576 ∧ a = .string t ∧ Hid (padB t n = padB s n)) (fun a => n.toNat - strSize a)
  case atStart => exact ⟨s, hs, rfl, Lib.hid rfl⟩
  case round =>
    obtain ⟨t, ht, rfl, HP⟩ := hrel
    by_cases hlt : (t.size : Int) < n
    · have HS := Lib.hid (padB_step t n hlt)
      have HZ := Lib.hid (size_zero_app t)
      go_wp2
      go_round
      case rel => exact ⟨_, by rw [HZ.out]; omega, rfl, Lib.hid (HS.out.trans HP.out)⟩
      case measure => simp only [strSize, HZ.out]; omega
    · go_wp2
      go_ret
      exact ⟨ret_str (by rw [← HP.out, padB_same t n (by omega)]), rfl⟩

set_option maxHeartbeats 400000 in
set_option maxRecDepth 100000 in
theorem implPad_any (s : ByteArray) (n : Int) (w : World) (hs : s.size ≤ 1048576) (hn : n ≤ 2000) (h63 : -9223372036854775808 ≤ n) :
    Calls Tryz.prog 128 #[.string s, .int .i64 n] w fun e w' => e = .returned (.string (padB s n)) ∧ Below w.heap.size w w' := by
  by_cases hlt : (s.size : Int) < n
  · go_enter Tryz.func128, Tryz.ntmps128
    go_wp2_with fail
    refine (repeat_any _ _ (by omega) (by omega)).mono ?_
    rintro e w1 ⟨rfl, hb1⟩
    have hz1 := hb1.size
    have hzs := Lib.hid (zerosB_size (n - s.size))
    go_wp2_with fail
    refine (joinAll_any ⟨#[]⟩ _ [zerosB (n - s.size), s] w1.heap.size (w1.heap.size + 1) _ (by simp) (by simp) (by decide) ?_ (Row.lit2 _ _ _ _)).mono ?_
    · intro x hx
      rcases List.mem_cons.1 hx with rfl | hx
      · rw [hzs.out]; omega
      · rw [List.mem_singleton.1 hx]; exact hs
    rintro e w2 ⟨rfl, hb2⟩
    go_wp2
    go_ret
    exact ⟨ret_str (join_pad s n hlt), Below.next (hb1.alloc (by omega) _) hb2⟩
  · go_enter Tryz.func128, Tryz.ntmps128
    go_wp2
    go_ret
    exact ⟨ret_str (padB_same s n (by omega)).symm, Below.refl _ _⟩

set_option maxHeartbeats 400000 in
set_option maxRecDepth 100000 in
theorem specPad_big (s : ByteArray) (n : Int) (w : World) (hn : 2000 < n) :
    Calls Tryz.prog 185 #[.string s, .int .i64 n] w fun e w' => e = .returned (.string s) ∧ w = w' := by
  go_enter Tryz.func185, Tryz.ntmps185
  go_wp2
  go_ret
  exact ⟨rfl, rfl⟩
set_option maxHeartbeats 400000 in
set_option maxRecDepth 100000 in
theorem implPad_big (s : ByteArray) (n : Int) (w : World) (_hs : s.size ≤ 1048576) (hn : 2000 < n) :
    Calls Tryz.prog 128 #[.string s, .int .i64 n] w fun e w' => e = .returned (.string s) ∧ w = w' := by
  by_cases hlt : (s.size : Int) < n
  · go_enter Tryz.func128, Tryz.ntmps128
    go_wp2
    go_ret
    exact ⟨rfl, rfl⟩
  · go_enter Tryz.func128, Tryz.ntmps128
    go_wp2
    go_ret
    exact ⟨rfl, rfl⟩

end Go.Proofs.YtbpfabicampdkaaGreatDoor

namespace Go.Proofs.YtbpfabicampdkaaGreatDoor
open Go.RowKit

/-- the decimal text of limbs, the least first -/
def natT : List Int → ByteArray
  | [] => ⟨#[48]⟩
  | [d] => numB d
  | d :: e :: r => natT (e :: r) ++ padB (numB d) 9
/-- what NatText answers -/
def natTextB (a : List Int) : ByteArray := if natOkB a = true then natT a else ⟨#[]⟩
theorem padB_size (s : ByteArray) (n : Nat) (h : s.size ≤ n) (n9 : (9 : Int) ≤ n) : (padB s 9).size ≤ n := by
  unfold padB
  show (List.toArray _).size ≤ n
  rw [List.size_toArray, List.length_append, List.length_replicate]
  have : s.data.toList.length = s.size := rfl
  omega
theorem limb_size {d : Int} (h : 0 ≤ d ∧ d ≤ 999999999) : (numB d).size ≤ 10 := numB_size d 8 (by omega)
theorem natT_size (a : List Int) (h : DigN a) : (natT a).size ≤ 10 * a.length + 1 := by
  induction a with
  | nil => unfold natT; decide
  | cons d r ih =>
    have hd := limb_size (h d (by simp))
    cases r with
    | nil => unfold natT; simp; omega
    | cons e r =>
      have hp := padB_size _ 10 hd (by omega)
      have := ih (fun x hx => h x (by simp at hx ⊢; exact .inr hx))
      unfold natT
      rw [ByteArray.size_append]
      simp only [List.length_cons] at *
      omega
theorem natT_step (a : List Int) (i : Nat) (h : i + 1 < a.length) : natT (a.drop i) = natT (a.drop (i + 1)) ++ padB (numB a[i]) 9 := by
  rw [List.drop_eq_getElem_cons (show i < a.length by omega), List.drop_eq_getElem_cons h]
  rfl
theorem natT_last (a : List Int) (h : 0 < a.length) : natT (a.drop (a.length - 1)) = numB (a[a.length - 1]) := by
  rw [List.drop_eq_getElem_cons (show a.length - 1 < a.length by omega), List.drop_eq_nil_of_le (by omega)]
  rfl

set_option maxHeartbeats 1000000 in
set_option maxRecDepth 100000 in
theorem specNatText_any (v : Value) (a : List Int) (lo hi : Nat) (w : World) (hl : a.length ≤ 1048576) (hhi : hi ≤ w.heap.size) (hr : Row w lo hi v (intsV a)) :
    Calls Tryz.prog 186 #[v] w fun e w' => e = .returned (.string (natTextB a)) ∧ Below w.heap.size w w' := by
  by_cases ok : natOkB a = true
  · have HV := Lib.hid (show natTextB a = natT a by unfold natTextB; rw [if_pos ok])
    have pa := natOk_parts ok
    by_cases h0 : a.length = 0
    · have HA := Lib.hid (show a = [] from List.length_eq_zero_iff.1 h0)
      have H0 := Lib.hid h0
      clear h0
      have hr0 := hr
      obtain ⟨A, c, rfl, _⟩ := hr
      rw [intsV_length] at hr0 ⊢
      go_enter Tryz.func186, Tryz.ntmps186
      go_wp2_with fail
      refine (specNatOk_any _ a lo hi _ hl hr0).mono ?_
      rintro e w' ⟨rfl, rfl⟩
      rw [ok]
      have h0 := H0.out
      go_wp2
      go_ret
      exact ⟨by rw [HV.out, HA.out]; rfl, Below.refl _ _⟩
    · have hr0 := hr
      obtain ⟨A, c, rfl, hA⟩ := hr
      obtain ⟨ad, rfl, hlo, hbh, _⟩ := hA 0 _ (intsV_at a 0 (by omega))
      have HA := Lib.hid hA
      have PA := Lib.hid pa.1
      have h50 := pa.2.1
      have hlim := pa.1 a[a.length - 1] (List.getElem_mem _)
      have hc1 : w.cell? (ad.add (a.length - 1)) = some (.int .i64 a[a.length - 1]) := by
        obtain ⟨_, e, _, _, h⟩ := hA (a.length - 1) _ (intsV_at a (a.length - 1) (by omega))
        cases e
        exact h
      have hix : ((a.length : Int) - 1).toNat = a.length - 1 := by omega
      clear hA
      rw [intsV_length] at hr0 ⊢
      go_enter Tryz.func186, Tryz.ntmps186
      go_wp2_with fail
      refine (specNatOk_any _ a lo hi _ hl hr0).mono ?_
      rintro e w' ⟨rfl, rfl⟩
      rw [ok]
      go_wp2_with fail
      refine (specIntText_any _ _ (by omega) (by omega)).mono ?_
      rintro e w1 ⟨rfl, b1⟩
      have HL := Lib.hid (natT_last a (by omega))
      go_wp2
      go_loopw [3, 4] (fun s i wr => ∃ k : Nat, k < a.length ∧ i = .int .i64 ((k : Int) - 1) ∧ s = .string (natT (a.drop k)) ∧ Below w.heap.size w wr) (fun _ i _ => (intOf i + 1).toNat)
      case atStart => exact ⟨a.length - 1, by omega, by congr 1; omega, by rw [HL.out], b1⟩
      case round =>
        obtain ⟨k, hk, rfl, rfl, hb⟩ := hrel
        by_cases hk0 : 0 < k
        · obtain ⟨j, rfl⟩ : ∃ j, k = j + 1 := ⟨k - 1, by omega⟩
          have hcj : wr.cell? (ad.add j) = some (.int .i64 a[j]) := by
            obtain ⟨_, e, _, _, h⟩ := HA.out j _ (intsV_at a j (by omega))
            cases e
            exact (hb.cell (by rw [block_add]; omega)).trans h
          have hj := PA.out a[j] (List.getElem_mem _)
          have hsz := natT_size (a.drop (j + 1)) (fun x hx => PA.out x (List.mem_of_mem_drop hx))
          have hps := padB_size _ 10 (limb_size hj) (by omega)
          have hls := limb_size hj
          rw [List.length_drop] at hsz
          have HSt := Lib.hid (natT_step a j hk)
          have e1 : (((j + 1 : Nat) : Int) - 1) = (j : Int) := by omega
          rw [e1]
          go_wp2_with fail
          refine (specIntText_any _ _ (by omega) (by omega)).mono ?_
          rintro e w2 ⟨rfl, b2⟩
          go_wp2_with fail
          refine (specPad_any _ _ _ (by omega) (by omega)).mono ?_
          rintro e w' ⟨rfl, rfl⟩
          go_wp2
          exact ⟨⟨j, by omega, rfl, by rw [HSt.out], Below.next hb b2⟩, by simp [intOf]⟩
        · go_wp2
          go_ret
          exact ⟨ret_str (by rw [HV.out, show k = 0 by omega]; rfl), hb⟩
  · have HV := Lib.hid (show natTextB a = ⟨#[]⟩ by unfold natTextB; rw [if_neg ok])
    have okf : natOkB a = false := by simpa using ok
    have hr0 := hr
    obtain ⟨A, c, rfl, _⟩ := hr
    rw [intsV_length] at hr0 ⊢
    go_enter Tryz.func186, Tryz.ntmps186
    go_wp2_with fail
    refine (specNatOk_any _ a lo hi _ hl hr0).mono ?_
    rintro e w' ⟨rfl, rfl⟩
    rw [okf]
    go_wp2
    go_ret
    exact ⟨ret_str HV.out.symm, Below.refl _ _⟩

/-- what NatDigits answers -/
def natDigB (a : List Int) : Int := if natOkB a = true ∧ a.length ≠ 0 then (natTextB a).size else 0
theorem natTextB_size (a : List Int) : (natTextB a).size ≤ 501 := by
  unfold natTextB
  split
  · rename_i h
    have hp := natOk_parts h
    have := natT_size a hp.1
    omega
  · show 0 ≤ 501
    omega
end Go.Proofs.YtbpfabicampdkaaGreatDoor

namespace Go.Proofs.YtbpfabicampdkaaGreatDoor
open Go.RowKit

/-- one byte in one of two ranges -/
def inTwo (lo hi low high : Nat) (c : UInt8) : Bool := decide ((lo ≤ c.toNat ∧ c.toNat ≤ hi) ∨ (low ≤ c.toNat ∧ c.toNat ≤ high))
/-- every byte from place k on is in one of two ranges -/
def allFrom (s : ByteArray) (lo hi low high k : Nat) : Bool := (s.data.toList.drop k).all (inTwo lo hi low high)

theorem allFrom_step (s : ByteArray) (lo hi low high k : Nat) (h : k < s.size) : allFrom s lo hi low high k = (inTwo lo hi low high s[k] && allFrom s lo hi low high (k + 1)) := by
  unfold allFrom
  rw [List.drop_eq_getElem_cons (by simpa using h)]
  rfl
theorem allFrom_end (s : ByteArray) (lo hi low high k : Nat) (h : ¬ k < s.size) : allFrom s lo hi low high k = true := by
  unfold allFrom
  rw [List.drop_eq_nil_of_le (by simp; omega)]
  rfl

theorem allFrom_yes (s : ByteArray) (lo hi low high k : Nat) (h : k < s.size) (hb : (lo ≤ s[k].toNat ∧ s[k].toNat ≤ hi) ∨ (low ≤ s[k].toNat ∧ s[k].toNat ≤ high)) : allFrom s lo hi low high (k + 1) = allFrom s lo hi low high k := by
  rw [allFrom_step s lo hi low high k h]
  simp [inTwo, hb]
theorem allFrom_no (s : ByteArray) (lo hi low high k : Nat) (h : k < s.size) (hb : ¬ ((lo ≤ s[k].toNat ∧ s[k].toNat ≤ hi) ∨ (low ≤ s[k].toNat ∧ s[k].toNat ≤ high))) : allFrom s lo hi low high k = false := by
  rw [allFrom_step s lo hi low high k h]
  simp [inTwo, hb]

set_option maxHeartbeats 400000 in
set_option maxRecDepth 100000 in
theorem l01All_any (s : ByteArray) (lo hi low high : Nat) (w : World) (hs : s.size ≤ maxLen) :
    Calls Tryz.prog 215 #[.string s, .int .u8 lo, .int .u8 hi, .int .u8 low, .int .u8 high] w fun e w' => e = .returned (.bool (allFrom s lo hi low high 0 && decide (0 < s.size))) ∧ w = w' := by
  unfold maxLen at hs
  go_enter Tryz.func215, Tryz.ntmps215
  go_wp2
  go_loop [11] (fun i => ∃ k : Nat, k ≤ s.size ∧ i = .int .i64 k ∧ Hid (allFrom s lo hi low high k = allFrom s lo hi low high 0)) (fun i => s.size - (intOf i).toNat)
  case atStart => exact ⟨0, Nat.zero_le _, rfl, Lib.hid rfl⟩
  case round =>
    obtain ⟨k, hk, rfl, HA⟩ := hrel
    by_cases hlt : k < s.size
    · go_wp2
      all_goals first
        | (go_round
           case rel => exact ⟨k + 1, by omega, by go_num, Lib.hid ((allFrom_yes s lo hi low high k hlt (by omega)).trans HA.out)⟩
           case measure => simp [intOf]; omega)
        | (go_ret
           exact ⟨by rw [← HA.out, allFrom_no s lo hi low high k hlt (by omega)]; rfl, rfl⟩)
    · go_wp2
      go_ret
      exact ⟨by rw [← HA.out, allFrom_end s lo hi low high k hlt]; simp, rfl⟩

/-- what IsDigits, IsWord and IsCode of the document ask -/
def digitsB (s : ByteArray) : Bool := allFrom s 48 57 48 57 0 && decide (0 < s.size)
def wordB (s : ByteArray) : Bool := allFrom s 97 122 48 57 0 && decide (0 < s.size) && decide (s.size ≤ 12) && decide (97 ≤ (s.data.toList.headD 0).toNat)
def codeB (s : ByteArray) : Bool := allFrom s 65 90 65 90 0 && decide (s.size = 3)

set_option maxHeartbeats 400000 in
set_option maxRecDepth 100000 in
theorem specIsDigits_any (s : ByteArray) (w : World) (hs : s.size ≤ maxLen) :
    Calls Tryz.prog 184 #[.string s] w fun e w' => e = .returned (.bool (digitsB s)) ∧ w = w' := by
  go_enter Tryz.func184, Tryz.ntmps184
  go_wp2_with fail
  refine (l01All_any s 48 57 48 57 _ hs).mono ?_
  rintro e w' ⟨rfl, rfl⟩
  go_wp2
  go_ret
  exact ⟨rfl, rfl⟩

/-- a rune in a range -/
def bet (lo hi r : Int) : Bool := decide (lo ≤ r ∧ r ≤ hi)
theorem bet_yes {lo hi r : Int} (h1 : lo ≤ r) (h2 : r ≤ hi) : bet lo hi r = true := by simp [bet, h1, h2]
theorem bet_no {lo hi r : Int} (h : ¬ (lo ≤ r ∧ r ≤ hi)) : bet lo hi r = false := by simpa [bet] using h

set_option maxHeartbeats 400000 in
set_option maxRecDepth 100000 in
theorem isDigit_any (r : Int) (b : Bool) (w : World) (hb : bet 48 57 r = b) :
    Calls Tryz.prog 199 #[.int .i32 r] w fun e w' => e = .returned (.bool b) ∧ w = w' := by
  subst hb
  go_enter Tryz.func199, Tryz.ntmps199
  go_wp2
  all_goals go_ret
  · exact ⟨by simp [bet, *], rfl⟩
  · exact ⟨by simp [bet]; omega, rfl⟩

/-- a byte that is no ASCII is in no range below 128 -/
theorem allFrom_high (s : ByteArray) (lo hi low high k : Nat) (h : k < s.size) (hh : 128 ≤ s[k].toNat) (h1 : hi < 128) (h2 : high < 128) : allFrom s lo hi low high k = false :=
  allFrom_no s lo hi low high k h (by omega)

theorem isEmpty_size (s : ByteArray) : s.toList.isEmpty = decide (s.size = 0) := by
  rw [ByteArray.toList_eq]
  obtain ⟨⟨l⟩⟩ := s
  cases l with
  | nil => rfl
  | cons a r => simp [ByteArray.size]


theorem fin_digits (s : ByteArray) (h : allFrom s 48 57 48 57 0 = true) : (!s.toList.isEmpty) = digitsB s := by
  rw [isEmpty_size, digitsB, h, Bool.true_and, ← decide_not]
  exact decide_eq_decide.2 (by omega)
theorem no_digits (s : ByteArray) (h : allFrom s 48 57 48 57 0 = false) : false = digitsB s := by rw [digitsB, h]; rfl
theorem int_beq (n k : Nat) : ((n : Int) == (k : Int)) = decide (n = k) := by
  by_cases h : n = k
  · subst h; simp
  · rw [decide_eq_false h, beq_eq_false_iff_ne]; omega
theorem fin_code (s : ByteArray) (h : allFrom s 65 90 65 90 0 = true) : ((s.size : Int) == 3) = codeB s := by
  rw [codeB, h, Bool.true_and]
  exact int_beq s.size 3
theorem no_code (s : ByteArray) (h : allFrom s 65 90 65 90 0 = false) : false = codeB s := by rw [codeB, h]; rfl

set_option maxHeartbeats 400000 in
set_option maxRecDepth 100000 in
theorem implIsDigits_any (s : ByteArray) (w : World) :
    Calls Tryz.prog 162 #[.string s] w fun e w' => e = .returned (.bool (digitsB s)) ∧ Below w.heap.size w w' := by
  go_enter Tryz.func162, Tryz.ntmps162
  go_wp2
  go_loopw [] (fun w' => ∃ pos : Nat, w' = w.iter s pos ∧ Hid (allFrom s 48 57 48 57 pos = allFrom s 48 57 48 57 0)) (fun w' => s.size - w'.iterPos w.heap.size)
  case atStart => exact ⟨0, rfl, Lib.hid rfl⟩
  case round =>
    obtain ⟨pos, rfl, HA⟩ := hrel
    by_cases hp : pos < s.size
    · by_cases ha : (s[pos]'hp).toNat < 128
      · have hnx : ∀ ty, (Instr.next (.pointer (some ⟨w.heap.size, 0, none⟩)) true ty).run Tryz.prog (w.iter s pos) = _ := fun ty => run_next_ascii w s pos ty hp ha
        by_cases hd : 48 ≤ (s[pos]'hp).toNat ∧ (s[pos]'hp).toNat ≤ 57
        · go_wp2_with (go_at_call 199; refine (isDigit_any _ true _ (bet_yes (by omega) (by omega))).mono ?_; rintro e w' ⟨rfl, rfl⟩)
          go_roundw
          case rel => exact ⟨pos + 1, rfl, Lib.hid ((allFrom_yes s 48 57 48 57 pos hp (by omega)).trans HA.out)⟩
          case measure => simp; omega
        · go_wp2_with (go_at_call 199; refine (isDigit_any _ false _ (bet_no (by omega))).mono ?_; rintro e w' ⟨rfl, rfl⟩)
          go_ret
          exact ⟨ret_bool (no_digits s (by rw [← HA.out]; exact allFrom_no s 48 57 48 57 pos hp (by omega))), (Below.refl _ _).alloc (Nat.le_refl _) _⟩
      · have hnx : ∀ ty, (Instr.next (.pointer (some ⟨w.heap.size, 0, none⟩)) true ty).run Tryz.prog (w.iter s pos) = _ := fun ty => run_next_any w s pos ty hp
        have hhi := (decode_high s pos hp (by omega)).1
        go_wp2_with (go_at_call 199; refine (isDigit_any _ false _ (bet_no (by omega))).mono ?_; rintro e w' ⟨rfl, rfl⟩)
        go_ret
        exact ⟨ret_bool (no_digits s (by rw [← HA.out]; exact allFrom_no s 48 57 48 57 pos hp (by omega))), (Below.refl _ _).alloc (Nat.le_refl _) _⟩
    · have hnx : ∀ ty, (Instr.next (.pointer (some ⟨w.heap.size, 0, none⟩)) true ty).run Tryz.prog (w.iter s pos) = _ := fun ty => run_next_end w s pos ty hp
      go_wp2
      go_ret
      exact ⟨ret_bool (fin_digits s (by rw [← HA.out]; exact allFrom_end s 48 57 48 57 pos hp)), (Below.refl _ _).alloc (Nat.le_refl _) _⟩


theorem no_code2 (s : ByteArray) (h : (allFrom s 65 90 65 90 0 && decide (0 < s.size)) = false) : false = codeB s := by
  rcases Bool.and_eq_false_iff.1 h with h | h
  · exact no_code s h
  · have h' := of_decide_eq_false h
    rw [codeB, decide_eq_false (show ¬ s.size = 3 by omega), Bool.and_false]
theorem yes_code2 (s : ByteArray) (h : (allFrom s 65 90 65 90 0 && decide (0 < s.size)) = true) : allFrom s 65 90 65 90 0 = true := (Bool.and_eq_true_iff.1 h).1


theorem head_get (s : ByteArray) (h : 0 < s.size) : s.data.toList.headD 0 = s[0] := by
  obtain ⟨⟨l⟩⟩ := s
  cases l with
  | nil => simp [ByteArray.size] at h
  | cons a r => rfl
theorem no_word_all (s : ByteArray) (h : allFrom s 97 122 48 57 0 = false) : false = wordB s := by simp [wordB, h]
theorem no_word_two (s : ByteArray) (h : (allFrom s 97 122 48 57 0 && decide (0 < s.size)) = false) : false = wordB s := by simp only [wordB, h, Bool.false_and]
theorem no_word_len (s : ByteArray) (h : ¬ s.size ≤ 12) : false = wordB s := by simp [wordB, h]
theorem no_word_nil (s : ByteArray) (h : ¬ 0 < s.size) : false = wordB s := by simp [wordB, h]
theorem no_word_head (s : ByteArray) (h0 : 0 < s.size) (h : ¬ 97 ≤ s[0].toNat) : false = wordB s := by
  rw [wordB, head_get s h0, decide_eq_false h, Bool.and_false]
theorem word_head (s : ByteArray) (h0 : 0 < s.size) (h1 : s.size ≤ 12) (h : allFrom s 97 122 48 57 0 = true) : decide (97 ≤ s[0].toNat) = wordB s := by
  rw [wordB, head_get s h0, h, decide_eq_true h0, decide_eq_true h1]
  simp
theorem word_head' (s : ByteArray) (h0 : 0 < s.size) (h1 : s.size ≤ 12) (h : allFrom s 97 122 48 57 0 = true) : decide ((97 : Int) ≤ (s[0].toNat : Int)) = wordB s := by
  rw [← word_head s h0 h1 h]
  exact decide_eq_decide.2 (by omega)
theorem yes_word (s : ByteArray) (h0 : 0 < s.size) (h1 : s.size ≤ 12) (h : allFrom s 97 122 48 57 0 = true) (hh : 97 ≤ s[0].toNat) : true = wordB s := by
  rw [← word_head s h0 h1 h, decide_eq_true hh]


end Go.Proofs.YtbpfabicampdkaaGreatDoor

namespace Go.Proofs.YtbpfabicampdkaaGreatDoor
open Go.RowKit

/-- the number that digits spell -/
def valL : List UInt8 → Int := List.foldl (fun a c => a * 10 + ((c.toNat : Int) - 48)) 0
theorem valL_snoc (l : List UInt8) (c : UInt8) : valL (l ++ [c]) = valL l * 10 + ((c.toNat : Int) - 48) := by
  unfold valL
  rw [List.foldl_append]
  rfl
/-- all are digits -/
def DigL (l : List UInt8) : Prop := ∀ c ∈ l, 48 ≤ c.toNat ∧ c.toNat ≤ 57
theorem fold_ge (l : List UInt8) : ∀ a : Int, DigL l → 0 ≤ a → a ≤ List.foldl (fun a c => a * 10 + ((c.toNat : Int) - 48)) a l := by
  induction l with
  | nil => intro a _ _; exact Int.le_refl _
  | cons c l ih =>
    intro a h h0
    have hc := h c (by simp)
    have h1 := ih (a * 10 + ((c.toNat : Int) - 48)) (fun x hx => h x (by simp [hx])) (by omega)
    rw [List.foldl_cons]
    omega
theorem valL_nonneg (l : List UInt8) (h : DigL l) : 0 ≤ valL l := fold_ge l 0 h (Int.le_refl _)
theorem valL_mono (l r : List UInt8) (h : DigL (l ++ r)) : valL l ≤ valL (l ++ r) := by
  have h0 := valL_nonneg l (fun x hx => h x (by simp [hx]))
  have h1 := fold_ge r (valL l) (fun x hx => h x (by simp [hx])) h0
  unfold valL at h1 ⊢
  rw [List.foldl_append]
  exact h1
theorem allFrom_dig (s : ByteArray) : allFrom s 48 57 48 57 0 = true ↔ DigL s.data.toList := by
  unfold allFrom DigL
  rw [List.drop_zero, List.all_eq_true]
  constructor
  · intro h c hc
    have := h c hc
    simp [inTwo] at this
    omega
  · intro h c hc
    have := h c hc
    simp [inTwo]
    omega
theorem digitsB_iff (s : ByteArray) : digitsB s = true ↔ DigL s.data.toList ∧ s.data.toList ≠ [] := by
  unfold digitsB
  rw [Bool.and_eq_true, allFrom_dig, decide_eq_true_eq]
  constructor
  · intro ⟨h1, h2⟩
    exact ⟨h1, fun e => by have : s.data.toList.length = s.size := rfl; rw [e] at this; simp at this; omega⟩
  · intro ⟨h1, h2⟩
    refine ⟨h1, ?_⟩
    have : s.data.toList.length = s.size := rfl
    have := List.length_pos_iff.2 h2
    omega

theorem take_val (s : ByteArray) (k : Nat) (h : k < s.size) : valL (s.data.toList.take (k + 1)) = valL (s.data.toList.take k) * 10 + ((s[k].toNat : Int) - 48) := by
  rw [List.take_succ_eq_append_getElem (by simpa using h), valL_snoc]
  rfl
theorem dig_at (s : ByteArray) (k : Nat) (h : k < s.size) (hd : DigL s.data.toList) : 48 ≤ s[k].toNat ∧ s[k].toNat ≤ 57 := hd _ (by simp [ByteArray.getElem_eq_getElem_data])
end Go.Proofs.YtbpfabicampdkaaGreatDoor

namespace Go.Proofs.YtbpfabicampdkaaGreatDoor
open Go.RowKit

theorem fold_lt (l : List UInt8) : ∀ a : Int, DigL l → 0 ≤ a → List.foldl (fun a c => a * 10 + ((c.toNat : Int) - 48)) a l + 1 ≤ (a + 1) * 10 ^ l.length := by
  induction l with
  | nil => intro a _ _; simp
  | cons c l ih =>
    intro a h h0
    have hc := h c (by simp)
    have h1 := ih (a * 10 + ((c.toNat : Int) - 48)) (fun x hx => h x (by simp [hx])) (by omega)
    have hp : (0 : Int) ≤ 10 ^ l.length := Int.le_of_lt (Int.pow_pos (by omega))
    have h2 : (a * 10 + ((c.toNat : Int) - 48) + 1) * 10 ^ l.length ≤ ((a + 1) * 10) * 10 ^ l.length := Int.mul_le_mul_of_nonneg_right (by omega) hp
    rw [List.foldl_cons, List.length_cons, Int.pow_succ, Int.mul_comm (10 ^ l.length) 10, ← Int.mul_assoc]
    omega
theorem valL_nine (l : List UInt8) (h : DigL l) (hl : l.length ≤ 9) : valL l ≤ 999999999 := by
  have h1 := fold_lt l 0 h (by omega)
  have h2 : (10 : Int) ^ l.length ≤ 10 ^ 9 := by
    have : (10 : Nat) ^ l.length ≤ 10 ^ 9 := Nat.pow_le_pow_right (by omega) hl
    exact_mod_cast this
  unfold valL
  omega
theorem fold_app (l : List UInt8) : ∀ a : Int, List.foldl (fun a c => a * 10 + ((c.toNat : Int) - 48)) a l = a * 10 ^ l.length + valL l := by
  induction l with
  | nil => intro a; simp [valL]
  | cons c l ih =>
    intro a
    have e : valL (c :: l) = ((c.toNat : Int) - 48) * 10 ^ l.length + valL l := by
      show List.foldl _ (0 * 10 + ((c.toNat : Int) - 48)) l = _
      rw [ih, Int.zero_mul, Int.zero_add]
    rw [List.foldl_cons, ih, e, Int.add_mul, List.length_cons, Int.pow_succ, Int.mul_comm (10 ^ l.length) 10, Int.mul_assoc]
    omega
theorem valL_app (x g : List UInt8) : valL (x ++ g) = valL x * 10 ^ g.length + valL g := by
  show List.foldl _ 0 (x ++ g) = _
  rw [List.foldl_append, fold_app]
  rfl
/-- nine digits at once, from the end -/
def groups (l : List UInt8) (e : Nat) : List Int := if h : e = 0 then [] else valL ((l.take e).drop (e - 9)) :: groups l (e - 9)
termination_by e
decreasing_by omega
theorem groups_zero (l : List UInt8) : groups l 0 = [] := by rw [groups, dif_pos rfl]
theorem groups_pos (l : List UInt8) (e : Nat) (h : e ≠ 0) : groups l e = valL ((l.take e).drop (e - 9)) :: groups l (e - 9) := by rw [groups, dif_neg h]
theorem dig_part (l : List UInt8) (h : DigL l) (a b : Nat) : DigL ((l.take a).drop b) := fun c hc => h c (List.mem_of_mem_take (List.mem_of_mem_drop hc))
theorem groups_val (l : List UInt8) (h : DigL l) (e : Nat) : e ≤ l.length → nval (groups l e) = valL (l.take e) ∧ DigN (groups l e) ∧ (groups l e).length ≤ e := by
  induction e using Nat.strongRecOn with
  | _ e ih =>
    intro he
    by_cases h0 : e = 0
    · subst h0
      rw [groups_zero]
      exact ⟨by simp [nval, valL], (fun x hx => by cases hx), Nat.le_refl _⟩
    · rw [groups_pos l e h0]
      obtain ⟨i1, i2, i3⟩ := ih (e - 9) (by omega) (by omega)
      have hlen : ((l.take e).drop (e - 9)).length = e - (e - 9) := by rw [List.length_drop, List.length_take]; omega
      have hd := dig_part l h e (e - 9)
      have hv := valL_nine _ hd (by omega)
      have hn := valL_nonneg _ hd
      refine ⟨?_, DigN.cons hn hv i2, by simp; omega⟩
      show valL _ + 1000000000 * nval (groups l (e - 9)) = _
      rw [i1]
      have hsplit : l.take e = l.take (e - 9) ++ (l.take e).drop (e - 9) := by
        have h1 := (List.take_append_drop (e - 9) (l.take e)).symm
        rwa [List.take_take, show min (e - 9) e = e - 9 from by omega] at h1
      by_cases h9 : 9 ≤ e
      · conv => rhs; rw [hsplit, valL_app, hlen, show e - (e - 9) = 9 from by omega]
        omega
      · rw [show e - 9 = 0 from by omega]
        simp [valL]
theorem part_step (s : ByteArray) (i from_ : Nat) (h : i < s.size) (hf : from_ ≤ i) : valL ((s.data.toList.take (i + 1)).drop from_) = valL ((s.data.toList.take i).drop from_) * 10 + (s[i].toNat : Int) - 48 := by
  rw [List.take_succ_eq_append_getElem (by simpa using h), List.drop_append_of_le_length (by rw [List.length_take]; simp; omega), valL_snoc]
  show _ * 10 + ((s[i].toNat : Int) - 48) = _
  omega

/-- is s the decimal notation of a nat -/
def decOk (s : ByteArray) : Bool := digitsB s && decide (s.size ≤ 450) && !(decide (1 < s.size) && decide (s.data.toList.headD 0 = 48))
def TNPost (s : ByteArray) (w : World) (e : Ending) (w' : World) : Prop :=
  Below w.heap.size w w' ∧ ((decOk s = true ∧ ∃ v, e = .returned (.tuple #[v, .bool true]) ∧ w'.ownsRow w.heap.size 3 1 v (limbs (valL s.data.toList).toNat).length (intsV (limbs (valL s.data.toList).toNat))) ∨
    (decOk s = false ∧ e = .returned (.tuple #[.slice none 0 0, .bool false])))

/-- what the outer loop of TextNat knows at its head -/
def TextRel (s : ByteArray) (w : World) (v e : Value) (wr : World) : Prop :=
  ∃ (en : Int) (out : List Int), -9 ≤ en ∧ en ≤ s.size ∧ e = .int .i64 en ∧ out ++ groups s.data.toList en.toNat = groups s.data.toList s.size ∧
    wr.ownsRow w.heap.size 3 1 v out.length (intsV out) ∧ Below w.heap.size w wr
theorem text_step {s : ByteArray} {w w1 : World} {v1 : Value} {out : List Int} {m : Int} {k : Nat} (hk : k ≤ s.size) (h0 : 0 < k) (e : out ++ [m] ++ groups s.data.toList (k - 9) = groups s.data.toList s.size)
    (ho : w1.ownsRow w.heap.size 3 1 v1 (out.length + 1) (intsV out ++ [.int .i64 m])) (hb : Below w.heap.size w w1) : TextRel s w v1 (.int .i64 ((k : Int) - 9)) w1 := by
  refine ⟨(k : Int) - 9, out ++ [m], by omega, by omega, rfl, ?_, by simpa [intsV] using ho, hb⟩
  rw [show ((k : Int) - 9).toNat = k - 9 from by omega]
  exact e
theorem take_full (t : ByteArray) : t.data.toList.take t.size = t.data.toList := List.take_of_length_le (Nat.le_refl _)

set_option maxHeartbeats 4000000 in
set_option maxRecDepth 100000 in
theorem specTextNat_goodMany (s : ByteArray) (w : World) (h0 : 0 < s.size) (h450 : s.size ≤ 450) (hd : digitsB s = true) (h1 : 1 < s.size) (hlead : ¬ s[0].toNat = 48) (hok : decOk s = true) :
    Calls Tryz.prog 143 #[.string s] w (TNPost s w) := by
    obtain ⟨i0, hi, hz0, hz1, hz2⟩ := info_parts intInfo
    have HD := Lib.hid ((digitsB_iff s).1 hd).1
    have HOK := Lib.hid hok
    clear hok
    have HM := Lib.hid (fun W : World => specIsDigits_any s W (by unfold maxLen; omega))
    have hb48 : ((s[0].toNat : Int) == 48) = false := by rw [beq_eq_false_iff_ne]; omega
    clear hlead
    go_enter Tryz.func143, Tryz.ntmps143
    go_wp2_with fail
    refine (HM.out _).mono ?_
    rintro e w' ⟨rfl, rfl⟩
    rw [hd]
    go_wp2
    go_loopw [4, 5] (fun v e wr => TextRel s w v e wr) (fun _ e _ => (intOf e).toNat)
    case atStart => exact ⟨s.size, [], by omega, Int.le_refl _, rfl, rfl, ⟨rfl, .inr ⟨w.heap.size, 0, #[], rfl, Nat.le_refl _, heap_alloc_new w _, Nat.le_refl _, Nat.zero_le _, rfl, rfl⟩⟩, (Below.refl _ _).alloc (Nat.le_refl _) _⟩
    case round =>
      obtain ⟨e, out, he0, he1, rfl, hev, hown, hb1⟩ := hrel
      obtain ⟨wo, rfl⟩ : ∃ wo : World, wo = wr := ⟨_, rfl⟩
      have HE := Lib.hid hev
      have hol : out.length ≤ 450 := by
        have e1 := congrArg List.length hev
        have e2 := (groups_val s.data.toList HD.out s.size (Nat.le_refl _)).2.2
        rw [List.length_append] at e1
        omega
      clear hev
      by_cases hpos : 0 < e
      · obtain ⟨en, rfl⟩ := Int.eq_ofNat_of_zero_le (show 0 ≤ e by omega)
        have HG : Hid (out ++ valL ((s.data.toList.take en).drop (en - 9)) :: groups s.data.toList (en - 9) = groups s.data.toList s.size) := Lib.hid (by have e1 := HE.out; rw [Int.toNat_natCast, groups_pos _ en (by omega)] at e1; exact e1)
        by_cases h9 : (en : Int) - 9 < 0
        · have hfrom : en - 9 = 0 := by omega
          have hen : en ≤ s.size := by omega
          go_wp2
          go_loop [7, 8] (fun n i => ∃ (k : Nat) (m : Int), 0 ≤ k ∧ k ≤ en ∧ i = .int .i64 k ∧ n = .int .i64 m ∧ 0 ≤ m ∧ m ≤ 999999999 ∧ Hid (m = valL ((s.data.toList.take k).drop 0))) (fun _ i => en - (intOf i).toNat)
          case atStart => exact ⟨0, 0, Nat.le_refl _, by omega, rfl, rfl, by omega, by omega, Lib.hid (by rw [List.drop_of_length_le (by rw [List.length_take]; omega)]; rfl)⟩
          case round =>
            obtain ⟨k, m, hk0, hk1, rfl, rfl, hm0, hm1, HM⟩ := hrel
            by_cases hlt : k < en
            · have hks : k < s.size := by omega
              have hdg := dig_at s k hks HD.out
              have HP := Lib.hid (part_step s k 0 hks hk0)
              have hmb : m * 10 + (s[k].toNat : Int) - 48 ≤ 999999999 ∧ 0 ≤ m * 10 + (s[k].toNat : Int) - 48 := by
                have h1 := valL_nine ((s.data.toList.take (k + 1)).drop 0) (dig_part _ HD.out _ _) (by rw [List.length_drop, List.length_take]; omega)
                have h2 := HP.out
                have h3 := HM.out
                omega
              go_wp2
              go_round
              case rel => exact ⟨k + 1, m * 10 + (s[k].toNat : Int) - 48, by omega, by omega, by go_num, rfl, hmb.2, hmb.1, Lib.hid (by rw [HP.out, HM.out])⟩
              case measure => simp [intOf]; omega
            · obtain rfl : k = en := by omega
              have HG2 : Hid (out ++ [m] ++ groups s.data.toList (k - 9) = groups s.data.toList s.size) := Lib.hid (by rw [List.append_assoc, HM.out, ← HG.out, hfrom]; rfl)
              go_wp2_with (at_builtin; refine wpList_append_own _ rfl (.tmp 52) (.tmp 54) 28 rfl w.heap.size 3 i0 (.int .i64 0) 1 8 Tryz.underlying28 hi hz0 hz1 hz2 rfl (by decide) _ _ _ rfl (own_alloc hown _) ⟨wo.heap.size, 0, none⟩ 1 1 [.int .i64 m] rfl rfl (one_new _ _ _) ?c2 ?c3 ?c4 ?c5 ?_)
              case c2 => first | (intro u hu; simp at hu; subst hu; rfl) | rfl
              case c3 => unfold maxLen; omega
              case c4 => omega
              case c5 => have := hb1.size; simp; omega
              intro v1 w1 hown1 hg1 _
              have hb2 := below_push hb1 (Nat.le_refl _) hown hg1
              go_wp2
              exact ⟨text_step (by omega) (by omega) HG2.out hown1 hb2, by simp [intOf]; omega⟩
        · obtain ⟨fr, Hfr⟩ : ∃ fr : Nat, Hid (fr = en - 9) := ⟨_, Lib.hid rfl⟩
          have hfr9 : (en : Int) - 9 = (fr : Int) := by have := Hfr.out; omega
          have hfre : fr + 9 = en := by have := Hfr.out; omega
          have hen : en ≤ s.size := by omega
          go_wp2
          go_loop [7, 8] (fun n i => ∃ (k : Nat) (m : Int), fr ≤ k ∧ k ≤ en ∧ i = .int .i64 k ∧ n = .int .i64 m ∧ 0 ≤ m ∧ m ≤ 999999999 ∧ Hid (m = valL ((s.data.toList.take k).drop fr))) (fun _ i => en - (intOf i).toNat)
          case atStart => exact ⟨fr, 0, Nat.le_refl _, by omega, rfl, rfl, by omega, by omega, Lib.hid (by rw [List.drop_of_length_le (by rw [List.length_take]; omega)]; rfl)⟩
          case round =>
            obtain ⟨k, m, hk0, hk1, rfl, rfl, hm0, hm1, HM⟩ := hrel
            by_cases hlt : k < en
            · have hks : k < s.size := by omega
              have hdg := dig_at s k hks HD.out
              have HP := Lib.hid (part_step s k fr hks hk0)
              have hmb : m * 10 + (s[k].toNat : Int) - 48 ≤ 999999999 ∧ 0 ≤ m * 10 + (s[k].toNat : Int) - 48 := by
                have h1 := valL_nine ((s.data.toList.take (k + 1)).drop fr) (dig_part _ HD.out _ _) (by rw [List.length_drop, List.length_take]; omega)
                have h2 := HP.out
                have h3 := HM.out
                omega
              go_wp2
              go_round
              case rel => exact ⟨k + 1, m * 10 + (s[k].toNat : Int) - 48, by omega, by omega, by go_num, rfl, hmb.2, hmb.1, Lib.hid (by rw [HP.out, HM.out])⟩
              case measure => simp [intOf]; omega
            · obtain rfl : k = en := by omega
              have HG2 : Hid (out ++ [m] ++ groups s.data.toList (k - 9) = groups s.data.toList s.size) := Lib.hid (by rw [List.append_assoc, HM.out, ← HG.out, Hfr.out]; rfl)
              go_wp2_with (at_builtin; refine wpList_append_own _ rfl (.tmp 52) (.tmp 54) 28 rfl w.heap.size 3 i0 (.int .i64 0) 1 8 Tryz.underlying28 hi hz0 hz1 hz2 rfl (by decide) _ _ _ rfl (own_alloc hown _) ⟨wo.heap.size, 0, none⟩ 1 1 [.int .i64 m] rfl rfl (one_new _ _ _) ?c2 ?c3 ?c4 ?c5 ?_)
              case c2 => first | (intro u hu; simp at hu; subst hu; rfl) | rfl
              case c3 => unfold maxLen; omega
              case c4 => omega
              case c5 => have := hb1.size; simp; omega
              intro v1 w1 hown1 hg1 _
              have hb2 := below_push hb1 (Nat.le_refl _) hown hg1
              go_wp2
              exact ⟨(by have h := text_step (by omega) (by omega) HG2.out hown1 hb2; rwa [hfr9] at h), by simp [intOf]; omega⟩
      · have HF : Hid (out = groups s.data.toList s.size) := Lib.hid (by have e1 := HE.out; rwa [show e.toNat = 0 from by omega, groups_zero, List.append_nil] at e1)
        have hv := groups_val s.data.toList HD.out s.size (Nat.le_refl _)
        rw [take_full] at hv
        have HT : Hid (trimL out = limbs (valL s.data.toList).toNat) := Lib.hid (by rw [HF.out, trim_limbs _ hv.2.1, hv.1])
        clear hv
        go_wp2_with fail
        refine (specTrim_any _ out _ _ (by omega) hown).mono ?_
        rintro e w' ⟨rfl, v2, rfl, o2⟩
        rw [HT.out] at o2
        go_wp2
        go_ret2
        exact ⟨hb1, .inl ⟨HOK.out, v2, rfl, o2⟩⟩
set_option maxHeartbeats 4000000 in
set_option maxRecDepth 100000 in
theorem specTextNat_goodOne (s : ByteArray) (w : World) (h0 : 0 < s.size) (h450 : s.size ≤ 450) (hd : digitsB s = true) (h1 : ¬ 1 < s.size) (hok : decOk s = true) :
    Calls Tryz.prog 143 #[.string s] w (TNPost s w) := by
    obtain ⟨i0, hi, hz0, hz1, hz2⟩ := info_parts intInfo
    have HD := Lib.hid ((digitsB_iff s).1 hd).1
    have HOK := Lib.hid hok
    clear hok
    have HM := Lib.hid (fun W : World => specIsDigits_any s W (by unfold maxLen; omega))
    go_enter Tryz.func143, Tryz.ntmps143
    go_wp2_with fail
    refine (HM.out _).mono ?_
    rintro e w' ⟨rfl, rfl⟩
    rw [hd]
    go_wp2
    go_loopw [4, 5] (fun v e wr => TextRel s w v e wr) (fun _ e _ => (intOf e).toNat)
    case atStart => exact ⟨s.size, [], by omega, Int.le_refl _, rfl, rfl, ⟨rfl, .inr ⟨w.heap.size, 0, #[], rfl, Nat.le_refl _, heap_alloc_new w _, Nat.le_refl _, Nat.zero_le _, rfl, rfl⟩⟩, (Below.refl _ _).alloc (Nat.le_refl _) _⟩
    case round =>
      obtain ⟨e, out, he0, he1, rfl, hev, hown, hb1⟩ := hrel
      obtain ⟨wo, rfl⟩ : ∃ wo : World, wo = wr := ⟨_, rfl⟩
      have HE := Lib.hid hev
      have hol : out.length ≤ 450 := by
        have e1 := congrArg List.length hev
        have e2 := (groups_val s.data.toList HD.out s.size (Nat.le_refl _)).2.2
        rw [List.length_append] at e1
        omega
      clear hev
      by_cases hpos : 0 < e
      · obtain ⟨en, rfl⟩ := Int.eq_ofNat_of_zero_le (show 0 ≤ e by omega)
        have HG : Hid (out ++ valL ((s.data.toList.take en).drop (en - 9)) :: groups s.data.toList (en - 9) = groups s.data.toList s.size) := Lib.hid (by have e1 := HE.out; rw [Int.toNat_natCast, groups_pos _ en (by omega)] at e1; exact e1)
        by_cases h9 : (en : Int) - 9 < 0
        · have hfrom : en - 9 = 0 := by omega
          have hen : en ≤ s.size := by omega
          go_wp2
          go_loop [7, 8] (fun n i => ∃ (k : Nat) (m : Int), 0 ≤ k ∧ k ≤ en ∧ i = .int .i64 k ∧ n = .int .i64 m ∧ 0 ≤ m ∧ m ≤ 999999999 ∧ Hid (m = valL ((s.data.toList.take k).drop 0))) (fun _ i => en - (intOf i).toNat)
          case atStart => exact ⟨0, 0, Nat.le_refl _, by omega, rfl, rfl, by omega, by omega, Lib.hid (by rw [List.drop_of_length_le (by rw [List.length_take]; omega)]; rfl)⟩
          case round =>
            obtain ⟨k, m, hk0, hk1, rfl, rfl, hm0, hm1, HM⟩ := hrel
            by_cases hlt : k < en
            · have hks : k < s.size := by omega
              have hdg := dig_at s k hks HD.out
              have HP := Lib.hid (part_step s k 0 hks hk0)
              have hmb : m * 10 + (s[k].toNat : Int) - 48 ≤ 999999999 ∧ 0 ≤ m * 10 + (s[k].toNat : Int) - 48 := by
                have h1 := valL_nine ((s.data.toList.take (k + 1)).drop 0) (dig_part _ HD.out _ _) (by rw [List.length_drop, List.length_take]; omega)
                have h2 := HP.out
                have h3 := HM.out
                omega
              go_wp2
              go_round
              case rel => exact ⟨k + 1, m * 10 + (s[k].toNat : Int) - 48, by omega, by omega, by go_num, rfl, hmb.2, hmb.1, Lib.hid (by rw [HP.out, HM.out])⟩
              case measure => simp [intOf]; omega
            · obtain rfl : k = en := by omega
              have HG2 : Hid (out ++ [m] ++ groups s.data.toList (k - 9) = groups s.data.toList s.size) := Lib.hid (by rw [List.append_assoc, HM.out, ← HG.out, hfrom]; rfl)
              go_wp2_with (at_builtin; refine wpList_append_own _ rfl (.tmp 52) (.tmp 54) 28 rfl w.heap.size 3 i0 (.int .i64 0) 1 8 Tryz.underlying28 hi hz0 hz1 hz2 rfl (by decide) _ _ _ rfl (own_alloc hown _) ⟨wo.heap.size, 0, none⟩ 1 1 [.int .i64 m] rfl rfl (one_new _ _ _) ?c2 ?c3 ?c4 ?c5 ?_)
              case c2 => first | (intro u hu; simp at hu; subst hu; rfl) | rfl
              case c3 => unfold maxLen; omega
              case c4 => omega
              case c5 => have := hb1.size; simp; omega
              intro v1 w1 hown1 hg1 _
              have hb2 := below_push hb1 (Nat.le_refl _) hown hg1
              go_wp2
              exact ⟨text_step (by omega) (by omega) HG2.out hown1 hb2, by simp [intOf]; omega⟩
        · exfalso; omega
      · have HF : Hid (out = groups s.data.toList s.size) := Lib.hid (by have e1 := HE.out; rwa [show e.toNat = 0 from by omega, groups_zero, List.append_nil] at e1)
        have hv := groups_val s.data.toList HD.out s.size (Nat.le_refl _)
        rw [take_full] at hv
        have HT : Hid (trimL out = limbs (valL s.data.toList).toNat) := Lib.hid (by rw [HF.out, trim_limbs _ hv.2.1, hv.1])
        clear hv
        go_wp2_with fail
        refine (specTrim_any _ out _ _ (by omega) hown).mono ?_
        rintro e w' ⟨rfl, v2, rfl, o2⟩
        rw [HT.out] at o2
        go_wp2
        go_ret2
        exact ⟨hb1, .inl ⟨HOK.out, v2, rfl, o2⟩⟩

theorem decOk_long (s : ByteArray) (h : ¬ s.size ≤ 450) : decOk s = false := by unfold decOk; rw [decide_eq_false h, Bool.and_false, Bool.false_and]
theorem decOk_dig (s : ByteArray) (h : digitsB s = false) : decOk s = false := by unfold decOk; rw [h, Bool.false_and, Bool.false_and]
theorem decOk_lead (s : ByteArray) (h1 : 1 < s.size) (h : s[0].toNat = 48) : decOk s = false := by
  have e : s.data.toList.headD 0 = 48 := by rw [head_get s (by omega)]; exact UInt8.toNat_inj.1 h
  unfold decOk
  rw [decide_eq_true h1, decide_eq_true e]
  simp
theorem decOk_yes (s : ByteArray) (hd : digitsB s = true) (h4 : s.size ≤ 450) (hl : ∀ h0 : 0 < s.size, ¬ (1 < s.size ∧ s[0].toNat = 48)) (h0 : 0 < s.size) : decOk s = true := by
  unfold decOk
  rw [hd, decide_eq_true h4]
  by_cases h1 : 1 < s.size
  · have e : ¬ s.data.toList.headD 0 = 48 := by
      rw [head_get s h0]
      intro e
      exact hl h0 ⟨h1, by rw [e]; rfl⟩
    rw [decide_eq_false e, Bool.and_false]
    rfl
  · rw [decide_eq_false h1]
    rfl

set_option maxHeartbeats 400000 in
set_option maxRecDepth 100000 in
theorem specTextNat_bad (s : ByteArray) (w : World) (hs : s.size ≤ 1048576) (hbad : decOk s = false) (hc : digitsB s = false ∨ (digitsB s = true ∧ 450 < s.size) ∨ (digitsB s = true ∧ s.size ≤ 450 ∧ ∃ h1 : 1 < s.size, s[0].toNat = 48)) :
    Calls Tryz.prog 143 #[.string s] w (TNPost s w) := by
  have HB := Lib.hid hbad
  have HM := Lib.hid (fun W : World => specIsDigits_any s W (by unfold maxLen; omega))
  clear hbad
  rcases hc with hd | ⟨hd, hl⟩ | ⟨hd, hl, h1, h48⟩
  · go_enter Tryz.func143, Tryz.ntmps143
    go_wp2_with fail
    refine (HM.out _).mono ?_
    rintro e w' ⟨rfl, rfl⟩
    rw [hd]
    go_wp2
    go_ret2
    exact ⟨Below.refl _ _, .inr ⟨HB.out, rfl⟩⟩
  · go_enter Tryz.func143, Tryz.ntmps143
    go_wp2_with fail
    refine (HM.out _).mono ?_
    rintro e w' ⟨rfl, rfl⟩
    rw [hd]
    go_wp2
    go_ret2
    exact ⟨Below.refl _ _, .inr ⟨HB.out, rfl⟩⟩
  · have hb48 : ((s[0].toNat : Int) == 48) = true := by rw [beq_iff_eq]; omega
    clear h48
    go_enter Tryz.func143, Tryz.ntmps143
    go_wp2_with fail
    refine (HM.out _).mono ?_
    rintro e w' ⟨rfl, rfl⟩
    rw [hd]
    go_wp2
    go_ret2
    exact ⟨Below.refl _ _, .inr ⟨HB.out, rfl⟩⟩

theorem specTextNat_any (s : ByteArray) (w : World) (hs : s.size ≤ 1048576) : Calls Tryz.prog 143 #[.string s] w (TNPost s w) := by
  by_cases hd : digitsB s = true
  · have h0 : 0 < s.size := by
      have h := ((digitsB_iff s).1 hd).2
      exact List.length_pos_iff.2 h
    by_cases h4 : s.size ≤ 450
    · by_cases h1 : 1 < s.size
      · by_cases h48 : s[0].toNat = 48
        · exact specTextNat_bad s w hs (decOk_lead s h1 h48) (.inr (.inr ⟨hd, h4, h1, h48⟩))
        · exact specTextNat_goodMany s w h0 h4 hd h1 h48 (decOk_yes s hd h4 (fun _ h => h48 h.2) h0)
      · exact specTextNat_goodOne s w h0 h4 hd h1 (decOk_yes s hd h4 (fun _ h => h1 h.1) h0)
    · exact specTextNat_bad s w hs (decOk_long s h4) (.inr (.inl ⟨hd, by omega⟩))
  · have hd' : digitsB s = false := by simpa using hd
    exact specTextNat_bad s w hs (decOk_dig s hd') (.inl hd')

theorem limbs_len (k : Nat) : ∀ n : Nat, n < 1000000000 ^ k → (limbs n).length ≤ k := by
  induction k with
  | zero => intro n h; rw [show n = 0 by simp at h; exact h, limbs_none]; simp
  | succ k ih =>
    intro n h
    by_cases h0 : n = 0
    · rw [h0, limbs_none]; simp
    · rw [limbs_pos n h0, List.length_cons]
      have := ih (n / 1000000000) (by rw [Nat.pow_succ] at h; exact Nat.div_lt_of_lt_mul (by rw [Nat.mul_comm]; exact h))
      omega
theorem limbs_of_len (n : Int) (h : n ≤ 9223372036854775807) : (limbs n.toNat).length ≤ 3 := limbs_len 3 _ (by
  have : n.toNat ≤ 9223372036854775807 := by omega
  exact Nat.lt_of_le_of_lt this (by decide))
theorem trimL_le (xs : List Int) : (trimL xs).length ≤ xs.length := by
  induction xs with
  | nil => simp [trimL]
  | cons d r ih => unfold trimL; split <;> simp <;> omega
/-- what TextNat answers -/
def tnR (s : ByteArray) : List Int := if decOk s = true then limbs (valL s.data.toList).toNat else []
theorem tnR_len (s : ByteArray) : (tnR s).length ≤ 450 := by
  unfold tnR
  split
  · rename_i h
    have hd : digitsB s = true := by
      by_cases hd : digitsB s = true
      · exact hd
      · rw [decOk_dig s (by simpa using hd)] at h; exact absurd h (by decide)
    have h4 : s.size ≤ 450 := by
      by_cases h4 : s.size ≤ 450
      · exact h4
      · rw [decOk_long s h4] at h; exact absurd h (by decide)
    have hv := groups_val s.data.toList ((digitsB_iff s).1 hd).1 s.size (Nat.le_refl _)
    rw [take_full] at hv
    rw [← hv.1, ← trim_limbs _ hv.2.1]
    exact Nat.le_trans (trimL_le _) (Nat.le_trans hv.2.2 h4)
  · simp
/-- how TextNat ends: a new row, and whether the text is a number -/
def TNNew (s : ByteArray) (w : World) (e : Ending) (w' : World) : Prop :=
  ∃ v, e = .returned (.tuple #[v, .bool (decOk s)]) ∧ w'.ownsRow w.heap.size 3 1 v (tnR s).length (intsV (tnR s)) ∧ Below w.heap.size w w'
theorem TNPost.new {s : ByteArray} {w w' : World} {e : Ending} (h : TNPost s w e w') : TNNew s w e w' := by
  obtain ⟨hb, ⟨ho, v, rfl, hv⟩ | ⟨ho, rfl⟩⟩ := h
  · refine ⟨v, by rw [ho], ?_, hb⟩
    rw [show tnR s = limbs (valL s.data.toList).toNat by unfold tnR; rw [if_pos ho]]
    exact hv
  · refine ⟨_, by rw [ho], ?_, hb⟩
    rw [show tnR s = [] by unfold tnR; rw [ho]; rfl]
    exact nil_own
end Go.Proofs.YtbpfabicampdkaaGreatDoor

namespace Go.Proofs.YtbpfabicampdkaaGreatDoor
open Go.RowKit

theorem valL_dec (u : Nat) : valL (Lib.decDigits u) = u := by
  induction u using Nat.strongRecOn with
  | _ u ih =>
    by_cases h : u < 10
    · rw [dec_small u h]
      show (0 : Int) * 10 + (((UInt8.ofNat (48 + u)).toNat : Int) - 48) = u
      rw [UInt8.toNat_ofNat']
      omega
    · rw [dec_big u h, valL_snoc, ih (u / 10) (by omega), UInt8.toNat_ofNat']
      omega
theorem dig_dec (u : Nat) : DigL (Lib.decDigits u) ∧ Lib.decDigits u ≠ [] := by
  induction u using Nat.strongRecOn with
  | _ u ih =>
    by_cases h : u < 10
    · rw [dec_small u h]
      refine ⟨fun c hc => ?_, by simp⟩
      rw [List.mem_singleton.1 hc, UInt8.toNat_ofNat']
      omega
    · rw [dec_big u h]
      refine ⟨fun c hc => ?_, by simp⟩
      rcases List.mem_append.1 hc with hc | hc
      · exact (ih (u / 10) (by omega)).1 c hc
      · rw [List.mem_singleton.1 hc, UInt8.toNat_ofNat']
        omega
/-- s is the numeral of the int n -/
def IsNum (s : ByteArray) (n : Int) : Prop := numB n = s ∧ -9223372036854775808 ≤ n ∧ n ≤ 9223372036854775807

/-- without a leading '-' -/
def bareL (l : List UInt8) : List UInt8 := if l.headD 0 = 45 then l.tail else l
theorem isNum_parts (s : ByteArray) (n : Int) (h : IsNum s n) : DigL (bareL s.data.toList) ∧ bareL s.data.toList ≠ [] ∧ valL (bareL s.data.toList) = n.natAbs ∧ ((s.data.toList.headD 0 = 45) ↔ n < 0) ∧ (bareL s.data.toList).length ≤ 19 := by
  obtain ⟨rfl, h1, h2⟩ := h
  have hsz := numB_size n 18 (by omega)
  have e : (numB n).data.toList = Lib.itoa n := rfl
  have hsz' : (Lib.itoa n).length ≤ 20 := hsz
  rw [e]
  unfold Lib.itoa at hsz' ⊢
  by_cases hn : n < 0
  · rw [if_pos hn] at hsz' ⊢
    have hb : bareL (45 :: Lib.decDigits n.natAbs) = Lib.decDigits n.natAbs := rfl
    rw [hb]
    exact ⟨(dig_dec _).1, (dig_dec _).2, valL_dec _, by simp [hn], by simp at hsz'; omega⟩
  · rw [if_neg hn] at hsz' ⊢
    have hd := dig_dec n.toNat
    have hh : ¬ (Lib.decDigits n.toNat).headD 0 = 45 := by
      intro e2
      cases hc : Lib.decDigits n.toNat with
      | nil => exact hd.2 hc
      | cons c r =>
        rw [hc] at e2
        have h3 := hd.1 c (by rw [hc]; simp)
        have : c = 45 := e2
        rw [this] at h3
        simp at h3
    have hb : bareL (Lib.decDigits n.toNat) = Lib.decDigits n.toNat := by unfold bareL; rw [if_neg hh]
    rw [hb]
    refine ⟨hd.1, hd.2, by rw [valL_dec]; omega, ⟨fun e => absurd e hh, fun e => absurd e hn⟩, ?_⟩
    have h4 : ∀ (k u : Nat), u < 10 ^ (k + 1) → (Lib.decDigits u).length ≤ k + 1 := by
      intro k
      induction k with
      | zero => intro u hu; rw [dec_small u (by simpa using hu)]; simp
      | succ k ih =>
        intro u hu
        by_cases hs : u < 10
        · rw [dec_small u hs]; simp
        · rw [dec_big u hs, List.length_append]
          have := ih (u / 10) (by rw [Nat.pow_succ] at hu; omega)
          simp; omega
    exact h4 18 _ (by omega)
theorem isNum_inj (s : ByteArray) (n m : Int) (h : IsNum s n) (k : IsNum s m) : n = m := by
  obtain ⟨_, _, a1, a2, _⟩ := isNum_parts s n h
  obtain ⟨_, _, b1, b2, _⟩ := isNum_parts s m k
  rw [a1] at b1
  rw [a2] at b2
  omega

/-- what TextInt answers -/
def TIPost (s : ByteArray) (w : World) (e : Ending) (w' : World) : Prop :=
  Below w.heap.size w w' ∧ ((∃ n, IsNum s n ∧ e = .returned (.tuple #[.int .i64 n, .bool true])) ∨ ((∀ n, ¬ IsNum s n) ∧ e = .returned (.tuple #[.int .i64 0, .bool false])))

theorem wrap_step (a c : Int) : wrap64 (wrap64 (wrap64 a * 10) + c) = wrap64 (a * 10 + c) := by unfold wrap64; omega

set_option maxHeartbeats 400000 in
set_option maxRecDepth 100000 in
theorem digitsValue_any (s : ByteArray) (w : World) (hd : DigL s.data.toList) :
    Calls Tryz.prog 163 #[.string s] w fun e w' => e = .returned (.int .i64 (wrap64 (valL s.data.toList))) ∧ Below w.heap.size w w' := by
  have HD := Lib.hid hd
  clear hd
  go_enter Tryz.func163, Tryz.ntmps163
  go_wp2
  go_loopw [3] (fun a w' => ∃ (pos : Nat) (v : Int), pos ≤ s.size ∧ w' = w.iter s pos ∧ a = .int .i64 (wrap64 v) ∧ Hid (v = valL (s.data.toList.take pos))) (fun _ w' => s.size - w'.iterPos w.heap.size)
  case atStart => exact ⟨0, 0, Nat.zero_le _, rfl, by rw [show wrap64 0 = 0 from by unfold wrap64; omega], Lib.hid rfl⟩
  case round =>
    obtain ⟨pos, v, hpl, rfl, rfl, HV⟩ := hrel
    by_cases hp : pos < s.size
    · have hdg := dig_at s pos hp HD.out
      have hnx : ∀ ty, (Instr.next (.pointer (some ⟨w.heap.size, 0, none⟩)) true ty).run Tryz.prog (w.iter s pos) = _ := fun ty => run_next_ascii w s pos ty hp (by omega)
      have HT := Lib.hid (take_val s pos hp)
      go_wp2
      go_roundw
      case rel => exact ⟨pos + 1, v * 10 + ((s[pos].toNat : Int) - 48), by omega, rfl, by rw [wrap_step], Lib.hid (by rw [HT.out, HV.out])⟩
      case measure => simp; omega
    · have hnx : ∀ ty, (Instr.next (.pointer (some ⟨w.heap.size, 0, none⟩)) true ty).run Tryz.prog (w.iter s pos) = _ := fun ty => run_next_end w s pos ty hp
      go_wp2
      go_ret
      exact ⟨ret_int (by rw [HV.out, List.take_of_length_le (by simp; omega)]), (Below.refl _ _).alloc (Nat.le_refl _) _⟩

theorem prefix_head (l : List UInt8) : Lib.hasPrefix l [45] = decide (l.headD 0 = 45) := by
  unfold Lib.hasPrefix
  cases l with
  | nil => rfl
  | cons c r =>
    show (List.isPrefixOf [45] (c :: r)) = decide (c = 45)
    simp [List.isPrefixOf]
    by_cases h : c = 45
    · subst h; simp
    · rw [decide_eq_false h, beq_eq_false_iff_ne]
      exact fun e => h e.symm
theorem trim_bare (l : List UInt8) : Lib.trimPrefix l [45] = bareL l := by
  unfold Lib.trimPrefix bareL
  rw [prefix_head]
  by_cases h : l.headD 0 = 45
  · rw [if_pos h, if_pos (by simpa using h), List.length_singleton, List.drop_one]
  · rw [if_neg h, if_neg (by simpa using h)]
/-- the digits of a text, and whether it has a '-' ahead -/
def bareB (s : ByteArray) : ByteArray := ⟨(bareL s.data.toList).toArray⟩
def negB (s : ByteArray) : Bool := decide (s.data.toList.headD 0 = 45)
theorem cutPrefix_any (s : ByteArray) (w : World) :
    Calls Tryz.prog 123 #[.string s, .string ⟨#[45]⟩] w fun e w' => e = .returned (.tuple #[.string (bareB s), .bool (negB s)]) ∧ w = w' := by
  refine (Tryz.strings_CutPrefix s ⟨#[45]⟩ w).mono ?_
  rintro e w' ⟨rfl, rfl⟩
  exact ⟨by rw [trim_bare, prefix_head]; rfl, rfl⟩

/-- the int that impl.TextInt tries -/
def tryB (s : ByteArray) : Int := if negB s = true then wrap64 (-(wrap64 (valL (bareL s.data.toList)))) else wrap64 (valL (bareL s.data.toList))
theorem try_range (s : ByteArray) : -9223372036854775808 ≤ tryB s ∧ tryB s ≤ 9223372036854775807 := by
  unfold tryB
  split <;> (unfold wrap64; omega)
theorem try_is (s : ByteArray) (n : Int) (h : IsNum s n) : tryB s = n := by
  obtain ⟨_, _, h3, h4, _⟩ := isNum_parts s n h
  obtain ⟨_, h1, h2⟩ := h
  unfold tryB negB
  rw [h3]
  by_cases hn : n < 0
  · rw [if_pos (by rw [decide_eq_true_eq]; exact h4.2 hn)]
    unfold wrap64
    omega
  · rw [if_neg (by rw [decide_eq_true_eq]; exact fun e => hn (h4.1 e))]
    unfold wrap64
    omega
theorem no_num_digits (s : ByteArray) (h : digitsB (bareB s) = false) : ∀ n, ¬ IsNum s n := by
  intro n hn
  obtain ⟨h1, h2, _⟩ := isNum_parts s n hn
  rw [(digitsB_iff (bareB s)).2 ⟨h1, h2⟩] at h
  cases h
theorem no_num_try (s : ByteArray) (h : ¬ numB (tryB s) = s) : ∀ n, ¬ IsNum s n := by
  intro n hn
  apply h
  rw [try_is s n hn]
  exact hn.1
theorem bytes_ne' {a b : ByteArray} (h : ¬ a = b) : (a.toList == b.toList) = false := by
  rw [beq_eq_false_iff_ne, ByteArray.toList_eq, ByteArray.toList_eq]
  exact fun e => h (WideShapes.bytes_inj e)


theorem bareB_data (s : ByteArray) : (bareB s).data.toList = bareL s.data.toList := rfl
theorem negB_head (s : ByteArray) (h0 : 0 < s.size) : negB s = ((s[0].toNat : Int) == 45) := by
  unfold negB
  rw [head_get s h0]
  by_cases h : s[0] = 45
  · rw [h]; rfl
  · rw [decide_eq_false h]
    symm
    rw [beq_eq_false_iff_ne]
    intro e
    exact h (UInt8.toNat_inj.1 (by show s[0].toNat = 45; omega))
theorem bareB_tail (s : ByteArray) (h : negB s = true) : s.extract 1 s.size = bareB s := by
  apply WideShapes.bytes_inj
  rw [bareB_data, Lib.extract_to_end]
  unfold bareL
  rw [if_pos (by simpa [negB] using h), List.drop_one]
theorem bareB_self (s : ByteArray) (h : negB s = false) : bareB s = s := by
  apply WideShapes.bytes_inj
  rw [bareB_data]
  unfold bareL
  rw [if_neg (by simpa [negB] using h)]
theorem negB_nil (s : ByteArray) (h : ¬ 0 < s.size) : negB s = false := by
  obtain ⟨⟨l⟩⟩ := s
  cases l with
  | nil => rfl
  | cons a r => simp [ByteArray.size] at h
theorem no_num_long (s : ByteArray) (h : 19 < (bareB s).size) : ∀ n, ¬ IsNum s n := by
  intro n hn
  obtain ⟨_, _, _, _, h5⟩ := isNum_parts s n hn
  have : (bareB s).size = (bareL s.data.toList).length := rfl
  omega
theorem no_num_big (s : ByteArray) (k : Nat) (hd : DigL (bareB s).data.toList) (h : 9223372036854775808 < valL ((bareB s).data.toList.take k)) : ∀ n, ¬ IsNum s n := by
  intro n hn
  obtain ⟨_, _, h3, _, _⟩ := isNum_parts s n hn
  obtain ⟨_, h1, h2⟩ := hn
  have hm := valL_mono ((bareB s).data.toList.take k) ((bareB s).data.toList.drop k) (by rw [List.take_append_drop]; exact hd)
  rw [List.take_append_drop, bareB_data, h3] at hm
  rw [bareB_data] at h
  omega
theorem no_num_min (s : ByteArray) (hn : negB s = false) (h : valL (bareB s).data.toList = 9223372036854775808) : ∀ n, ¬ IsNum s n := by
  intro n hx
  obtain ⟨_, _, h3, h4, _⟩ := isNum_parts s n hx
  obtain ⟨_, h1, h2⟩ := hx
  rw [bareB_data, h3] at h
  have : ¬ n < 0 := fun e => by have h5 := h4.2 e; unfold negB at hn; rw [decide_eq_true h5] at hn; cases hn
  omega
/-- the int that spec.TextInt tries -/
theorem try_neg (s : ByteArray) (hn : negB s = true) (h0 : 0 ≤ valL (bareB s).data.toList) (h : valL (bareB s).data.toList ≤ 9223372036854775808) : -valL (bareB s).data.toList = tryB s := by
  rw [bareB_data] at h h0 ⊢
  unfold tryB
  rw [if_pos hn]
  unfold wrap64
  omega
theorem try_pos (s : ByteArray) (hn : negB s = false) (h0 : 0 ≤ valL (bareB s).data.toList) (h : valL (bareB s).data.toList ≤ 9223372036854775807) : valL (bareB s).data.toList = tryB s := by
  rw [bareB_data] at h h0 ⊢
  unfold tryB
  rw [if_neg (by simp [hn])]
  unfold wrap64
  omega
theorem take_all (t : ByteArray) : t.data.toList.take t.size = t.data.toList := List.take_of_length_le (Nat.le_refl _)
/-- the bound that the loop of spec.TextInt asks -/
theorem quo_bound (v d : Int) (hd : 0 ≤ d) (hd9 : d ≤ 9) : (-v < (-9223372036854775808 + d).tdiv 10) ↔ 9223372036854775808 < v * 10 + d := by
  have h := quo_rem (-9223372036854775808 + d) (by omega)
  omega






end Go.Proofs.YtbpfabicampdkaaGreatDoor

namespace Go.Proofs.YtbpfabicampdkaaGreatDoor
open Go.RowKit

theorem dec_len : ∀ (k u : Nat), u < 10 ^ (k + 1) → (Lib.decDigits u).length ≤ k + 1 := by
  intro k
  induction k with
  | zero => intro u hu; rw [dec_small u (by simpa using hu)]; simp
  | succ k ih =>
    intro u hu
    by_cases hs : u < 10
    · rw [dec_small u hs]; simp
    · rw [dec_big u hs, List.length_append]
      have := ih (u / 10) (by rw [Nat.pow_succ] at hu; omega)
      simp; omega
theorem num_list (d : Int) (h : 0 ≤ d) : (numB d).data.toList = Lib.decDigits d.toNat := by
  show Lib.itoa d = _
  unfold Lib.itoa
  rw [if_neg (by omega)]
theorem limb_nine {d : Int} (h : 0 ≤ d ∧ d ≤ 999999999) : (numB d).size ≤ 9 := by
  have := dec_len 8 d.toNat (by omega)
  rw [← num_list d h.1] at this
  exact this
theorem pad_nine {d : Int} (h : 0 ≤ d ∧ d ≤ 999999999) : (padB (numB d) 9).size = 9 := by
  have h9 := limb_nine h
  unfold padB
  show (List.toArray _).size = 9
  rw [List.size_toArray, List.length_append, List.length_replicate]
  have : (numB d).data.toList.length = (numB d).size := rfl
  have : (9 : Int).toNat = 9 := rfl
  omega
/-- how long the text of limbs is -/
theorem natT_len (a : List Int) (h : DigN a) (h0 : 0 < a.length) : (natT a).size = (a.length - 1) * 9 + (numB (a[a.length - 1]'(by omega))).size := by
  induction a with
  | nil => simp at h0
  | cons d r ih =>
    cases r with
    | nil => unfold natT; simp
    | cons e r =>
      have hi := ih (fun x hx => h x (by simp at hx ⊢; exact .inr hx)) (by simp)
      unfold natT
      rw [ByteArray.size_append, hi, pad_nine (h d (by simp))]
      simp only [List.length_cons]
      have e1 : (d :: e :: r)[r.length + 1 + 1 - 1] = (e :: r)[r.length + 1 - 1] := by simp
      rw [e1]
      omega

/-- the last k digits -/
def lastD : Nat → Nat → List UInt8
  | 0, _ => []
  | k + 1, u => lastD k (u / 10) ++ [UInt8.ofNat (48 + u % 10)]
theorem dec_split (k : Nat) : ∀ u : Nat, 10 ^ k ≤ u → Lib.decDigits u = Lib.decDigits (u / 10 ^ k) ++ lastD k u := by
  induction k with
  | zero => intro u _; simp [lastD]
  | succ k ih =>
    intro u hu
    rw [Nat.pow_succ] at hu
    have hp : 0 < 10 ^ k := Nat.pow_pos (by omega)
    have h10 : ¬ u < 10 := by omega
    have hk : 10 ^ k ≤ u / 10 := by omega
    rw [dec_big u h10, ih (u / 10) hk, Nat.div_div_eq_div_mul, Nat.mul_comm 10, ← Nat.pow_succ, List.append_assoc]
    rfl
theorem lastD_mod (k : Nat) : ∀ u : Nat, lastD k u = lastD k (u % 10 ^ k) := by
  induction k with
  | zero => intro u; rfl
  | succ k ih =>
    intro u
    have e1 : u % 10 ^ (k + 1) / 10 = u / 10 % 10 ^ k := by
      rw [Nat.pow_succ, Nat.mul_comm, Nat.mod_mul_right_div_self]
    have e2 : u % 10 ^ (k + 1) % 10 = u % 10 := by
      rw [Nat.pow_succ, Nat.mul_comm]
      exact Nat.mod_mul_right_mod _ _ _
    show lastD k (u / 10) ++ _ = lastD k (u % 10 ^ (k + 1) / 10) ++ _
    rw [e1, e2, ← ih (u / 10)]
theorem lastD_zero (k : Nat) : lastD k 0 = List.replicate k 48 := by
  induction k with
  | zero => rfl
  | succ k ih =>
    show lastD k (0 / 10) ++ [UInt8.ofNat (48 + 0 % 10)] = _
    rw [Nat.zero_div, ih, List.replicate_succ']
    rfl
theorem lastD_pad (k : Nat) : ∀ u : Nat, u < 10 ^ k → 0 < k → lastD k u = List.replicate (k - (Lib.decDigits u).length) 48 ++ Lib.decDigits u := by
  induction k with
  | zero => intro u _ h; omega
  | succ k ih =>
    intro u hu _
    show lastD k (u / 10) ++ [UInt8.ofNat (48 + u % 10)] = _
    by_cases h10 : u < 10
    · rw [dec_small u h10, show u / 10 = 0 by omega, lastD_zero, show u % 10 = u by omega]
      simp
    · rw [dec_big u h10]
      have hk : 0 < k := by
        rcases Nat.eq_zero_or_pos k with h | h
        · subst h; simp at hu; omega
        · exact h
      rw [ih (u / 10) (by rw [Nat.pow_succ] at hu; omega) hk, List.append_assoc]
      congr 2
      simp
/-- the text of the limbs of a number is its numeral -/
theorem natT_dec (n : Nat) : (natT (limbs n)).data.toList = Lib.decDigits n := by
  induction n using Nat.strongRecOn with
  | _ n ih =>
    by_cases h0 : n = 0
    · subst h0
      rw [limbs_none, dec_small 0 (by omega)]
      rfl
    · rw [limbs_pos n h0]
      by_cases hs : n / 1000000000 = 0
      · rw [hs, limbs_none]
        show (numB _).data.toList = _
        rw [num_list _ (by omega), show (((n % 1000000000 : Nat) : Int)).toNat = n by omega]
      · have hi := ih (n / 1000000000) (by omega)
        rw [limbs_pos _ hs] at hi ⊢
        show (natT _ ++ padB (numB _) 9).data.toList = _
        rw [ByteArray.data_append, Array.toList_append, hi, dec_split 9 n (by omega), lastD_mod 9 n, lastD_pad 9 (n % 10 ^ 9) (by omega) (by omega)]
        unfold padB
        rw [num_list _ (by omega)]
        have e : (numB ((n % 1000000000 : Nat) : Int)).size = (Lib.decDigits (n % 10 ^ 9)).length := by
          show (numB _).data.toList.length = _
          rw [num_list _ (by omega), show (((n % 1000000000 : Nat) : Int)).toNat = n % 10 ^ 9 by omega]
        rw [e, show (((n % 1000000000 : Nat) : Int)).toNat = n % 10 ^ 9 by omega]
        rfl

theorem limbs_dig (n : Nat) : DigN (limbs n) := by
  induction n using Nat.strongRecOn with
  | _ n ih =>
    by_cases h0 : n = 0
    · subst h0; rw [limbs_none]; exact fun d hd => by cases hd
    · rw [limbs_pos n h0]
      exact DigN.cons (by omega) (by omega) (ih _ (by omega))
theorem limbs_last (n : Nat) : (limbs n).getLastD 1 ≠ 0 := by
  induction n using Nat.strongRecOn with
  | _ n ih =>
    by_cases h0 : n = 0
    · subst h0; rw [limbs_none]; decide
    · rw [limbs_pos n h0]
      by_cases hs : n / 1000000000 = 0
      · rw [hs, limbs_none]
        show ((n % 1000000000 : Nat) : Int) ≠ 0
        omega
      · have hi := ih (n / 1000000000) (by omega)
        rw [limbs_pos _ hs] at hi ⊢
        simpa using hi
theorem limbs_ok (n : Nat) (h : (limbs n).length ≤ 50) : natOkB (limbs n) = true := by
  unfold natOkB
  rw [(all_dig _).2 (limbs_dig n), decide_eq_true h, decide_eq_true (limbs_last n)]
  rfl
theorem natText_limbs (n : Nat) (h : (limbs n).length ≤ 50) : (natTextB (limbs n)).data.toList = Lib.decDigits n := by
  unfold natTextB
  rw [if_pos (limbs_ok n h), natT_dec]
theorem groups_len (l : List UInt8) (e : Nat) : (groups l e).length ≤ (e + 8) / 9 := by
  induction e using Nat.strongRecOn with
  | _ e ih =>
    by_cases h0 : e = 0
    · subst h0; rw [groups_zero]; simp
    · rw [groups_pos l e h0, List.length_cons]
      have := ih (e - 9) (by omega)
      omega

/-! ### numerals -/
theorem dec_head (u : Nat) (h : 0 < u) : (Lib.decDigits u).headD 0 ≠ 48 := by
  induction u using Nat.strongRecOn with
  | _ u ih =>
    by_cases h10 : u < 10
    · rw [dec_small u h10]
      show UInt8.ofNat (48 + u) ≠ 48
      intro e
      have := congrArg UInt8.toNat e
      rw [UInt8.toNat_ofNat'] at this
      have h48 : (48 : UInt8).toNat = 48 := rfl
      omega
    · have hi := ih (u / 10) (by omega) (by omega)
      have hd := (dig_dec (u / 10)).2
      rw [dec_big u h10]
      cases hc : Lib.decDigits (u / 10) with
      | nil => exact absurd hc hd
      | cons c r => rw [hc] at hi; simpa using hi
theorem val_pos (l : List UInt8) (h : DigL l) (hne : l ≠ []) (hh : l.headD 0 ≠ 48) : 0 < valL l := by
  cases l with
  | nil => exact absurd rfl hne
  | cons c r =>
    have e : valL (c :: r) = ((c.toNat : Int) - 48) * 10 ^ r.length + valL r := by
      show List.foldl _ (0 * 10 + ((c.toNat : Int) - 48)) r = _
      rw [fold_app, Int.zero_mul, Int.zero_add]
    have hc := h c (by simp)
    have hc48 : c.toNat ≠ 48 := fun e2 => hh (by
      show c = 48
      apply UInt8.toNat_inj.1
      rw [e2]; rfl)
    have hr := valL_nonneg r (fun x hx => h x (by simp [hx]))
    have hp : (0 : Int) < 10 ^ r.length := Int.pow_pos (by omega)
    have hm := Int.mul_le_mul_of_nonneg_right (show (1 : Int) ≤ (c.toNat : Int) - 48 by omega) (Int.le_of_lt hp)
    omega
theorem dec_val_rev (l : List UInt8) (h : DigL l.reverse) (hne : l ≠ []) (hh : l.reverse.length = 1 ∨ l.reverse.headD 0 ≠ 48) : Lib.decDigits (valL l.reverse).toNat = l.reverse := by
  induction l with
  | nil => exact absurd rfl hne
  | cons c m ih =>
    rw [List.reverse_cons] at h hh ⊢
    have hc := h c (by simp)
    have ec : ∀ x : Nat, x = c.toNat - 48 → UInt8.ofNat (48 + x) = c := by
      intro x hx
      apply UInt8.toNat_inj.1
      rw [UInt8.toNat_ofNat', hx]
      omega
    have hm : DigL m.reverse := fun x hx => h x (by rw [List.mem_append]; exact .inl hx)
    rw [valL_snoc]
    by_cases hn : m = []
    · subst hn
      have e0 : valL ([] : List UInt8).reverse = 0 := rfl
      rw [e0, dec_small _ (by omega), ec _ (by omega)]
      rfl
    · have hh2 : m.reverse.headD 0 ≠ 48 := by
        have hr : m.reverse ≠ [] := by simpa using hn
        rcases hh with hh | hh
        · rw [List.length_append, List.length_singleton] at hh
          have : m.reverse.length ≠ 0 := fun e => hr (List.eq_nil_of_length_eq_zero e)
          omega
        · cases hcm : m.reverse with
          | nil => exact absurd hcm hr
          | cons x y => rw [hcm] at hh; simpa using hh
      have hp := val_pos m.reverse hm (by simpa using hn) hh2
      have hi := ih hm hn (.inr hh2)
      rw [dec_big _ (by omega), show (valL m.reverse * 10 + ((c.toNat : Int) - 48)).toNat / 10 = (valL m.reverse).toNat by omega, hi, ec _ (by omega)]
/-- a text of digits is the numeral of its value where it has no zero ahead -/
theorem dec_val (l : List UInt8) (h : DigL l) (hne : l ≠ []) : Lib.decDigits (valL l).toNat = l ↔ ¬ (1 < l.length ∧ l.headD 0 = 48) := by
  constructor
  · intro e ⟨h1, h2⟩
    by_cases h0 : 0 < (valL l).toNat
    · have := dec_head _ h0
      rw [e] at this
      exact this h2
    · rw [show (valL l).toNat = 0 by omega, dec_small 0 (by omega)] at e
      rw [← e] at h1
      simp at h1
  · intro hn
    have hl : 0 < l.length := List.length_pos_iff.2 hne
    have := dec_val_rev l.reverse (by rw [List.reverse_reverse]; exact h) (by simpa using hne) (by
      rw [List.reverse_reverse]
      by_cases h1 : l.length = 1
      · exact .inl h1
      · exact .inr (fun e => hn ⟨by omega, e⟩))
    rwa [List.reverse_reverse] at this
end Go.Proofs.YtbpfabicampdkaaGreatDoor

namespace Go.Proofs.YtbpfabicampdkaaGreatDoor
open Go.RowKit

/-- how many zeros stand at the end -/
def zerosL (l : List UInt8) : Nat := (l.reverse.takeWhile (fun c => c == 48)).length
theorem tw_at {α : Type} (p : α → Bool) (l : List α) : ∀ k, k < (l.takeWhile p).length → ∃ h2 : k < l.length, p l[k] = true := by
  induction l with
  | nil => intro k h; simp at h
  | cons x r ih =>
    intro k h
    by_cases hx : p x = true
    · rw [List.takeWhile_cons_of_pos hx] at h
      cases k with
      | zero => exact ⟨by simp, hx⟩
      | succ k => obtain ⟨h1, h2⟩ := ih k (by simpa using h); exact ⟨by simpa using h1, h2⟩
    · rw [List.takeWhile_cons_of_neg hx] at h
      simp at h
theorem tw_end {α : Type} (p : α → Bool) (l : List α) (h : (l.takeWhile p).length < l.length) : p l[(l.takeWhile p).length] = false := by
  induction l with
  | nil => simp at h
  | cons x r ih =>
    by_cases hx : p x = true
    · have e : (x :: r).takeWhile p = x :: r.takeWhile p := List.takeWhile_cons_of_pos hx
      have h2 : (r.takeWhile p).length < r.length := by rw [e] at h; simpa using h
      have := ih h2
      simp only [e, List.length_cons, List.getElem_cons_succ]
      exact this
    · have e : (x :: r).takeWhile p = [] := List.takeWhile_cons_of_neg hx
      simp only [e, List.length_nil, List.getElem_cons_zero]
      simpa using hx
theorem zeros_le (l : List UInt8) : zerosL l ≤ l.length := by
  unfold zerosL
  have := (List.takeWhile_sublist (fun c : UInt8 => c == 48) (l := l.reverse)).length_le
  simpa using this
theorem zeros_at (s : ByteArray) (k : Nat) (h : k < zerosL s.data.toList) : ∃ hi : s.size - 1 - k < s.size, (s[s.size - 1 - k].toNat : Int) = 48 := by
  have hl := zeros_le s.data.toList
  have hsz : s.data.toList.length = s.size := rfl
  obtain ⟨h2, h3⟩ := tw_at _ _ k h
  refine ⟨by omega, ?_⟩
  rw [List.getElem_reverse, beq_iff_eq] at h3
  have e : s[s.size - 1 - k]'(by omega) = s.data.toList[s.data.toList.length - 1 - k]'(by omega) := by simp only [hsz]; rfl
  rw [e, h3]
  rfl
theorem zeros_end (s : ByteArray) (k : Nat) (hk : k = zerosL s.data.toList) (h : k < s.size) : ((s[s.size - 1 - k]'(by omega)).toNat : Int) ≠ 48 := by
  have hsz : s.data.toList.length = s.size := rfl
  have hlen : (s.data.toList.reverse.takeWhile (fun c : UInt8 => c == 48)).length < s.data.toList.reverse.length := by
    rw [List.length_reverse, hsz]
    have : (s.data.toList.reverse.takeWhile (fun c : UInt8 => c == 48)).length = k := hk.symm
    omega
  have h3 := tw_end (fun c : UInt8 => c == 48) s.data.toList.reverse hlen
  rw [List.getElem_reverse, beq_eq_false_iff_ne] at h3
  have e : s[s.size - 1 - k]'(by omega) = s.data.toList[s.data.toList.length - 1 - (s.data.toList.reverse.takeWhile (fun c : UInt8 => c == 48)).length]'(by omega) := by
    have hk2 : (s.data.toList.reverse.takeWhile (fun c : UInt8 => c == 48)).length = k := hk.symm
    simp only [hk2, hsz]
    rfl
  rw [e]
  intro e2
  exact h3 (UInt8.toNat_inj.1 (by have h48 : (48 : UInt8).toNat = 48 := rfl; omega))
theorem val_zeros (l : List UInt8) (h : ∀ c ∈ l, c = 48) : valL l = 0 := by
  have : ∀ a : Int, List.foldl (fun a (c : UInt8) => a * 10 + ((c.toNat : Int) - 48)) a l = a * 10 ^ l.length := by
    induction l with
    | nil => intro a; simp
    | cons c r ih =>
      intro a
      have hc : (c.toNat : Int) = 48 := by rw [h c (by simp)]; rfl
      rw [List.foldl_cons, ih (fun x hx => h x (by simp [hx])), hc, List.length_cons, Int.pow_succ, Int.mul_comm (10 ^ r.length) 10, ← Int.mul_assoc]
      congr 1
      omega
  have h2 := this 0
  rw [Int.zero_mul] at h2
  exact h2
theorem zeros_lt (l : List UInt8) (h : 0 < valL l) : zerosL l < l.length := by
  have hl := zeros_le l
  rcases Nat.lt_or_ge (zerosL l) l.length with hlt | hge
  · exact hlt
  · exfalso
    have : ∀ c ∈ l, c = 48 := by
      intro c hc
      obtain ⟨i, hi, rfl⟩ := List.getElem_of_mem hc
      have hr : l.length - 1 - i < zerosL l := by omega
      obtain ⟨h2, h3⟩ := tw_at _ _ _ hr
      rw [List.getElem_reverse, beq_iff_eq] at h3
      rw [← h3]
      congr 1
      omega
    rw [val_zeros l this] at h
    omega
/-- what NatZeros answers -/
def zerosN (a : List Int) : Int := if natOkB a = true ∧ 0 < a.length then zerosL (natT a).data.toList else 0
theorem zerosN_ok {a : List Int} (h : natOkB a = true) (h0 : 0 < a.length) : zerosN a = zerosL (natT a).data.toList ∧ zerosL (natT a).data.toList < (natT a).size := by
  refine ⟨by unfold zerosN; rw [if_pos ⟨h, h0⟩], ?_⟩
  apply zeros_lt
  have e : (natT a).data.toList = Lib.decDigits (nval a).toNat := by conv => lhs; rw [natOk_limbs h, natT_dec]
  have h1 := ok_ge h h0
  have h2 := bp_pos (a.length - 1)
  rw [e, valL_dec]
  omega

end Go.Proofs.YtbpfabicampdkaaGreatDoor

namespace Go.Proofs.YtbpfabicampdkaaGreatDoor
open Go.RowKit




end Go.Proofs.YtbpfabicampdkaaGreatDoor

namespace Go.Proofs.YtbpfabicampdkaaGreatDoor
open Go.RowKit

theorem limbs_short {N : Int} (h0 : 0 ≤ N) (h : N < bp 50) : (limbs N.toNat).length ≤ 1048576 := Nat.le_trans (limbs_length_le _ 50 (by omega)) (by decide)
theorem ok_lt {a : List Int} (h : natOkB a = true) : 0 ≤ nval a ∧ nval a < bp 50 := by
  have h1 := natOk_parts h
  have h2 := nval_lt a h1.1
  have h3 := bp_mono h1.2.1
  exact ⟨nval_nonneg a h1.1, by omega⟩
theorem divN_len (a b : List Int) : (divN a b).1.length ≤ 1048576 ∧ (divN a b).2.length ≤ 1048576 := by
  unfold divN
  split
  · rename_i h
    have ha := ok_lt h.1
    have hb := ok_lt h.2.1
    have hb0 : 0 < nval b := by
      have h1 := ok_ge h.2.1 h.2.2
      have h2 := bp_pos (b.length - 1)
      omega
    refine ⟨limbs_short (Int.ediv_nonneg ha.1 (by omega)) ?_, limbs_short (Int.emod_nonneg _ (by omega)) ?_⟩
    · have := Int.ediv_le_self (nval b) ha.1
      omega
    · have := Int.emod_lt_of_pos (nval a) hb0
      omega
  · exact ⟨by simp, by simp⟩
theorem gcdN_len (a b : List Int) : (gcdN a b).length ≤ 1048576 := by
  unfold gcdN
  split
  · rename_i h
    have ha := ok_lt h.1
    have hb := ok_lt h.2
    refine Nat.le_trans (limbs_length_le _ 50 ?_) (by decide)
    by_cases h0 : 0 < (nval a).toNat
    · have := Nat.gcd_le_left (nval b).toNat h0
      omega
    · rw [show (nval a).toNat = 0 by omega, Nat.gcd_zero_left]
      omega
  · simp
theorem scaleN_len (a : List Int) (k : Int) : (scaleN a k).length ≤ 1048576 := by
  unfold scaleN
  split
  · simp
  · unfold mulN
    split
    · unfold natRes capL
      split
      · simp
      · omega
    · simp
theorem cutN_len (a : List Int) (k : Int) : (cutN a k).1.length ≤ 1048576 ∧ (cutN a k).2.length ≤ 1048576 := by
  unfold cutN
  split
  · exact divN_len _ _
  · exact ⟨by simp, by simp⟩

theorem specNatTen_at (k : Int)  : ∀ (W : World), Calls Tryz.prog 211 #[(.int .i64 k)] W (PostI (tenN k) W) :=
  fun W  => (specNatTen_any k W).mono fun _ _ h => h.newV








end Go.Proofs.YtbpfabicampdkaaGreatDoor

namespace Go.Proofs.YtbpfabicampdkaaGreatDoor
open Go.RowKit

end Go.Proofs.YtbpfabicampdkaaGreatDoor

namespace Go.Proofs.YtbpfabicampdkaaGreatDoor
open Go.RowKit

set_option maxHeartbeats 1000000 in
set_option maxRecDepth 100000 in
theorem implNatTen_any (k : Int) (w : World) : Calls Tryz.prog 113 #[.int .i64 k] w (NewInts (tenN k) w) := by
  obtain ⟨i0, hi0, hz0, hz1, hz2⟩ := info_parts intInfo
  by_cases h0 : k < 0
  · have HV : Hid (tenN k = []) := Lib.hid (by unfold tenN; rw [if_neg (by omega)])
    go_enter Tryz.func113, Tryz.ntmps113
    go_wp2
    go_ret
    rw [HV.out]
    exact new_nil (Below.refl _ _)
  · by_cases h1 : 450 ≤ k
    · have HV : Hid (tenN k = []) := Lib.hid (by unfold tenN; rw [if_neg (by omega)])
      go_enter Tryz.func113, Tryz.ntmps113
      go_wp2
      go_ret
      rw [HV.out]
      exact new_nil (Below.refl _ _)
    · obtain ⟨n, rfl⟩ := Int.eq_ofNat_of_zero_le (show 0 ≤ k by omega)
      have hn : n ≤ 449 := by omega
      have HV : Hid (tenN n = List.replicate (n / 9) 0 ++ [(10 : Int) ^ (n % 9)]) := Lib.hid (by unfold tenN; rw [if_pos (by omega), Int.toNat_natCast, ten_limbs])
      have hmk := make_ints (n / 9) (by omega)
      rw [show ((n / 9 : Nat) : Int) = (n : Int) / 9 by omega] at hmk
      clear h0 h1
      go_enter Tryz.func113, Tryz.ntmps113
      go_wp2
      go_loop [3, 12] (fun f i => ∃ (j : Nat) (p : Int), j ≤ n % 9 ∧ i = .int .i64 j ∧ f = .int .i64 p ∧ 0 < p ∧ p ≤ 100000000 ∧ Hid (p = 10 ^ j)) (fun _ i => n % 9 - (intOf i).toNat)
      case atStart => exact ⟨0, 1, Nat.zero_le _, rfl, rfl, by omega, by omega, Lib.hid rfl⟩
      case round =>
        obtain ⟨j, p, hj, rfl, rfl, hp0, hp1, HP⟩ := hrel
        by_cases hlt : (j : Int) < (n : Int) % 9
        · have HN : Hid (p * 10 = 10 ^ (j + 1) ∧ p * 10 ≤ 100000000) := Lib.hid (by
            have h1 : p * 10 = (10 : Int) ^ (j + 1) := by rw [HP.out, Int.pow_succ]
            exact ⟨h1, by rw [h1]; exact ten_eight (j + 1) (by omega)⟩)
          go_wp2
          go_round
          case rel => exact ⟨j + 1, p * 10, by omega, by go_num, rfl, by omega, HN.out.2, Lib.hid HN.out.1⟩
          case measure => simp [intOf]; omega
        · have HJ := Lib.hid (show j = n % 9 by omega)
          have hown : (w.alloc (.cells (madeCells #[.int .i64 0] (n / 9)) 3)).ownsRow w.heap.size 3 1 (.slice (some ⟨w.heap.size, 0, none⟩) (n / 9) (n / 9)) (n / 9) (intsV (List.replicate (n / 9) 0)) := by
            have h := World.ownsRow_lit (e := 3) (size := 1) (base := w.heap.size) w (madeCells #[.int .i64 0] (n / 9)) (n / 9) (Nat.le_refl _) (by unfold maxLen; omega) (by rw [size_madeCells, Nat.mul_one])
            rw [toList_madeCells_one] at h
            simpa [intsV] using h
          go_wp2_with (at_builtin; refine wpList_append_own _ rfl _ _ 28 rfl w.heap.size 3 i0 (.int .i64 0) 1 8 Tryz.underlying28 hi0 hz0 hz1 hz2 rfl (by decide) _ _ _ rfl (own_alloc hown _) ⟨w.heap.size + 1, 0, none⟩ 1 1 [.int .i64 p] rfl rfl ?c1 ?c2 ?c3 ?c4 ?c5 ?_)
          case c2 => first | (intro u hu; simp at hu; subst hu; rfl) | rfl
          case c3 => unfold maxLen; omega
          case c4 => omega
          case c5 => first | omega | (simp; omega)
          intro v1 w1 hown1 hg1 _
          have hb2 : Below w.heap.size w w1 := (((Below.refl _ w).alloc (Nat.le_refl _) _).alloc (by simp) _).grown hg1 (by simp; omega) (fun k hk => by cases hk; exact Nat.le_refl _)
          go_wp2
          go_ret
          refine ⟨_, rfl, ?_, hb2⟩
          rw [HV.out, ← HJ.out, ← HP.out]
          simpa [intsV] using hown1
theorem implNatTen_at (k : Int) : ∀ (W : World), Calls Tryz.prog 113 #[(.int .i64 k)] W (PostI (tenN k) W) :=
  fun W => (implNatTen_any k W).mono fun _ _ h => h.newV
end Go.Proofs.YtbpfabicampdkaaGreatDoor

namespace Go.Proofs.YtbpfabicampdkaaGreatDoor
open Go.RowKit

/-! ### zeros at the end of a number -/
def zN (n : Nat) : Nat := zerosL (Lib.decDigits n)
theorem zerosL_snoc (l : List UInt8) (c : UInt8) : zerosL (l ++ [c]) = if c = 48 then zerosL l + 1 else 0 := by
  unfold zerosL
  rw [List.reverse_append, List.reverse_singleton, List.singleton_append]
  by_cases h : c = 48
  · rw [List.takeWhile_cons_of_pos (by simpa using h), if_pos h]; rfl
  · rw [List.takeWhile_cons_of_neg (by simpa using h), if_neg h]; rfl
theorem chr_eq {k : Nat} (h : k < 10) : (UInt8.ofNat (48 + k) = 48) ↔ k = 0 := by
  constructor
  · intro e
    have e2 := congrArg UInt8.toNat e
    rw [UInt8.toNat_ofNat'] at e2
    have : (48 : UInt8).toNat = 48 := rfl
    omega
  · rintro rfl; rfl
theorem zN_end (n : Nat) (h : n % 10 ≠ 0) : zN n = 0 := by
  unfold zN
  by_cases hs : n < 10
  · rw [dec_small n hs]
    have := zerosL_snoc [] (UInt8.ofNat (48 + n))
    rw [List.nil_append] at this
    rw [this, if_neg (by rw [chr_eq hs]; omega)]
  · rw [dec_big n hs, zerosL_snoc, if_neg (by rw [chr_eq (by omega)]; exact h)]
theorem zN_ten (n : Nat) (h : 0 < n) : zN (10 * n) = zN n + 1 := by
  unfold zN
  rw [dec_big (10 * n) (by omega), zerosL_snoc, show 10 * n / 10 = n by omega, show 10 * n % 10 = 0 by omega, if_pos (show UInt8.ofNat (48 + 0) = 48 from rfl)]
theorem zN_pow (k n : Nat) (h : 0 < n) : zN (10 ^ k * n) = zN n + k := by
  induction k with
  | zero => simp
  | succ k ih =>
    have hp : 0 < 10 ^ k * n := Nat.mul_pos (Nat.pow_pos (by omega)) h
    rw [Nat.pow_succ, Nat.mul_comm (10 ^ k) 10, Nat.mul_assoc, zN_ten _ hp, ih]
    omega
theorem zerosN_zN {a : List Int} (h : natOkB a = true) (h0 : 0 < a.length) : zerosN a = zN (nval a).toNat := by
  rw [(zerosN_ok h h0).1]
  unfold zN
  rw [show (natT a).data.toList = Lib.decDigits (nval a).toNat by conv => lhs; rw [natOk_limbs h, natT_dec]]
/-- the first loop of NatZeros: limbs that are zero have been passed -/
def ZerosR (a : List Int) (k : Nat) : Prop := 0 < nval (a.drop k) ∧ zN (nval a).toNat = 9 * k + zN (nval (a.drop k)).toNat
theorem ZerosR.start {a : List Int} (h : natOkB a = true) (h0 : 0 < a.length) : ZerosR a 0 := by
  have h1 := ok_ge h h0
  have h2 := bp_pos (a.length - 1)
  rw [ZerosR, List.drop_zero]
  exact ⟨by omega, by simp⟩
theorem ZerosR.lt {a : List Int} {k : Nat} (h : ZerosR a k) : k < a.length := by
  rcases Nat.lt_or_ge k a.length with hk | hk
  · exact hk
  · have := h.1
    rw [List.drop_of_length_le hk] at this
    exact absurd this (by decide)
theorem ZerosR.next {a : List Int} {k : Nat} (h : ZerosR a k) (hk : k < a.length) (hz : a[k] = 0) : ZerosR a (k + 1) := by
  obtain ⟨h1, h2⟩ := h
  rw [nval_drop a k hk, hz] at h1 h2
  refine ⟨by omega, ?_⟩
  rw [h2]
  have e : (0 + 1000000000 * nval (a.drop (k + 1))).toNat = 10 ^ 9 * (nval (a.drop (k + 1))).toNat := by omega
  rw [e, zN_pow 9 _ (by omega)]
  omega
/-- the second loop: the limb m, with f places left in it, ahead of R -/
def ZeroD (Z : Nat) (z : Int) (m : Int) (f : Nat) (R : Nat) : Prop := m < 10 ^ (f + 1) ∧ (Z : Int) = z + zN (m.toNat + 10 ^ (f + 1) * R)
theorem ZerosR.digits {a : List Int} {k : Nat} (h : ZerosR a k) (hk : k < a.length) (hd : DigN a) : ZeroD (zN (nval a).toNat) (k * 9) a[k] 8 (nval (a.drop (k + 1))).toNat := by
  obtain ⟨h1, h2⟩ := h
  have := hd.at_ k hk
  have h3 := nval_nonneg (a.drop (k + 1)) (hd.drop _)
  rw [nval_drop a k hk] at h1 h2
  refine ⟨by omega, ?_⟩
  rw [h2, show (a[k] + 1000000000 * nval (a.drop (k + 1))).toNat = a[k].toNat + 10 ^ (8 + 1) * (nval (a.drop (k + 1))).toNat by omega]
  simp
  omega
theorem ZeroD.next {Z : Nat} {z m : Int} {f R : Nat} (h : ZeroD Z z m f R) (hm : 0 < m) (h0 : m % 10 = 0) : ∃ g, f = g + 1 ∧ 0 < m / 10 ∧ ZeroD Z (z + 1) (m / 10) g R := by
  obtain ⟨h1, h2⟩ := h
  cases f with
  | zero => exfalso; omega
  | succ g =>
    refine ⟨g, rfl, by omega, ?_, ?_⟩
    · rw [Int.pow_succ] at h1; omega
    · rw [h2]
      have e : m.toNat + 10 ^ (g + 1 + 1) * R = 10 * ((m / 10).toNat + 10 ^ (g + 1) * R) := by
        rw [Nat.mul_add, ← Nat.mul_assoc, Nat.pow_succ 10 (g + 1), Nat.mul_comm (10 ^ (g + 1)) 10]
        omega
      rw [e, zN_ten _ (by omega)]
      omega
theorem ZeroD.done {Z : Nat} {z m : Int} {f R : Nat} (h : ZeroD Z z m f R) (hm : 0 < m) (h0 : m % 10 ≠ 0) : (Z : Int) = z := by
  obtain ⟨h1, h2⟩ := h
  rw [h2, zN_end]
  · simp
  · rw [Nat.pow_succ, Nat.mul_comm (10 ^ f) 10, Nat.mul_assoc]
    omega



theorem mulN_empty (a : List Int) : mulN a [] = [] := by
  by_cases oa : natOkB a = true
  · rw [mulN_ok oa rfl]
    show natRes (nval a * 0) = []
    rw [Int.mul_zero]
    unfold natRes
    rw [show (0 : Int).toNat = 0 from rfl, limbs_none]
    rfl
  · unfold mulN
    rw [if_neg (fun h => oa h.1)]


end Go.Proofs.YtbpfabicampdkaaGreatDoor

namespace Go.Proofs.YtbpfabicampdkaaGreatDoor
open Go.RowKit

theorem addN_small {X Y : Nat} (h : ((X + Y : Nat) : Int) < bp 50) : addN (limbs X) (limbs Y) = limbs (X + Y) := by
  have hx : (limbs X).length ≤ 50 := limbs_length_le _ 50 (by omega)
  have hy : (limbs Y).length ≤ 50 := limbs_length_le _ 50 (by omega)
  have hs : (limbs (X + Y)).length ≤ 50 := limbs_length_le _ 50 h
  unfold addN
  rw [if_pos ⟨limbs_okL _ hx, limbs_okL _ hy⟩, limbs_val, limbs_val]
  unfold natRes
  rw [show ((X : Int) + (Y : Int)).toNat = X + Y by omega]
  unfold capL
  rw [if_neg (by omega)]
theorem addN_len50 (a b : List Int) : (addN a b).length ≤ 50 := by
  unfold addN
  split
  · unfold natRes capL
    split
    · simp
    · omega
  · simp
/-- the limbs of a rounded quotient -/
def quoL (neg : Bool) (A D : Nat) (m : Int) : List Int := if A % D ≠ 0 ∧ awayB neg (A / D) (A % D) D m = true then addN (limbs (A / D)) (limbs 1) else limbs (A / D)
theorem quoL_is {neg : Bool} {A D : Nat} {m : Int} (h : ((A / D : Nat) : Int) + 1 < bp 50) : quoL neg A D m = limbs (roundN neg A D m) := by
  unfold quoL roundN
  split
  · exact addN_small (by omega)
  · rw [Nat.add_zero]
theorem quoL_len {neg : Bool} {A D : Nat} {m : Int} (h : (limbs (A / D)).length ≤ 50) : (quoL neg A D m).length ≤ 50 := by
  unfold quoL
  split
  · exact addN_len50 _ _
  · exact h
theorem quoL_plain {neg : Bool} {A D Q R : Nat} {m : Int} (hq : A / D = Q) (hr : A % D = R) (h : R = 0 ∨ awayB neg Q R D m = false) : quoL neg A D m = limbs Q := by
  unfold quoL
  rw [hq, hr, if_neg (fun e => by rcases h with h | h; exact e.1 h; rw [h] at e; exact absurd e.2 (by decide))]
theorem quoL_more {neg : Bool} {A D Q R : Nat} {m : Int} (hq : A / D = Q) (hr : A % D = R) (h : R ≠ 0) (ha : awayB neg Q R D m = true) : quoL neg A D m = addN (limbs Q) (limbs 1) := by
  unfold quoL
  rw [hq, hr, if_pos ⟨h, ha⟩]
theorem mkS_quo {neg : Bool} {xs : List Int} {sg : Bool} (h : xs.length ≤ 50) (hs : (neg && decide (0 < xs.length)) = sg) : mkS neg xs = (sg, xs) := by
  unfold mkS capL
  rw [if_neg (by omega), hs]
end Go.Proofs.YtbpfabicampdkaaGreatDoor
