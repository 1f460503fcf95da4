/-
  DivSpec3, DivSpec4, DecNum, Dec, ErrIs, Shelf, IntText, PctLawPercent, TaxB, Build, JoinWalks, PadWalks, NatText, IsWalks, Digits, TextNat, TextInt
-/
import Derived.Deep.LoopGhost
import Derived.LaidEql
import Derived.Stop.Asserts
import Derived.RowKitTokens
import Derived.Shelf.Bits.Mul64
import Derived.Shelf.Small.Bits
import Derived.Shelf.Small.Strs
import Derived.Shelf.Small.Wraps
import Derived.Shelf.Strconv.Itoa3
import Derived.Shelf.Strings.BuilderK
import Derived.Shelf.Strings.Repeat
import Derived.Shelf.Strings.Search2
import Derived.Shelf.Strings.Trim
import Derived.Test.YtofehcpapdlcnaaGreatDoorProg
import Derived.Deep.RegionWith
import Derived.Lib.ItoaNum
import Derived.IntWalk
import Derived.Deep.RegionHeld3
import Derived.Deep.DeepCutAuto
import Derived.Lib.FrozenHead2
import Derived.Lib.OthersKept
import Derived.Lib.IndexBytes
import Derived.Test.YtofehcpapdlcnaaGreatDoorJP1
namespace Go.Proofs.YtofehcpapdlcnaaGreatDoor
open Go.RowKit

set_option maxHeartbeats 400000 in
set_option maxRecDepth 100000 in
theorem specDivOne_any (va vb : Value) (a : List Int) (d : Int) (la ha lb hb_ : Nat) (w : World) (hal : a.length ≤ 1048576) (hha : ha ≤ w.heap.size) (oa : DigN a) (hd0 : 0 < d) (hd1 : d ≤ 999999999)
    (hra : Row w la ha va (intsV a)) (hrb : Row w lb hb_ vb (intsV [d])) :
    Calls Tryz.prog 129 #[va, vb] w (TwoRows (limbs (nval a / d).toNat) (limbs (nval a % d).toNat) w) := by
  obtain ⟨B, c, rfl, hB⟩ := hrb
  obtain ⟨p, rfl, _, _, hcb⟩ := hB 0 _ rfl
  have hcb0 : w.cell? p = some (.int .i64 d) := hcb
  rw [intsV_length]
  have OA := Lib.hid oa
  have hm := Lib.hid (show 0 ≤ nval a % d ∧ nval a % d < d from ⟨Int.emod_nonneg _ (by omega), Int.emod_lt_of_pos _ hd0⟩)
  clear hB oa
  go_enter Tryz.func129, Tryz.ntmps129
  go_wp2_with fail
  refine (specSmall_any va a d la ha _ hal hha hd0 hd1 OA.out hra).mono ?_
  rintro e w1 ⟨v1, rfl, o1, b1⟩
  go_wp2_with fail
  refine (specNatOf_any _ _ (by have := hm.out; omega)).mono ?_
  rintro e w2 ⟨v2, rfl, o2, b2⟩
  go_wp2
  go_ret2
  exact ⟨v1, v2, rfl, own_below o1 b2, own_base o2 b1.size, (Lies.of o1).apart (Lies.of o2) (.inl (Nat.le_refl _)), Below.next b1 b2⟩

theorem one_of_len {b : List Int} (h : b.length = 1) : b = [b[0]] := by
  match b, h with
  | [x], _ => rfl
theorem specDiv_any (va vb : Value) (a b : List Int) (la ha lb hb_ : Nat) (w : World) (hal : a.length ≤ 50) (hbl : b.length ≤ 50) (hb0 : 0 < b.length) (hha : ha ≤ w.heap.size) (hhb : hb_ ≤ w.heap.size) (oa : DigN a) (ob : DigN b ∧ b.getLastD 1 ≠ 0)
    (hra : Row w la ha va (intsV a)) (hrb : Row w lb hb_ vb (intsV b)) :
    Calls Tryz.prog 129 #[va, vb] w (TwoRows (limbs (nval a / nval b).toNat) (limbs (nval a % nval b).toNat) w) := by
  by_cases h1 : b.length = 1
  · have hv : nval b = b[0] := by
      conv => lhs; rw [one_of_len h1]
      show b[0] + 1000000000 * 0 = _
      omega
    have hd := ob.1.at_ 0 hb0
    have hne : b[0] ≠ 0 := by
      have := ob.2
      rw [one_of_len h1] at this
      simpa using this
    rw [hv]
    exact specDivOne_any va vb a b[0] la ha lb hb_ w (by omega) hha oa (by omega) hd.2 hra (by rw [← one_of_len h1]; exact hrb)
  · exact specDivBig_any va vb a b la ha lb hb_ w hal hbl (by omega) hha hhb oa ob hra hrb

/-- what NatDiv answers -/
def divN (a b : List Int) : List Int × List Int := if natOkB a = true ∧ natOkB b = true ∧ 0 < b.length then (limbs (nval a / nval b).toNat, limbs (nval a % nval b).toNat) else ([], [])
theorem two_nil {w w' : World} (hb : Below w.heap.size w w') : TwoRows [] [] w (.returned (.tuple #[.slice none 0 0, .slice none 0 0])) w' := ⟨_, _, rfl, nil_own, nil_own, (fun x y hx _ => by cases hx), hb⟩

set_option maxHeartbeats 400000 in
set_option maxRecDepth 100000 in
theorem specNatDiv_any (va vb : Value) (a b : List Int) (la ha lb hb_ : Nat) (w : World) (hal : a.length ≤ 1048576) (hbl : b.length ≤ 1048576) (hha : ha ≤ w.heap.size) (hhb : hb_ ≤ w.heap.size)
    (hra : Row w la ha va (intsV a)) (hrb : Row w lb hb_ vb (intsV b)) :
    Calls Tryz.prog 192 #[va, vb] w (TwoRows (divN a b).1 (divN a b).2 w) := by
  have hrb0 := hrb
  obtain ⟨B, c, rfl, _⟩ := hrb
  rw [intsV_length] at hrb0 ⊢
  by_cases oa : natOkB a = true
  · by_cases ob : natOkB b = true
    · by_cases h0 : b.length = 0
      · have HV := Lib.hid (show divN a b = ([], []) by unfold divN; rw [if_neg (fun h => by have := h.2.2; omega)])
        have H0 := Lib.hid h0
        clear h0
        go_enter Tryz.func192, Tryz.ntmps192
        go_wp2_with fail
        refine (specNatOk_any va a la ha _ hal hra).mono ?_
        rintro e w' ⟨rfl, rfl⟩
        rw [oa]
        go_wp2_with fail
        refine (specNatOk_any _ b lb hb_ _ hbl hrb0).mono ?_
        rintro e w' ⟨rfl, rfl⟩
        rw [ob]
        have h0 := H0.out
        go_wp2
        go_ret2
        rw [HV.out]
        exact two_nil (Below.refl _ _)
      · have HV := Lib.hid (show divN a b = (limbs (nval a / nval b).toNat, limbs (nval a % nval b).toNat) by unfold divN; rw [if_pos ⟨oa, ob, by omega⟩])
        have OA := Lib.hid (natOk_parts oa)
        have OB := Lib.hid (natOk_parts ob)
        have hz : ((b.length : Int) == 0) = false := by rw [beq_eq_false_iff_ne]; omega
        have hpos : 0 < b.length := by omega
        clear h0
        go_enter Tryz.func192, Tryz.ntmps192
        go_wp2_with fail
        refine (specNatOk_any va a la ha _ hal hra).mono ?_
        rintro e w' ⟨rfl, rfl⟩
        rw [oa]
        go_wp2_with fail
        refine (specNatOk_any _ b lb hb_ _ hbl hrb0).mono ?_
        rintro e w' ⟨rfl, rfl⟩
        rw [ob]
        clear oa ob
        go_wp2_with fail
        refine (specDiv_any va _ a b la ha lb hb_ _ OA.out.2.1 OB.out.2.1 hpos hha hhb OA.out.1 ⟨OB.out.1, OB.out.2.2⟩ hra hrb0).mono ?_
        rintro e w1 ⟨v1, v2, rfl, o1, o2, ap, b1⟩
        go_wp2
        go_ret2
        exact ⟨v1, v2, rfl, by rw [HV.out]; exact o1, by rw [HV.out]; exact o2, ap, b1⟩
    · have ob' : natOkB b = false := by simpa using ob
      have HV := Lib.hid (show divN a b = ([], []) by unfold divN; rw [if_neg (fun h => ob h.2.1)])
      clear ob
      go_enter Tryz.func192, Tryz.ntmps192
      go_wp2_with fail
      refine (specNatOk_any va a la ha _ hal hra).mono ?_
      rintro e w' ⟨rfl, rfl⟩
      rw [oa]
      go_wp2_with fail
      refine (specNatOk_any _ b lb hb_ _ hbl hrb0).mono ?_
      rintro e w' ⟨rfl, rfl⟩
      rw [ob']
      go_wp2
      go_ret2
      rw [HV.out]
      exact two_nil (Below.refl _ _)
  · have oa' : natOkB a = false := by simpa using oa
    have HV := Lib.hid (show divN a b = ([], []) by unfold divN; rw [if_neg (fun h => oa h.1)])
    clear oa
    go_enter Tryz.func192, Tryz.ntmps192
    go_wp2_with fail
    refine (specNatOk_any va a la ha _ hal hra).mono ?_
    rintro e w' ⟨rfl, rfl⟩
    rw [oa']
    go_wp2
    go_ret2
    rw [HV.out]
    exact two_nil (Below.refl _ _)
end Go.Proofs.YtofehcpapdlcnaaGreatDoor

namespace Go.Proofs.YtofehcpapdlcnaaGreatDoor
open Go.RowKit

/-- what NatGcd answers -/
def gcdN (a b : List Int) : List Int := if natOkB a = true ∧ natOkB b = true then limbs (Nat.gcd (nval a).toNat (nval b).toNat) else []
theorem gcd_step (X Y : Nat) : Nat.gcd Y (X % Y) = Nat.gcd X Y := by
  rw [Nat.gcd_comm Y, ← Nat.gcd_rec, Nat.gcd_comm]
/-- powers of ten -/
def tenN (k : Int) : List Int := if 0 ≤ k ∧ k ≤ 449 then limbs (10 ^ k.toNat) else []
theorem bp_ten (m : Nat) : bp m = 10 ^ (9 * m) := by
  induction m with
  | zero => rfl
  | succ m ih =>
    show 1000000000 * bp m = _
    rw [ih, show 9 * (m + 1) = 9 * m + 9 by omega, Int.pow_add, Int.mul_comm]
    rfl
theorem ten_pos (k : Nat) : (0 : Int) < 10 ^ k := Int.pow_pos (by omega)
theorem ten_eight (k : Nat) (h : k ≤ 8) : (10 : Int) ^ k ≤ 100000000 := by
  match k, h with
  | 0, _ => decide
  | 1, _ => decide
  | 2, _ => decide
  | 3, _ => decide
  | 4, _ => decide
  | 5, _ => decide
  | 6, _ => decide
  | 7, _ => decide
  | 8, _ => decide
theorem ten_limbs (k : Nat) : limbs (10 ^ k) = List.replicate (k / 9) 0 ++ [(10 : Int) ^ (k % 9)] := by
  have h8 := ten_eight (k % 9) (by omega)
  have hp := ten_pos (k % 9)
  have hd : DigN (List.replicate (k / 9) 0 ++ [(10 : Int) ^ (k % 9)]) := (dig_zeros _).append (dig_one (by omega) (by omega))
  have hl : (List.replicate (k / 9) 0 ++ [(10 : Int) ^ (k % 9)]).getLastD 1 ≠ 0 := by
    rw [List.getLastD_eq_getLast?, List.getLast?_append]
    simp
    omega
  have hv : nval (List.replicate (k / 9) 0 ++ [(10 : Int) ^ (k % 9)]) = 10 ^ k := by
    rw [nval_append, nval_zeros, List.length_replicate, bp_ten]
    show 0 + 10 ^ (9 * (k / 9)) * (10 ^ (k % 9) + 1000000000 * 0) = _
    rw [Int.mul_zero, Int.add_zero, Int.zero_add, ← Int.pow_add, Nat.div_add_mod]
  rw [← trim_last _ hl, trim_limbs _ hd, hv]
  congr 1

set_option maxHeartbeats 1000000 in
set_option maxRecDepth 100000 in
theorem specNatTen_any (k : Int) (w : World) : Calls Tryz.prog 130 #[.int .i64 k] w (NewInts (tenN k) w) := by
  obtain ⟨i0, hi0, hz0, hz1, hz2⟩ := info_parts intInfo
  by_cases hin : inB k 0 449 = true
  · have hk : 0 ≤ k ∧ k ≤ 449 := of_decide_eq_true hin
    obtain ⟨n, rfl⟩ := Int.eq_ofNat_of_zero_le hk.1
    have hn : n ≤ 449 := by omega
    have HV : Hid (tenN n = List.replicate (n / 9) 0 ++ [(10 : Int) ^ (n % 9)]) := Lib.hid (by unfold tenN; rw [if_pos hk, Int.toNat_natCast, ten_limbs])
    have hmk := make_ints (n / 9) (by omega)
    rw [show ((n / 9 : Nat) : Int) = (n : Int) / 9 by omega] at hmk
    clear hk
    go_enter Tryz.func130, Tryz.ntmps130
    go_wp2_with fail
    refine (specIn_any _ _ _ true _ hin).mono ?_
    rintro e w' ⟨rfl, rfl⟩
    clear hin
    go_wp2
    go_loop [4, 5] (fun f i => ∃ (j : Nat) (p : Int), j ≤ n % 9 ∧ i = .int .i64 j ∧ f = .int .i64 p ∧ 0 < p ∧ p ≤ 100000000 ∧ Hid (p = 10 ^ j)) (fun _ i => n % 9 - (intOf i).toNat)
    case atStart => exact ⟨0, 1, Nat.zero_le _, rfl, rfl, by omega, by omega, Lib.hid rfl⟩
    case round =>
      obtain ⟨j, p, hj, rfl, rfl, hp0, hp1, HP⟩ := hrel
      by_cases hlt : (j : Int) < (n : Int) % 9
      · have HN : Hid (p * 10 = 10 ^ (j + 1) ∧ p * 10 ≤ 100000000) := Lib.hid (by
          have h1 : p * 10 = (10 : Int) ^ (j + 1) := by rw [HP.out, Int.pow_succ]
          exact ⟨h1, by rw [h1]; exact ten_eight (j + 1) (by omega)⟩)
        go_wp2
        go_round
        case rel => exact ⟨j + 1, p * 10, by omega, by go_num, rfl, by omega, HN.out.2, Lib.hid HN.out.1⟩
        case measure => simp [intOf]; omega
      · have HJ := Lib.hid (show j = n % 9 by omega)
        have hown : (w.alloc (.cells (madeCells #[.int .i64 0] (n / 9)) 3)).ownsRow w.heap.size 3 1 (.slice (some ⟨w.heap.size, 0, none⟩) (n / 9) (n / 9)) (n / 9) (intsV (List.replicate (n / 9) 0)) := by
          have h := World.ownsRow_lit (e := 3) (size := 1) (base := w.heap.size) w (madeCells #[.int .i64 0] (n / 9)) (n / 9) (Nat.le_refl _) (by unfold maxLen; omega) (by rw [size_madeCells, Nat.mul_one])
          rw [toList_madeCells_one] at h
          simpa [intsV] using h
        go_wp2_with (at_builtin; refine wpList_append_own _ rfl _ _ 22 rfl w.heap.size 3 i0 (.int .i64 0) 1 8 Tryz.underlying22 hi0 hz0 hz1 hz2 rfl (by decide) _ _ _ rfl (own_alloc hown _) ⟨w.heap.size + 1, 0, none⟩ 1 1 [.int .i64 p] rfl rfl ?c1 ?c2 ?c3 ?c4 ?c5 ?_)
        case c2 => first | (intro u hu; simp at hu; subst hu; rfl) | rfl
        case c3 => unfold maxLen; omega
        case c4 => omega
        case c5 => first | omega | (simp; omega)
        intro v1 w1 hown1 hg1 _
        have hb2 : Below w.heap.size w w1 := (((Below.refl _ w).alloc (Nat.le_refl _) _).alloc (by simp) _).grown hg1 (by simp; omega) (fun k hk => by cases hk; exact Nat.le_refl _)
        go_wp2
        go_ret
        refine ⟨_, rfl, ?_, hb2⟩
        rw [HV.out, ← HJ.out, ← HP.out]
        simpa [intsV] using hown1
  · have hin' : inB k 0 449 = false := by simpa using hin
    have HV : Hid (tenN k = []) := Lib.hid (by unfold tenN; rw [if_neg (of_decide_eq_false hin')])
    clear hin
    go_enter Tryz.func130, Tryz.ntmps130
    go_wp2_with fail
    refine (specIn_any _ _ _ false _ hin').mono ?_
    rintro e w' ⟨rfl, rfl⟩
    go_wp2
    go_ret
    rw [HV.out]
    exact new_nil (Below.refl _ _)

theorem tenN_len (k : Int) : (tenN k).length ≤ 50 := by
  unfold tenN
  split
  · rename_i h
    rw [ten_limbs]
    simp
    omega
  · simp

/-- what NatCut answers -/
def cutN (a : List Int) (k : Int) : List Int × List Int := if 0 ≤ k ∧ k ≤ 440 then divN a (tenN k) else ([], [])
set_option maxHeartbeats 400000 in
set_option maxRecDepth 100000 in
theorem specNatCut_any (va : Value) (a : List Int) (k : Int) (la ha : Nat) (w : World) (hal : a.length ≤ 1048576) (hha : ha ≤ w.heap.size) (hra : Row w la ha va (intsV a)) :
    Calls Tryz.prog 148 #[va, .int .i64 k] w (TwoRows (cutN a k).1 (cutN a k).2 w) := by
  by_cases hin : inB k 0 440 = true
  · have HV := Lib.hid (show cutN a k = divN a (tenN k) by unfold cutN; rw [if_pos (of_decide_eq_true hin)])
    have hl := tenN_len k
    go_enter Tryz.func148, Tryz.ntmps148
    go_wp2_with fail
    refine (specIn_any _ _ _ true _ hin).mono ?_
    rintro e w' ⟨rfl, rfl⟩
    clear hin
    go_wp2_with fail
    refine (specNatTen_any k _).mono ?_
    rintro e w1 ⟨v1, rfl, o1, b1⟩
    go_wp2_with fail
    refine (specNatDiv_any va v1 a (tenN k) la ha _ _ _ hal (by omega) (by have := b1.size; omega) (Nat.le_refl _) (hra.below b1 hha) (Row.of_own o1)).mono ?_
    rintro e w2 ⟨v2, v3, rfl, o2, o3, ap, b2⟩
    go_wp2
    go_ret2
    exact ⟨v2, v3, rfl, by rw [HV.out]; exact own_base o2 b1.size, by rw [HV.out]; exact own_base o3 b1.size, ap, Below.next b1 b2⟩
  · have hin' : inB k 0 440 = false := by simpa using hin
    have HV := Lib.hid (show cutN a k = ([], []) by unfold cutN; rw [if_neg (of_decide_eq_false hin')])
    clear hin
    go_enter Tryz.func148, Tryz.ntmps148
    go_wp2_with fail
    refine (specIn_any _ _ _ false _ hin').mono ?_
    rintro e w' ⟨rfl, rfl⟩
    go_wp2
    go_ret2
    rw [HV.out]
    exact two_nil (Below.refl _ _)

/-- what NatEven answers -/
def evenB (a : List Int) : Bool := natOkB a && decide (a.headD 0 % 2 = 0)
end Go.Proofs.YtofehcpapdlcnaaGreatDoor

namespace Go.Proofs.YtofehcpapdlcnaaGreatDoor
open Go.RowKit

/-- a decimal number as data: its number, its scale -/
abbrev DI : Type := SI × Int
def zeroD : DI := (zeroS, 0)
/-- DecOk -/
def okD (d : DI) : Bool := okS d.1 && (decide (d.1.2.length ≤ 6) && decide (0 ≤ d.2 ∧ d.2 ≤ 30))
def numD (d : DI) : Int := valS d.1
structure PartsD (d : DI) : Prop where
  ok : okS d.1 = true
  len : d.1.2.length ≤ 6
  lo : 0 ≤ d.2
  hi : d.2 ≤ 30
theorem partsD {d : DI} (h : okD d = true) : PartsD d := by
  unfold okD at h
  rw [Bool.and_eq_true, Bool.and_eq_true, decide_eq_true_eq, decide_eq_true_eq] at h
  exact ⟨h.1, h.2.1, h.2.2.1, h.2.2.2⟩
theorem okD_of {d : DI} (h : PartsD d) : okD d = true := by
  unfold okD
  rw [h.ok, decide_eq_true h.len, decide_eq_true (show 0 ≤ d.2 ∧ d.2 ≤ 30 from ⟨h.lo, h.hi⟩)]
  rfl
/-- a number with a scale, where that is right -/
def decD (x : SI) (k : Int) : DI × Bool := if okD (x, k) = true then ((x, k), true) else (zeroD, false)
/-- the same over an integer -/
def decZ (z k : Int) : DI × Bool := if (z.natAbs : Int) < bp 6 ∧ 0 ≤ k ∧ k ≤ 30 then ((ofZ z, k), true) else (zeroD, false)
/-- ten to the power k -/
def pt (k : Int) : Int := 10 ^ k.toNat
def tenS (k : Int) : SI := (false, tenN k)
def topD (d e : DI) : Int := if d.2 < e.2 then e.2 else d.2
def liftD (d : DI) (s : Int) : Int := numD d * pt (s - d.2)
def mulD (d e : DI) : DI × Bool := if okD d = true ∧ okD e = true then decZ (numD d * numD e) (d.2 + e.2) else (zeroD, false)
def cmpD (d e : DI) : Int := if okD d = true ∧ okD e = true then cmpI (liftD d (topD d e)) (liftD e (topD d e)) else 0
def atD (d : DI) (k : Int) : DI × Bool :=
  if okD d = true ∧ 0 ≤ k ∧ k ≤ 30 then
    (if d.2 ≤ k then decZ (liftD d k) k
     else if numD d % pt (d.2 - k) = 0 then decZ (numD d / pt (d.2 - k)) k else (zeroD, false))
  else (zeroD, false)

theorem pt_pos (k : Int) : 0 < pt k := ten_pos k.toNat
theorem pt_nat (k : Int) : ((10 ^ k.toNat : Nat) : Int) = pt k := by unfold pt; rw [Int.natCast_pow]; rfl
theorem bp_four : (10 : Int) ^ 30 < bp 4 := by decide
theorem pt_mono {j k : Int} (h : j ≤ k) : pt j ≤ pt k := by
  rw [← pt_nat, ← pt_nat]
  exact Int.ofNat_le.2 (Nat.pow_le_pow_right (by omega) (by omega))
theorem pt_lt {k : Int} (h : k ≤ 30) : pt k < bp 4 := by
  have h1 := pt_mono h
  have h2 : pt 30 < bp 4 := bp_four
  omega
theorem tenN_pt {k : Int} (h0 : 0 ≤ k) (h1 : k ≤ 30) : tenN k = limbs (10 ^ k.toNat) ∧ (tenN k).length ≤ 4 ∧ natOkB (tenN k) = true ∧ nval (tenN k) = pt k := by
  have e : tenN k = limbs (10 ^ k.toNat) := by unfold tenN; rw [if_pos ⟨h0, by omega⟩]
  have hl : (limbs (10 ^ k.toNat)).length ≤ 4 := limbs_length_le _ 4 (by rw [pt_nat]; exact pt_lt h1)
  refine ⟨e, by rw [e]; exact hl, by rw [e]; exact limbs_okL _ (by omega), ?_⟩
  rw [e, limbs_val, pt_nat]
theorem tenS_ok {k : Int} (h0 : 0 ≤ k) (h1 : k ≤ 30) : okS (tenS k) = true ∧ valS (tenS k) = pt k ∧ (tenS k).2.length ≤ 4 := by
  obtain ⟨_, h2, h3, h4⟩ := tenN_pt h0 h1
  exact ⟨by unfold okS tenS; rw [h3]; rfl, h4, h2⟩
/-- a right number of few limbs is small -/
theorem few_lt {x : SI} {k : Nat} (ok : okS x = true) (hl : x.2.length ≤ k) : ((valS x).natAbs : Int) < bp k := by
  have hp := okS_parts ok
  have ha := valS_abs x hp.1
  have h3 := nval_lt x.2 (natOk_parts hp.1).1
  have h4 := nval_ok hp.1
  have h5 : bp x.2.length ≤ bp k := bp_mono hl
  omega
theorem few_len {z : Int} {k : Nat} (hk : k ≤ 50) : (ofZ z).2.length ≤ k ∧ (limbs z.natAbs).length ≤ 50 ↔ (z.natAbs : Int) < bp k := by
  constructor
  · intro ⟨h, hl⟩
    have := few_lt (ofZ_ok z) h
    rw [ofZ_val hl] at this
    exact this
  · intro h
    have hl := limbs_length_le z.natAbs k h
    refine ⟨?_, by omega⟩
    unfold ofZ
    rw [if_pos (by omega)]
    exact hl
theorem ofZ_few {z : Int} {k : Nat} (h : (z.natAbs : Int) < bp k) (hk : k ≤ 50) : okS (ofZ z) = true ∧ valS (ofZ z) = z := ⟨ofZ_ok z, ofZ_val (by have := limbs_length_le z.natAbs k h; omega)⟩
theorem decD_ofZ {z : Int} (k : Int) (h : (z.natAbs : Int) < bp 50) : decD (ofZ z) k = decZ z k := by
  have hl := limbs_length_le z.natAbs 50 h
  unfold decD decZ
  by_cases hc : (z.natAbs : Int) < bp 6 ∧ 0 ≤ k ∧ k ≤ 30
  · rw [if_pos hc, if_pos (okD_of ⟨ofZ_ok z, ((few_len (by omega)).2 hc.1).1, hc.2.1, hc.2.2⟩)]
  · rw [if_neg hc, if_neg]
    intro ho
    have p := partsD ho
    exact hc ⟨(few_len (by omega)).1 ⟨p.len, hl⟩, p.lo, p.hi⟩
theorem decZ_yes {z k : Int} (h : (z.natAbs : Int) < bp 6) (h0 : 0 ≤ k) (h1 : k ≤ 30) : decZ z k = ((ofZ z, k), true) ∧ okD (ofZ z, k) = true ∧ numD (ofZ z, k) = z := by
  refine ⟨by unfold decZ; rw [if_pos ⟨h, h0, h1⟩], okD_of ⟨ofZ_ok z, ((few_len (by omega)).2 h).1, h0, h1⟩, (ofZ_few h (by omega)).2⟩
theorem decZ_parts {z k : Int} (h : (decZ z k).2 = true) : (z.natAbs : Int) < bp 6 ∧ 0 ≤ k ∧ k ≤ 30 := by
  unfold decZ at h
  by_cases hc : (z.natAbs : Int) < bp 6 ∧ 0 ≤ k ∧ k ≤ 30
  · exact hc
  · rw [if_neg hc] at h
    exact absurd h (by decide)
theorem num_lt {d : DI} (h : PartsD d) : ((numD d).natAbs : Int) < bp 6 := few_lt h.ok h.len
theorem absZ_mul (a b : Int) : ((a * b).natAbs : Int) = (a.natAbs : Int) * b.natAbs := by rw [Int.natAbs_mul]; exact Int.natCast_mul _ _
theorem mulZ_lt {a b : Int} {j k : Nat} (ha : (a.natAbs : Int) < bp j) (hb : (b.natAbs : Int) < bp k) : ((a * b).natAbs : Int) < bp (j + k) := by
  rw [absZ_mul, bp_add]
  have hk := bp_pos k
  exact Int.lt_of_le_of_lt (Int.mul_le_mul_of_nonneg_left (Int.le_of_lt hb) (by omega)) (Int.mul_lt_mul_of_pos_right ha hk)
theorem pt_abs {k : Int} (h : k ≤ 30) : ((pt k).natAbs : Int) < bp 4 := by
  have h1 := pt_pos k
  have h2 := pt_lt h
  omega
theorem lift_lt {d : DI} {s : Int} (h : PartsD d) (hs : s ≤ 30) : ((liftD d s).natAbs : Int) < bp 10 := by
  have hm := mulZ_lt (j := 6) (k := 4) (num_lt h) (pt_abs (k := s - d.2) (by have := h.lo; omega))
  exact hm
/-- what a multiplication by a power of ten gives -/
theorem mul_ten {d : DI} {j : Int} (h : PartsD d) (h0 : 0 ≤ j) (h1 : j ≤ 30) : mulS d.1 (tenS j) = ofZ (numD d * pt j) ∧ okS (mulS d.1 (tenS j)) = true ∧ valS (mulS d.1 (tenS j)) = numD d * pt j := by
  have t := tenS_ok h0 h1
  have e : mulS d.1 (tenS j) = ofZ (numD d * pt j) := by unfold mulS; rw [if_pos ⟨h.ok, t.1⟩, t.2.1]; rfl
  have s := ofZ_few (mulZ_lt (j := 6) (k := 4) (num_lt h) (pt_abs h1)) (by omega)
  exact ⟨e, by rw [e]; exact s.1, by rw [e]; exact s.2⟩
theorem topD_le {d e : DI} (hd : PartsD d) (he : PartsD e) : d.2 ≤ topD d e ∧ e.2 ≤ topD d e ∧ 0 ≤ topD d e ∧ topD d e ≤ 30 := by
  have := hd.lo; have := hd.hi; have := he.lo; have := he.hi
  unfold topD
  split <;> omega
def szD (q : DI) : Int := szS q.1
theorem decZ_sz (z k : Int) : szD (decZ z k).1 ≤ 1048576 := by
  unfold decZ
  split
  · have := ofZ_len z
    unfold szD szS szI
    simp only
    omega
  · decide
theorem cmpD_is {d e : DI} (hd : okD d = true) (he : okD e = true) : cmpS (mulS d.1 (tenS (topD d e - d.2))) (mulS e.1 (tenS (topD d e - e.2))) = cmpD d e := by
  have pd := partsD hd
  have pe := partsD he
  have t := topD_le pd pe
  have md := mul_ten pd (j := topD d e - d.2) (by omega) (by have := pd.lo; omega)
  have me := mul_ten pe (j := topD d e - e.2) (by omega) (by have := pe.lo; omega)
  unfold cmpS
  rw [if_pos ⟨md.2.1, me.2.1⟩, md.2.2, me.2.2]
  unfold cmpD
  rw [if_pos ⟨hd, he⟩]
  rfl
theorem mulD_is {d e : DI} (hd : okD d = true) (he : okD e = true) : decD (mulS d.1 e.1) (d.2 + e.2) = mulD d e := by
  have pd := partsD hd
  have pe := partsD he
  unfold mulS
  rw [if_pos ⟨pd.ok, pe.ok⟩]
  unfold mulD
  rw [if_pos ⟨hd, he⟩]
  have h := mulZ_lt (j := 6) (k := 6) (num_lt pd) (num_lt pe)
  have h2 : bp (6 + 6) ≤ bp 50 := bp_mono (by omega)
  exact decD_ofZ _ (by show ((numD d * numD e).natAbs : Int) < _; omega)
/-- the same number at another scale, upwards -/
theorem atD_up {d : DI} {k : Int} (hd : okD d = true) (h0 : 0 ≤ k) (h1 : k ≤ 30) (hk : d.2 ≤ k) : decD (mulS d.1 (tenS (k - d.2))) k = atD d k := by
  have pd := partsD hd
  have m := mul_ten pd (j := k - d.2) (by omega) (by have := pd.lo; omega)
  have h2 : bp 10 ≤ bp 50 := bp_mono (by omega)
  unfold atD
  rw [if_pos ⟨hd, h0, h1⟩, if_pos hk, m.1]
  exact decD_ofZ _ (by have := lift_lt pd h1; show ((liftD d k).natAbs : Int) < _; omega)
theorem trunc_of {n : Bool} {A : Nat} {P : Int} (hd : (A : Int) % P = 0) : (if n = true then -(A : Int) else A) % P = 0 ∧ (if n = true then -(A : Int) else A) / P = if n = true then -((A : Int) / P) else (A : Int) / P := by
  cases n
  · exact ⟨by simpa using hd, by simp⟩
  · have hdv : P ∣ (A : Int) := Int.dvd_of_emod_eq_zero hd
    simp only [if_true]
    exact ⟨Int.emod_eq_zero_of_dvd (Int.dvd_neg.2 hdv), Int.neg_ediv_of_dvd hdv⟩
/-- and downwards: cut off what is too much -/
theorem atD_down {d : DI} {k : Int} (hd : okD d = true) (h0 : 0 ≤ k) (hk : k < d.2) :
    (0 < (cutN d.1.2 (d.2 - k)).2.length → atD d k = (zeroD, false)) ∧ (¬ 0 < (cutN d.1.2 (d.2 - k)).2.length → decD (d.1.1, (cutN d.1.2 (d.2 - k)).1) k = atD d k) := by
  have pd := partsD hd
  have hi := pd.hi
  have t := tenN_pt (k := d.2 - k) (by omega) (by omega)
  have hp := okS_parts pd.ok
  have hn := nval_ok hp.1
  have hP := pt_pos (d.2 - k)
  have ht : 0 < (tenN (d.2 - k)).length := by
    rcases Nat.eq_zero_or_pos (tenN (d.2 - k)).length with h | h
    · have e : tenN (d.2 - k) = [] := List.eq_nil_of_length_eq_zero h
      have := t.2.2.2
      rw [e] at this
      simp only [nval] at this
      omega
    · exact h
  have hc : cutN d.1.2 (d.2 - k) = (limbs (nval d.1.2 / pt (d.2 - k)).toNat, limbs (nval d.1.2 % pt (d.2 - k)).toNat) := by
    unfold cutN
    rw [if_pos (by omega)]
    unfold divN
    rw [if_pos ⟨hp.1, t.2.2.1, ht⟩, t.2.2.2]
  rw [hc]
  show (0 < (limbs (nval d.1.2 % pt (d.2 - k)).toNat).length → _) ∧ (¬ 0 < (limbs (nval d.1.2 % pt (d.2 - k)).toNat).length → _)
  have hm0 := Int.emod_nonneg (nval d.1.2) (Int.ne_of_gt hP)
  have hv : numD d = if d.1.1 = true then -((nval d.1.2).toNat : Int) else (nval d.1.2).toNat := by
    unfold numD valS
    rw [Int.toNat_of_nonneg hn]
  have hA : ((nval d.1.2).toNat : Int) = nval d.1.2 := Int.toNat_of_nonneg hn
  have key : (limbs (nval d.1.2 % pt (d.2 - k)).toNat).length = 0 ↔ numD d % pt (d.2 - k) = 0 := by
    rw [limbs_zero_iff]
    constructor
    · intro h
      rw [hv]
      exact (trunc_of (by rw [hA]; omega)).1
    · intro h
      have : nval d.1.2 % pt (d.2 - k) = 0 := by
        rw [hv] at h
        split at h
        · rw [hA] at h
          exact Int.emod_eq_zero_of_dvd (Int.dvd_neg.1 (Int.dvd_of_emod_eq_zero h))
        · rw [hA] at h
          exact h
      omega
  unfold atD
  rw [if_pos ⟨hd, h0, by omega⟩, if_neg (by omega)]
  refine ⟨fun h => by rw [if_neg (fun e => by rw [← key] at e; omega)], fun h => ?_⟩
  have hz : numD d % pt (d.2 - k) = 0 := key.1 (by omega)
  rw [if_pos hz]
  have hr : nval d.1.2 % pt (d.2 - k) = 0 := by
    have := (limbs_zero_iff _).1 (key.2 hz)
    omega
  have tr := trunc_of (n := d.1.1) (A := (nval d.1.2).toNat) (by rw [hA]; exact hr)
  have hq0 : 0 ≤ nval d.1.2 / pt (d.2 - k) := Int.ediv_nonneg hn (by omega)
  have hql : nval d.1.2 / pt (d.2 - k) ≤ nval d.1.2 := Int.ediv_le_self _ hn
  have hlt := num_lt pd
  have hab : ((numD d).natAbs : Int) = nval d.1.2 := by rw [hv]; split <;> omega
  have hb : (((numD d / pt (d.2 - k)).natAbs : Nat) : Int) < bp 6 := by
    rw [hv, tr.2, hA]
    split <;> omega
  have hl6 : (limbs (nval d.1.2 / pt (d.2 - k)).toNat).length ≤ 6 := limbs_length_le _ 6 (by omega)
  have he : ((d.1.1, limbs (nval d.1.2 / pt (d.2 - k)).toNat) : SI) = ofZ (numD d / pt (d.2 - k)) := by
    have e1 : mkS d.1.1 (limbs (nval d.1.2 / pt (d.2 - k)).toNat) = ofZ (numD d / pt (d.2 - k)) := by
      rw [mkS_limbs, hv, tr.2, hA, Int.toNat_of_nonneg hq0]
    rw [← e1]
    unfold mkS capL
    rw [if_neg (by omega)]
    refine Prod.ext ?_ rfl
    show d.1.1 = (d.1.1 && decide (0 < (limbs (nval d.1.2 / pt (d.2 - k)).toNat).length))
    cases hs : d.1.1 with
    | false => rfl
    | true =>
      have h3 : 0 < nval d.1.2 := okS_pos pd.ok (hp.2 hs)
      have h4 : nval d.1.2 / pt (d.2 - k) ≠ 0 := fun e => by
        have := Int.mul_ediv_add_emod (nval d.1.2) (pt (d.2 - k))
        rw [e, hr] at this
        omega
      have h5 : 0 < (limbs (nval d.1.2 / pt (d.2 - k)).toNat).length := by
        rcases Nat.eq_zero_or_pos (limbs (nval d.1.2 / pt (d.2 - k)).toNat).length with h | h
        · have := (limbs_zero_iff _).1 h
          omega
        · exact h
      rw [decide_eq_true h5]
      rfl
  rw [he]
  exact decD_ofZ _ (by have : bp 6 ≤ bp 50 := bp_mono (by omega); omega)

/-! ### the smallest scale -/
theorem decZ_num {d : DI} (h : okD d = true) : decZ (numD d) d.2 = (d, true) := by
  have p := partsD h
  rw [(decZ_yes (num_lt p) p.lo p.hi).1]
  show ((ofZ (valS d.1), d.2), true) = (d, true)
  rw [okS_ofZ p.ok]
theorem pt_zero : pt 0 = 1 := rfl
theorem at_self {d : DI} (h : okD d = true) : atD d d.2 = (d, true) := by
  have p := partsD h
  unfold atD liftD
  rw [if_pos ⟨h, p.lo, p.hi⟩, if_pos (Int.le_refl _), Int.sub_self, pt_zero, Int.mul_one]
  exact decZ_num h
theorem at_parts {d : DI} {k : Int} (hd : okD d = true) (h : (atD d k).2 = true) (hk : k ≤ d.2) : okD (atD d k).1 = true ∧ (atD d k).1.2 = k ∧ liftD (atD d k).1 d.2 = numD d := by
  rcases Int.lt_or_eq_of_le hk with hk | rfl
  · unfold atD at h ⊢
    split at h
    · rename_i hc
      rw [if_pos hc] 
      rw [if_neg (by omega)] at h ⊢
      split at h
      · rename_i hz
        rw [if_pos hz]
        have b := decZ_parts h
        have y := decZ_yes b.1 b.2.1 b.2.2
        rw [y.1]
        refine ⟨y.2.1, rfl, ?_⟩
        unfold liftD
        show numD (ofZ (numD d / pt (d.2 - k)), k) * pt (d.2 - k) = _
        rw [y.2.2]
        exact Int.ediv_mul_cancel (Int.dvd_of_emod_eq_zero hz)
      · exact absurd h (by decide)
    · exact absurd h (by decide)
  · rw [at_self hd]
    refine ⟨hd, rfl, ?_⟩
    unfold liftD
    rw [Int.sub_self, pt_zero, Int.mul_one]
theorem at_back {q d : DI} (hd : okD d = true) (hq : okD q = true) (hk : q.2 ≤ d.2) (h : liftD q d.2 = numD d) : atD q d.2 = (d, true) := by
  have p := partsD hd
  unfold atD
  rw [if_pos ⟨hq, p.lo, p.hi⟩, if_pos hk, h]
  exact decZ_num hd
def lowFrom (d : DI) : Nat → Int → DI
  | 0, _ => zeroD
  | n + 1, k => if (atD d k).2 = true then (atD d k).1 else lowFrom d n (k + 1)
/-- the same number with the smallest scale -/
def lowD (d : DI) : DI := lowFrom d 31 0
theorem low_hit {d : DI} {n : Nat} {k : Int} (h : (atD d k).2 = true) : lowFrom d (n + 1) k = (atD d k).1 := if_pos h
theorem low_miss {d : DI} {n : Nat} {k : Int} (h : (atD d k).2 = false) : lowFrom d (n + 1) k = lowFrom d n (k + 1) := if_neg (by rw [h]; decide)
theorem low_bad {d : DI} (h : ¬ okD d = true) : ∀ (n : Nat) (k : Int), lowFrom d n k = zeroD := by
  intro n
  induction n with
  | zero => intro k; rfl
  | succ n ih => intro k; rw [low_miss (by unfold atD; rw [if_neg (fun e => h e.1)])]; exact ih _
theorem low_from {d : DI} (hd : okD d = true) : ∀ (n : Nat) (k : Int), 0 ≤ k → k ≤ d.2 → d.2 < k + n → ∃ j, k ≤ j ∧ j ≤ d.2 ∧ (atD d j).2 = true ∧ lowFrom d n k = (atD d j).1 ∧ ∀ i, k ≤ i → i < j → (atD d i).2 = false := by
  intro n
  induction n with
  | zero => intro k h0 h1 h2; omega
  | succ n ih =>
    intro k h0 h1 h2
    by_cases hc : (atD d k).2 = true
    · exact ⟨k, Int.le_refl _, h1, hc, low_hit hc, fun i h3 h4 => by omega⟩
    · have hf : (atD d k).2 = false := by simpa using hc
      have hne : k ≠ d.2 := fun e => by rw [e, at_self hd] at hc; exact hc rfl
      obtain ⟨j, j1, j2, j3, j4, j5⟩ := ih (k + 1) (by omega) (by omega) (by omega)
      exact ⟨j, by omega, j2, j3, by rw [low_miss hf]; exact j4, fun i h3 h4 => by
        rcases Int.lt_or_eq_of_le h3 with h | rfl
        · exact j5 i (by omega) h4
        · exact hf⟩
theorem low_is_at {d : DI} (hd : okD d = true) : ∃ j, 0 ≤ j ∧ j ≤ d.2 ∧ (atD d j).2 = true ∧ lowD d = (atD d j).1 ∧ ∀ i, 0 ≤ i → i < j → (atD d i).2 = false :=
  low_from hd 31 0 (Int.le_refl _) (partsD hd).lo (by have := (partsD hd).hi; omega)
theorem lowD_ok {d : DI} (hd : okD d = true) : okD (lowD d) = true ∧ (lowD d).2 ≤ d.2 ∧ liftD (lowD d) d.2 = numD d ∧ atD (lowD d) d.2 = (d, true) := by
  obtain ⟨j, _, j2, j3, j4, _⟩ := low_is_at hd
  obtain ⟨k1, k2, k3⟩ := at_parts hd j3 j2
  rw [j4]
  exact ⟨k1, by rw [k2]; exact j2, k3, at_back hd k1 (by rw [k2]; exact j2) k3⟩
theorem atD_sz (d : DI) (k : Int) : szD (atD d k).1 ≤ 1048576 := by
  unfold atD
  split
  · split
    · exact decZ_sz _ _
    · split
      · exact decZ_sz _ _
      · decide
  · decide
theorem zeroD_sz : szD zeroD ≤ 1048576 := by decide
theorem lowD_sz (d : DI) : szD (lowD d) ≤ 1048576 := by
  by_cases h : okD d = true
  · obtain ⟨j, _, _, _, j4, _⟩ := low_is_at h
    rw [j4]
    exact atD_sz d j
  · unfold lowD
    rw [low_bad h]
    exact zeroD_sz
theorem mulD_sz (d e : DI) : szD (mulD d e).1 ≤ 1048576 := by unfold mulD; split; exact decZ_sz _ _; exact zeroD_sz
end Go.Proofs.YtofehcpapdlcnaaGreatDoor

namespace Go.Proofs.YtofehcpapdlcnaaGreatDoor
open Go.RowKit

/-- a value that stands for it, its limbs of the call's own -/
def OwnD (v : Value) (q : DI) (w : World) : Prop := ∃ u, v = .agg #[.bool q.1.1, u, .int .i64 q.2] ∧ OwnI u q.1.2 w
def MarkD (v : Value) (q : DI) (m : Int) (w : World) : Prop := ∃ u, v = .agg #[.bool q.1.1, u, .int .i64 q.2] ∧ MarkI u q.1.2 m w
/-- a value that reads as it -/
def RdD (w : World) (v : Value) (q : DI) : Prop := ∃ u, v = .agg #[.bool q.1.1, u, .int .i64 q.2] ∧ Row w 0 w.heap.size u (intsV q.1.2)
theorem OwnD.rd {v : Value} {q : DI} {w : World} (h : OwnD v q w) : RdD w v q := by
  obtain ⟨u, rfl, o⟩ := h
  exact ⟨u, rfl, o.row⟩
theorem OwnD.mk {u : Value} {q : DI} {w : World} (h : OwnI u q.1.2 w) : OwnD (.agg #[.bool q.1.1, u, .int .i64 q.2]) q w := ⟨u, rfl, h⟩
theorem OwnD.below {w W : World} {v : Value} {q : DI} (h : OwnD v q w) (hb : Below w.heap.size w W) : OwnD v q W := by
  obtain ⟨u, rfl, o⟩ := h
  exact ⟨u, rfl, own_below o hb⟩
theorem RdD.below {w W : World} {v : Value} {q : DI} (h : RdD w v q) (hb : Below w.heap.size w W) : RdD W v q := by
  obtain ⟨u, rfl, o⟩ := h
  exact ⟨u, rfl, (o.below hb (Nat.le_refl _)).wide (Nat.le_refl _) hb.size⟩
def capD (q : DI) : Prop := q.1.2.length ≤ 9223372036854775807
theorem szD_nonneg (q : DI) : 0 ≤ szD q := by unfold szD szS szI; omega
theorem szD_len {q : DI} (h : szD q ≤ 1048576) : q.1.2.length ≤ 1048576 := by unfold szD szS szI at h; omega
theorem capD_of {q : DI} (h : szD q ≤ 1048576) : capD q := by have := szD_len h; unfold capD; omega
theorem ownD_form {v : Value} {q : DI} {w : World} (h : OwnD v q w) : ∃ A c, v = .agg #[.bool q.1.1, .slice A q.1.2.length c, .int .i64 q.2] := by
  obtain ⟨u, rfl, o⟩ := h
  obtain ⟨A, c, rfl⟩ := own_len o
  exact ⟨A, c, rfl⟩
theorem rdD_form {v : Value} {q : DI} {w : World} (h : RdD w v q) : ∃ A c, v = .agg #[.bool q.1.1, .slice A q.1.2.length c, .int .i64 q.2] := by
  obtain ⟨u, rfl, o⟩ := h
  obtain ⟨A, c, rfl⟩ := row_form o
  rw [intsV_length]
  exact ⟨A, c, rfl⟩
theorem ownD_open {u c s : Value} {q : DI} {w : World} (h : OwnD (.agg #[c, u, s]) q w) : OwnI u q.1.2 w := by
  obtain ⟨u', e, hu⟩ := h
  injection e with e
  simp at e
  obtain ⟨_, e2, _⟩ := e
  subst e2
  exact hu
theorem ownS_openD {u c : Value} {x : SI} {w : World} (h : OwnS (.agg #[c, u]) x w) : OwnI u x.2 w := by
  obtain ⟨u', e, hu⟩ := h
  injection e with e
  simp at e
  obtain ⟨_, e2⟩ := e
  subst e2
  exact hu
/-- a value whose blocks stay while others are written -/
theorem newV_chg {φ : Value → World → Prop} {S T : List Nat} {v : Value} {w W : World} (o : At S (φ v) W) (hd : ∀ i ∈ S, i ∉ T) (hT : ∀ i ∈ T, w.heap.size ≤ i) (l : ∀ i ∈ S, w.heap.size ≤ i) (hW : Below w.heap.size w W) :
    ∀ W', Chg T W W' → NewV φ w (.returned v) W' :=
  fun _ hc => ⟨v, S, rfl, o.chg hc hd, fun i hi => ⟨l i hi, Nat.lt_of_lt_of_le (o.lt i hi) hc.size⟩, below_chg hW hc hW.size hT⟩
/-- what a call answers: a new decimal number and a bool -/
def PostDb (R0 : DI) (R1 : Bool) (w : World) (e : Ending) (w' : World) : Prop :=
  ∃ (v : Value) (S : List Nat), e = .returned (.tuple #[v, .bool R1]) ∧ At S (OwnD v R0) w' ∧ Within S w.heap.size w'.heap.size ∧ Below w.heap.size w w'
theorem postDb_is {q : DI × Bool} {X : DI} {b : Bool} (e : q = (X, b)) {w w' : World} {n : Ending} (h : PostDb q.1 q.2 w n w') : PostDb X b w n w' := by rw [e] at h; exact h
theorem postn_eqD {a b : Int} (h : a = b) {w w' : World} {e : Ending} (k : Postn a w e w') : Postn b w e w' := h ▸ k
theorem newVD_eq {a b : DI} (e : a = b) {w w' : World} {n : Ending} (h : NewV (fun v => OwnD v a) w n w') : NewV (fun v => OwnD v b) w n w' := e ▸ h
theorem postDb_chg {S T : List Nat} {v : Value} {x : DI} {b : Bool} {w W : World} (o : At S (OwnD v x) W) (hd : ∀ i ∈ S, i ∉ T) (hT : ∀ i ∈ T, w.heap.size ≤ i) (l : ∀ i ∈ S, w.heap.size ≤ i) (hW : Below w.heap.size w W) :
    ∀ W', Chg T W W' → PostDb x b w (.returned (.tuple #[v, .bool b])) W' :=
  fun _ hc => ⟨v, S, rfl, o.chg hc hd, fun i hi => ⟨l i hi, Nat.lt_of_lt_of_le (o.lt i hi) hc.size⟩, below_chg hW hc hW.size hT⟩
theorem chg_set3 {r : Nat} {c0 c1 c2 : Value} {W : World} : Chg [r] W (((W.setCell ⟨r, 0, none⟩ c0).setCell ⟨r, 1, none⟩ c1).setCell ⟨r, 2, none⟩ c2) := (((Chg.refl _ _).setCell (by simp) _).setCell (by simp) _).setCell (by simp) _
theorem newDb_at {r B : Nat} {S : List Nat} {c0 c1 c2 : Value} {x : DI} {b : Bool} {w W : World} (o : At S (OwnD (.agg #[c0, c1, c2]) x) W) (l : Within S B W.heap.size) (hrB : r < B) (hr : w.heap.size ≤ r) (hW : Below w.heap.size w W) :
    PostDb x b w (.returned (.tuple #[.agg #[c0, c1, c2], .bool b])) (((W.setCell ⟨r, 0, none⟩ c0).setCell ⟨r, 1, none⟩ c1).setCell ⟨r, 2, none⟩ c2) :=
  postDb_chg o (fun i hi hm => by have := l i hi; simp at hm; omega) (fun i hi => by simp at hi; omega) (fun i hi => by have := l i hi; omega) hW _ chg_set3
theorem ownD_zero (w : World) : OwnD (.agg #[.bool false, .slice none 0 0, .int .i64 0]) zeroD w := ⟨_, rfl, World.ownsRow_nil _ _ _ _⟩
theorem atD_zero (w : World) : At [] (OwnD (.agg #[.bool false, .slice none 0 0, .int .i64 0]) zeroD) w := ⟨ownD_zero _, fun _ hg => absurd hg List.not_mem_nil, fun w' _ => ownD_zero w'⟩
theorem newDb_zero {w W : World} (b : Bool) (hW : Below w.heap.size w W) : PostDb zeroD b w (.returned (.tuple #[.agg #[.bool false, .slice none 0 0, .int .i64 0], .bool b])) W :=
  ⟨_, [], rfl, atD_zero _, fun _ hg => absurd hg List.not_mem_nil, hW⟩
theorem newD_zero {w W : World} (hW : Below w.heap.size w W) : NewV (fun v => OwnD v zeroD) w (.returned (.agg #[.bool false, .slice none 0 0, .int .i64 0])) W :=
  ⟨_, [], rfl, atD_zero _, fun _ hg => absurd hg List.not_mem_nil, hW⟩
set_option maxHeartbeats 400000 in
set_option maxRecDepth 100000 in
theorem eqD_cal (u v : Value) (x y : DI) (w : World) (hz : capD x) (hu : RdD w u x) (hv : RdD w v y) : Calls Tryz.prog 15 #[u, v] w (Postb (decide (x = y)) w) := by
  obtain ⟨p, rfl, hp⟩ := hu
  obtain ⟨q, rfl, hq⟩ := hv
  obtain ⟨Ap, cp, rfl⟩ := row_form hp
  obtain ⟨Aq, cq, rfl⟩ := row_form hq
  simp only [intsV_length] at hp hq ⊢
  have hb : Below w.heap.size w ((w.alloc (.cells #[.bool x.1.1, .slice Ap x.1.2.length cp, .int .i64 x.2] 40)).alloc (.cells #[.bool y.1.1, .slice Aq y.1.2.length cq, .int .i64 y.2] 40)) := below_al (below_al (Below.refl _ _) _) _
  have kx := (box_new w #[.bool x.1.1, .slice Ap x.1.2.length cp, .int .i64 x.2] 40).below (below_al (Below.refl _ _) (.cells #[.bool y.1.1, .slice Aq y.1.2.length cq, .int .i64 y.2] 40))
  have ky := box_new (w.alloc (.cells #[.bool x.1.1, .slice Ap x.1.2.length cp, .int .i64 x.2] 40)) #[.bool y.1.1, .slice Aq y.1.2.length cq, .int .i64 y.2] 40
  rw [show (w.alloc (.cells #[.bool x.1.1, .slice Ap x.1.2.length cp, .int .i64 x.2] 40)).heap.size = w.heap.size + 1 by simp] at ky
  go_enter Tryz.func15, Tryz.ntmps15
  go_wp2_with fail
  refine (eqSigned_at _ _ x.1 y.1 _ hz (rdS_below hp hb) (rdS_below hq hb)).mono ?_
  rintro e w1 ⟨rfl, b1⟩
  have bb1 := Below.next hb b1
  replace kx := kx.below b1
  replace ky := ky.below b1
  have cx2 := kx.here.cell 2 _ rfl
  have cy2 := ky.here.cell 2 _ rfl
  clear hp hq kx ky
  by_cases h1 : x.1 = y.1
  · rw [decide_eq_true h1]
    have H1 := Lib.hid h1
    clear h1
    by_cases h2 : x.2 = y.2
    · have HV := Lib.hid (show decide (x = y) = true from decide_eq_true (Prod.ext H1.out h2))
      have hq2 : (x.2 != y.2) = false := by rw [h2]; exact bne_self_eq_false _
      clear h2
      go_wp2
      go_ret
      exact ⟨ret_bool HV.out.symm, bb1⟩
    · have HV := Lib.hid (show decide (x = y) = false from decide_eq_false (fun e => h2 (by rw [e])))
      have hq2 : (x.2 != y.2) = true := by rw [bne_iff_ne]; exact h2
      clear h2
      go_wp2
      go_ret
      exact ⟨ret_bool HV.out.symm, bb1⟩
  · rw [decide_eq_false h1]
    have HV := Lib.hid (show decide (x = y) = false from decide_eq_false (fun e => h1 (by rw [e])))
    clear h1
    go_wp2
    go_ret
    exact ⟨ret_bool HV.out.symm, bb1⟩
set_option maxHeartbeats 400000 in
set_option maxRecDepth 100000 in
theorem szD_cal (v : Value) (x : DI) (left : Int) (w : World) (hl : capD x) (h0 : 0 ≤ left) (h1 : left ≤ 1048576) (h : RdD w v x) : Calls Tryz.prog 8 #[v, .int .i64 left] w (Postn (leftI left (szD x)) w) := by
  obtain ⟨p, rfl, hp⟩ := h
  obtain ⟨Ap, cp, rfl⟩ := row_form hp
  simp only [intsV_length] at hp ⊢
  have hb := below_al (Below.refl w.heap.size w) (.cells #[.bool x.1.1, .slice Ap x.1.2.length cp, .int .i64 x.2] 28)
  have kx := box_new w #[.bool x.1.1, .slice Ap x.1.2.length cp, .int .i64 x.2] 28
  have kx_c0 := kx.here.cell 0 _ rfl
  have kx_c1 := kx.here.cell 1 _ rfl
  go_enter Tryz.func8, Tryz.ntmps8
  go_wp2_with fail
  clear kx_c0 kx_c1 kx
  refine (szSigned_at _ x.1 left _ hl h0 h1 (rdS_below hp hb)).mono ?_
  rintro e w1 ⟨rfl, b1⟩
  have bb1 := Below.next hb b1
  have hq : leftI left (szS x.1) < 0 ∧ leftI left (szS x.1) = -1 ∨ ¬ leftI left (szS x.1) < 0 := by unfold leftI; split <;> omega
  obtain ⟨z, hz⟩ : ∃ z, leftI left (szS x.1) = z := ⟨_, rfl⟩
  have HL := Lib.hid (show leftI left (szD x) = z from hz)
  rw [hz] at hq ⊢
  clear hp hz
  rcases hq with ⟨h2, h3⟩ | h2
  · have hneg : decide (z < 0) = true := decide_eq_true h2
    have H3 := Lib.hid h3
    clear h2 h3
    go_wp2
    go_ret
    exact ⟨ret_int (H3.out.symm.trans HL.out.symm), bb1⟩
  · have hneg : decide (z < 0) = false := decide_eq_false h2
    clear h2
    go_wp2
    go_ret
    exact ⟨ret_int HL.out.symm, bb1⟩
set_option maxHeartbeats 1000000 in
set_option maxRecDepth 100000 in
theorem toD_new (v : Value) (x : DI) (w : World) (hz : szD x ≤ 1048576) (h : RdD w v x) : Calls Tryz.prog 11 #[v] w (NewV (fun u => OwnD u x) w) := by
  have hl := szD_len hz
  obtain ⟨p, rfl, hp⟩ := h
  obtain ⟨Ap, cp, rfl⟩ := row_form hp
  simp only [intsV_length] at hp ⊢
  have h3 := alloc3 w (.cells #[.bool x.1.1, .slice Ap x.1.2.length cp, .int .i64 x.2] 28) (.cells #[.bool false, .slice none 0 0, .int .i64 0] 40) (.cells #[.bool false, .slice none 0 0, .int .i64 0] 40)
  have hb3 := below3 w (.cells #[.bool x.1.1, .slice Ap x.1.2.length cp, .int .i64 x.2] 28) (.cells #[.bool false, .slice none 0 0, .int .i64 0] 40) (.cells #[.bool false, .slice none 0 0, .int .i64 0] 40)
  obtain ⟨W0, hW0⟩ : ∃ W0, W0 = (((w.alloc (.cells #[.bool x.1.1, .slice Ap x.1.2.length cp, .int .i64 x.2] 28)).alloc (.cells #[.bool false, .slice none 0 0, .int .i64 0] 40)).alloc (.cells #[.bool false, .slice none 0 0, .int .i64 0] 40)) := ⟨_, rfl⟩
  rw [← hW0] at h3 hb3
  have kb : At [w.heap.size] (BoxAt w.heap.size #[.bool x.1.1, .slice Ap x.1.2.length cp, .int .i64 x.2] 28) W0 := box_at h3.1
  have kr : At [w.heap.size + 1] (BoxAt (w.heap.size + 1) #[.bool false, .slice none 0 0, .int .i64 0] 40) W0 := box_at h3.2.1
  have ko : At [w.heap.size + 1 + 1] (BoxAt (w.heap.size + 1 + 1) #[.bool false, .slice none 0 0, .int .i64 0] 40) W0 := box_at h3.2.2.1
  have hz0 : W0.heap.size = w.heap.size + 3 := h3.2.2.2
  have HW := Lib.hid hW0
  clear h3 hW0
  have cb0 := kb.here.cell 0 _ rfl
  have cb1 := kb.here.cell 1 _ rfl
  go_enter Tryz.func11, Tryz.ntmps11
  go_wp2_with fail
  rw [← HW.out]
  refine (toSigned_at _ x.1 _ hl (rdS_below hp hb3)).mono ?_
  rintro e w1 ⟨u, rfl, o1, b1⟩
  obtain ⟨Au, cu, rfl⟩ := own_len o1
  have bb1 := Below.next hb3 b1
  replace kb := kb.below b1
  replace kr := kr.below b1
  replace ko := ko.below b1
  have HR := Lib.hid (newV_chg (φ := fun u => OwnD u x) (v := .agg #[.bool x.1.1, .slice Au x.1.2.length cu, .int .i64 x.2]) (T := [w.heap.size + 1, w.heap.size + 1 + 1]) ((own_at' o1).imp fun _ h => (OwnD.mk h : OwnD _ x _)) (fun i hi hm => by have := own_within o1 i hi; simp at hm; omega) (fun i hi => by simp at hi; omega) (fun i hi => by have := own_within o1 i hi; omega) bb1)
  have cb2 := kb.here.cell 2 _ rfl
  have co0 := ko.here.cell 0 _ rfl
  have co1 := ko.here.cell 1 _ rfl
  have co2 := ko.here.cell 2 _ rfl
  have fo0 := Lib.frozen_of_heap ko.here 0
  have fo1 := Lib.frozen_of_heap ko.here 1
  have fo2 := Lib.frozen_of_heap ko.here 2
  have cr0 := kr.here.cell 0 _ rfl
  have cr1 := kr.here.cell 1 _ rfl
  have cr2 := kr.here.cell 2 _ rfl
  have fr0 := Lib.frozen_of_heap kr.here 0
  have fr1 := Lib.frozen_of_heap kr.here 1
  have fr2 := Lib.frozen_of_heap kr.here 2
  clear kb kr ko o1 b1 bb1 hp cb0 cb1
  go_wp2
  refine bodyPost_ret (v := .agg #[.bool x.1.1, .slice Au x.1.2.length cu, .int .i64 x.2]) (by simp [results, Tryz.results11, go_sem, cr0, cr1, cr2]) rfl ?_
  exact HR.out _ ((((((Chg.refl _ _).setCell (by simp) _).setCell (by simp) _).setCell (by simp) _).setCell (by simp) _).setCell (by simp) _ |>.setCell (by simp) _)
set_option maxHeartbeats 400000 in
set_option maxRecDepth 100000 in
theorem markD_cal (v : Value) (x : DI) (S : List Nat) (m : Int) (w : World) (hm : m + szD x ≤ 9223372036854775807) (hm0 : 0 ≤ m) (h : At S (OwnD v x) w) :
    Calls Tryz.prog 17 #[v, .int .i64 m] w fun e w' => e = .returned (.int .i64 (m + szD x)) ∧ At S (MarkD v x m) w' ∧ Chg S w w' := by
  obtain ⟨A, c, rfl⟩ := ownD_form h.here
  have hbx := below_al (Below.refl w.heap.size w) (.cells #[.bool x.1.1, .slice A x.1.2.length c, .int .i64 x.2] 40)
  have kx := box_new w #[.bool x.1.1, .slice A x.1.2.length c, .int .i64 x.2] 40
  have ax := (h.below hbx).imp (fun _ h => (OwnS.mk (ownD_open h) : OwnS (.agg #[.bool x.1.1, .slice A x.1.2.length c]) x.1 _))
  have kx_c0 := kx.here.cell 0 _ rfl
  have kx_c1 := kx.here.cell 1 _ rfl
  have HZ := Lib.hid (show szD x = szS x.1 from rfl)
  have HBX := Lib.hid hbx
  clear h kx
  go_enter Tryz.func17, Tryz.ntmps17
  go_wp2_with fail
  clear kx_c0 kx_c1
  refine (markSigned_at _ x.1 S m _ hm hm0 ax).mono ?_
  rintro e w1 ⟨rfl, mu, c1⟩
  have hall := Lib.hid (mu.imp (fun _ h => (show MarkD (.agg #[.bool x.1.1, .slice A x.1.2.length c, .int .i64 x.2]) x m _ from by
    obtain ⟨u', e1, hu'⟩ := h
    injection e1 with e1
    have e2 : u' = .slice A x.1.2.length c := by simpa using e1.symm
    rw [e2] at hu'
    exact ⟨_, rfl, hu'⟩)))
  have hchg := Lib.hid ((Chg.of_below HBX.out).trans c1 : Chg S w w1)
  clear mu c1
  go_wp2
  go_ret
  exact ⟨ret_int (by rw [HZ.out]), hall.out, hchg.out⟩
set_option maxHeartbeats 400000 in
set_option maxRecDepth 100000 in
theorem heldD_cal (v : Value) (x : DI) (m : Int) (w : World) (hm : m + szD x ≤ 9223372036854775807) (hm0 : 0 ≤ m) (h : MarkD v x m w) : Calls Tryz.prog 27 #[v, .int .i64 m] w (Postn (m + szD x) w) := by
  obtain ⟨u, rfl, ou⟩ := h
  obtain ⟨A, c, rfl⟩ := own_len ou
  have hs0 : 0 ≤ szS x.1 := by unfold szS szI; omega
  have HZ := Lib.hid (show szD x = szS x.1 from rfl)
  rw [HZ.out] at hm
  have hbx := below_al (Below.refl w.heap.size w) (.cells #[.bool x.1.1, .slice A x.1.2.length c, .int .i64 x.2] 40)
  have kx := box_new w #[.bool x.1.1, .slice A x.1.2.length c, .int .i64 x.2] 40
  have ou1 : MarkS (.agg #[.bool x.1.1, .slice A x.1.2.length c]) x.1 m _ := ⟨_, rfl, own_below ou hbx⟩
  have kx_c0 := kx.here.cell 0 _ rfl
  have kx_c1 := kx.here.cell 1 _ rfl
  clear ou kx
  go_enter Tryz.func27, Tryz.ntmps27
  go_wp2_with fail
  clear kx_c0 kx_c1
  refine (heldSigned_at _ x.1 m _ (by omega) hm0 ou1).mono ?_
  rintro e w1 ⟨rfl, b1⟩
  have bb1 := Below.next hbx b1
  have hn1 : decide (m + szS x.1 < 0) = false := decide_eq_false (by omega)
  clear ou1
  go_wp2
  go_ret
  exact ⟨ret_int (by rw [HZ.out]), bb1⟩
end Go.Proofs.YtofehcpapdlcnaaGreatDoor

namespace Go.Proofs.YtofehcpapdlcnaaGreatDoor
open Go.RowKit Go.Extern.Stop Go.Stop Go.Extern

theorem isTypeOf (v : Value) (w : World) : (Extern.ReflectliteType.typeOf #[.iface 254 v]).run Tryz.prog w = .ok (.iface 230 (.agg #[.pointer (some ⟨10, 254, none⟩)])) w := by kernel_rfl
theorem isComparable (w : World) : ((Extern.ReflectliteType.method fun t => do Extern.Rtype.noPackHeld "Comparable" t; (fun a => Value.bool a.comparable) <$> typeInfo t) #[.agg #[.pointer (some ⟨10, 254, none⟩)]]).run Tryz.prog w = .ok (.bool true) w := by kernel_rfl
theorem isMethodComparable (v : Value) (w : World) : (Go.method 387 230 v "Comparable").run Tryz.prog w = .ok (289, v) w := by kernel_rfl
theorem isComp : (Tryz.prog.info? 254).map (·.comparable) = some true := by kernel_rfl
theorem isSize : (Tryz.prog.info? 276).map (·.size) = some 1 := by kernel_rfl
/-- the sentinel is at hand -/
def Sen (w : World) : Prop := ∃ a : Addr, w.cell? ⟨0, 0, none⟩ = some (.iface 254 (.pointer (some a)))
theorem Sen.below {w w' : World} (h : Sen w) (hb : Below w.heap.size w w') : Sen w' := by
  obtain ⟨a, ha⟩ := h
  exact ⟨a, (hb.cell (cell_lt ha)).trans ha⟩

set_option maxHeartbeats 1000000 in
set_option maxRecDepth 100000 in
theorem is_same (a : Addr) (w : World) :
    Calls Tryz.prog 212 #[.iface 254 (.pointer (some a)), .iface 254 (.pointer (some a))] w fun e w' => e = .returned (.bool true) ∧ w = w' := by
  obtain ⟨i, hi, hcmp⟩ := Option.map_eq_some_iff.1 isComp
  obtain ⟨j, hj, hjs⟩ := Option.map_eq_some_iff.1 isSize
  have h8 := @run_callFunc_extern Tryz.prog 233 _ Extern.ReflectliteType.typeOf Tryz.func233 (by kernel_rfl) (by kernel_rfl) (by kernel_rfl) (by kernel_rfl)
  have h32 := @run_callFunc_extern Tryz.prog 289 _ (Extern.ReflectliteType.method fun t => do Extern.Rtype.noPackHeld "Comparable" t; pure (.bool (← typeInfo t).comparable)) Tryz.func289 (by kernel_rfl) (by kernel_rfl) (by kernel_rfl) (by kernel_rfl)
  have tT := isTypeOf
  have cT := isComparable
  have mR := isMethodComparable
  have heq := run_eql_iface_ptr_same (P := Tryz.prog) w a Tryz.underlying144 Tryz.underlying254 hi hcmp hj
  go_enter Tryz.func212, Tryz.ntmps212
  go_wp2
  refine wp_loop_rounds 1 ?_
  rw [rounds_succ]
  go_wp2
  go_ret
  exact ⟨rfl, rfl⟩
set_option maxHeartbeats 400000 in
set_option maxRecDepth 100000 in
theorem is_nil (b : Addr) (w : World) :
    Calls Tryz.prog 212 #[.nilIface, .iface 254 (.pointer (some b))] w fun e w' => e = .returned (.bool false) ∧ w = w' := by
  have hn := run_eql_iface_nil_left (P := Tryz.prog) w 254 (.pointer (some b)) Tryz.underlying144
  go_enter Tryz.func212, Tryz.ntmps212
  go_wp2
  go_ret
  exact ⟨rfl, rfl⟩
end Go.Proofs.YtofehcpapdlcnaaGreatDoor

namespace Go.Proofs
open Go.Shelf
def Tryz.lays169_ren : Go.Shelf.Ren := ⟨fun | 169 => 158 | n => n, fun | 70 => 139 | 9 => 9 | 0 => 0 | 72 => 142 | 37 => 140 | 127 => 187 | 3 => 3 | 5 => 5 | n => n, fun | n => n⟩
theorem Tryz.lays169 : Go.Proofs.Lays.n169 Tryz.prog Tryz.lays169_ren := {
  mixed := by kernel_rfl
  f169 := Tryz.func158.trans (congrArg some (by kernel_rfl))
  t0 := Tryz.underlying0
  a0 := Tryz.isAgg0
  z0 := Tryz.sizeOf0
  v0 := Tryz.zeroValue0
  t3 := Tryz.underlying3
  a3 := Tryz.isAgg3
  z3 := Tryz.sizeOf3
  v3 := Tryz.zeroValue3
  t9 := Tryz.underlying9
  a9 := Tryz.isAgg9
  z9 := Tryz.sizeOf9
  v9 := Tryz.zeroValue9
  t37 := Tryz.underlying140
  a37 := Tryz.isAgg140
  z37 := Tryz.sizeOf140
  v37 := Tryz.zeroValue140
  t70 := Tryz.underlying139
  a70 := Tryz.isAgg139
  z70 := Tryz.sizeOf139
  v70 := Tryz.zeroValue139
  t72 := Tryz.underlying142
  a72 := Tryz.isAgg142
  z72 := Tryz.sizeOf142
  v72 := Tryz.zeroValue142
  t127 := Tryz.underlying187
  a127 := Tryz.isAgg187
  z127 := Tryz.sizeOf187
  v127 := Tryz.zeroValue187 }
theorem Tryz.Builder_Extra_169 : Builder.Extra Tryz.prog Tryz.lays169_ren := {
  sizeBuilder := by kernel_rfl
  liesBuilder := by kernel_rfl
  t5 := Tryz.underlying5
  a5 := Tryz.isAgg5
  z5 := Tryz.sizeOf5
  v5 := Tryz.zeroValue5
  infoByte := by kernel_rfl
  cellsByte := by kernel_rfl
  sizeByte := by kernel_rfl
  neB5 := by decide }
def Tryz.lays231_ren : Go.Shelf.Ren := ⟨fun | 231 => 167 | n => n, fun | 9 => 9 | 5 => 5 | 3 => 3 | 4 => 4 | n => n, fun | n => n⟩
theorem Tryz.lays231 : Go.Proofs.Lays.n231 Tryz.prog Tryz.lays231_ren := {
  mixed := by kernel_rfl
  f231 := Tryz.func167.trans (congrArg some (by kernel_rfl))
  t3 := Tryz.underlying3
  a3 := Tryz.isAgg3
  z3 := Tryz.sizeOf3
  v3 := Tryz.zeroValue3
  t4 := Tryz.underlying4
  a4 := Tryz.isAgg4
  z4 := Tryz.sizeOf4
  v4 := Tryz.zeroValue4
  t5 := Tryz.underlying5
  a5 := Tryz.isAgg5
  z5 := Tryz.sizeOf5
  v5 := Tryz.zeroValue5
  t9 := Tryz.underlying9
  a9 := Tryz.isAgg9
  z9 := Tryz.sizeOf9
  v9 := Tryz.zeroValue9 }
open Go.RowKit in
theorem Tryz.strings_trimLeftByte (s : ByteArray) (c : UInt8) (w : World) :
    Calls Tryz.prog 167 #[.string s, .int .u8 c.toNat] w fun e w' => e = .returned (.string ⟨(Lib.trimLeftB s.data.toList c).toArray⟩) ∧ w' = w := Any.strings_trimLeftByte Tryz.lays231 s c w
def Tryz.lays134_ren : Go.Shelf.Ren := ⟨fun | 134 => 267 | 129 => 263 | n => n, fun | 53 => 209 | 3 => 3 | 4 => 4 | 46 => 182 | 5 => 5 | 9 => 9 | n => n, fun | n => n⟩
theorem Tryz.lays134 : Go.Proofs.Lays.n134 Tryz.prog Tryz.lays134_ren := {
  mixed := by kernel_rfl
  f129 := Tryz.func263.trans (congrArg some (by kernel_rfl))
  f134 := Tryz.func267.trans (congrArg some (by kernel_rfl))
  t3 := Tryz.underlying3
  a3 := Tryz.isAgg3
  z3 := Tryz.sizeOf3
  v3 := Tryz.zeroValue3
  t4 := Tryz.underlying4
  a4 := Tryz.isAgg4
  z4 := Tryz.sizeOf4
  v4 := Tryz.zeroValue4
  t5 := Tryz.underlying5
  a5 := Tryz.isAgg5
  z5 := Tryz.sizeOf5
  v5 := Tryz.zeroValue5
  t9 := Tryz.underlying9
  a9 := Tryz.isAgg9
  z9 := Tryz.sizeOf9
  v9 := Tryz.zeroValue9
  t46 := Tryz.underlying182
  a46 := Tryz.isAgg182
  z46 := Tryz.sizeOf182
  v46 := Tryz.zeroValue182
  t53 := Tryz.underlying209
  a53 := Tryz.isAgg209
  z53 := Tryz.sizeOf209
  v53 := Tryz.zeroValue209 }
theorem Tryz.bits_LeadingZeros64 (x : Int) (w : World) (h0 : 0 ≤ x) (h1 : x ≤ 18446744073709551615) :
    Calls Tryz.prog 267 #[.int .u64 x] w fun e w' => e = .returned (.int .i64 (64 - (Lib.bitLen x.toNat : Int))) ∧ w' = w := Any.bits_LeadingZeros64 Tryz.lays134 x w h0 h1
def Tryz.lays103_ren : Go.Shelf.Ren := ⟨fun | 103 => 116 | 210 => 162 | 206 => 201 | n => n, fun | 9 => 9 | 4 => 4 | 24 => 76 | 3 => 3 | n => n, fun | n => n⟩
theorem Tryz.lays103 : Go.Proofs.Lays.n103 Tryz.prog Tryz.lays103_ren := {
  mixed := by kernel_rfl
  f103 := Tryz.func116.trans (congrArg some (by kernel_rfl))
  f206 := Tryz.func201.trans (congrArg some (by kernel_rfl))
  f210 := Tryz.func162.trans (congrArg some (by kernel_rfl))
  t3 := Tryz.underlying3
  a3 := Tryz.isAgg3
  z3 := Tryz.sizeOf3
  v3 := Tryz.zeroValue3
  t4 := Tryz.underlying4
  a4 := Tryz.isAgg4
  z4 := Tryz.sizeOf4
  v4 := Tryz.zeroValue4
  t9 := Tryz.underlying9
  a9 := Tryz.isAgg9
  z9 := Tryz.sizeOf9
  v9 := Tryz.zeroValue9
  t24 := Tryz.underlying76
  a24 := Tryz.isAgg76
  z24 := Tryz.sizeOf76
  v24 := Tryz.zeroValue76 }
open Go.RowKit in
theorem Tryz.strings_CutPrefix (s p : ByteArray) (w : World) :
    Calls Tryz.prog 116 #[.string s, .string p] w fun e w' => e = .returned (.tuple #[.string ⟨(Lib.trimPrefix s.data.toList p.data.toList).toArray⟩, .bool (Lib.hasPrefix s.data.toList p.data.toList)]) ∧ w' = w := Any.strings_CutPrefix Tryz.lays103 s p w
def Tryz.lays104_ren : Go.Shelf.Ren := ⟨fun | 104 => 64 | 211 => 115 | 207 => 161 | n => n, fun | 9 => 9 | 4 => 4 | 24 => 76 | 3 => 3 | n => n, fun | n => n⟩
theorem Tryz.lays104 : Go.Proofs.Lays.n104 Tryz.prog Tryz.lays104_ren := {
  mixed := by kernel_rfl
  f104 := Tryz.func64.trans (congrArg some (by kernel_rfl))
  f207 := Tryz.func161.trans (congrArg some (by kernel_rfl))
  f211 := Tryz.func115.trans (congrArg some (by kernel_rfl))
  t3 := Tryz.underlying3
  a3 := Tryz.isAgg3
  z3 := Tryz.sizeOf3
  v3 := Tryz.zeroValue3
  t4 := Tryz.underlying4
  a4 := Tryz.isAgg4
  z4 := Tryz.sizeOf4
  v4 := Tryz.zeroValue4
  t9 := Tryz.underlying9
  a9 := Tryz.isAgg9
  z9 := Tryz.sizeOf9
  v9 := Tryz.zeroValue9
  t24 := Tryz.underlying76
  a24 := Tryz.isAgg76
  z24 := Tryz.sizeOf76
  v24 := Tryz.zeroValue76 }
open Go.RowKit in
theorem Tryz.strings_CutSuffix (s p : ByteArray) (w : World) (hs : s.size ≤ 9223372036854775807) :
    Calls Tryz.prog 64 #[.string s, .string p] w fun e w' => e = .returned (.tuple #[.string ⟨(Lib.trimSuffix s.data.toList p.data.toList).toArray⟩, .bool (Lib.hasSuffix s.data.toList p.data.toList)]) ∧ w' = w := Any.strings_CutSuffix Tryz.lays104 s p w hs
open Go.RowKit in
theorem Tryz.Builder_String_any_k (B b : Nat) (l : List UInt8) (w : World) (h : Lib.IsBuilderF 142 5 B b (Lib.byteCells l) w) (hBw : B ≤ w.heap.size) :
    Calls Tryz.prog 158 #[.pointer (some ⟨b, 0, none⟩)] w fun e w' => e = .returned (.string ⟨l.toArray⟩) ∧ (Lib.IsBuilderF 142 5 B b (Lib.byteCells l) w' ∧ Below B w w' ∧ Lib.OthersKept 5 (some b) w w') := Any.Builder_String_any_k Tryz.lays169 Tryz.Builder_Extra_169 B b l w h hBw
def Tryz.laysM171_ren : Go.Shelf.Ren := ⟨fun | 171 => 198 | 243 => 222 | 246 => 247 | 283 => 256 | 284 => 257 | 285 => 258 | 286 => 259 | 129 => 263 | 317 => 262 | 318 => 264 | 319 => 265 | 320 => 266 | 337 => 268 | 338 => 269 | n => n, fun | 3 => 3 | 9 => 9 | 2 => 2 | 4 => 4 | 171 => 241 | 0 => 0 | 53 => 209 | 37 => 140 | 5 => 5 | 173 => 244 | 212 => 248 | 51 => 206 | 20 => 20 | 213 => 249 | 46 => 182 | 232 => 252 | 233 => 253 | n => n, fun | 17 => 5 | 18 => 8 | 19 => 9 | n => n⟩
theorem Tryz.laysM171 : Go.Proofs.LaysM.n171 Tryz.prog Tryz.laysM171_ren := {
  mixed := by kernel_rfl
  f129 := Tryz.func263.trans (congrArg some (by kernel_rfl))
  f171 := Tryz.func198.trans (congrArg some (by kernel_rfl))
  f243 := Tryz.func222.trans (congrArg some (by kernel_rfl))
  f246 := Tryz.func247.trans (congrArg some (by kernel_rfl))
  f283 := Tryz.func256.trans (congrArg some (by kernel_rfl))
  f284 := Tryz.func257.trans (congrArg some (by kernel_rfl))
  f285 := Tryz.func258.trans (congrArg some (by kernel_rfl))
  f286 := Tryz.func259.trans (congrArg some (by kernel_rfl))
  f317 := Tryz.func262.trans (congrArg some (by kernel_rfl))
  f318 := Tryz.func264.trans (congrArg some (by kernel_rfl))
  f319 := Tryz.func265.trans (congrArg some (by kernel_rfl))
  f320 := Tryz.func266.trans (congrArg some (by kernel_rfl))
  f337 := Tryz.func268.trans (congrArg some (by kernel_rfl))
  f338 := Tryz.func269.trans (congrArg some (by kernel_rfl))
  t0 := Tryz.underlying0
  a0 := Tryz.isAgg0
  z0 := Tryz.sizeOf0
  v0 := Tryz.zeroValue0
  t2 := Tryz.underlying2
  a2 := Tryz.isAgg2
  z2 := Tryz.sizeOf2
  v2 := Tryz.zeroValue2
  t3 := Tryz.underlying3
  a3 := Tryz.isAgg3
  z3 := Tryz.sizeOf3
  v3 := Tryz.zeroValue3
  t4 := Tryz.underlying4
  a4 := Tryz.isAgg4
  z4 := Tryz.sizeOf4
  v4 := Tryz.zeroValue4
  t5 := Tryz.underlying5
  a5 := Tryz.isAgg5
  z5 := Tryz.sizeOf5
  v5 := Tryz.zeroValue5
  t9 := Tryz.underlying9
  a9 := Tryz.isAgg9
  z9 := Tryz.sizeOf9
  v9 := Tryz.zeroValue9
  t20 := Tryz.underlying20
  a20 := Tryz.isAgg20
  z20 := Tryz.sizeOf20
  v20 := Tryz.zeroValue20
  t37 := Tryz.underlying140
  a37 := Tryz.isAgg140
  z37 := Tryz.sizeOf140
  v37 := Tryz.zeroValue140
  t46 := Tryz.underlying182
  a46 := Tryz.isAgg182
  z46 := Tryz.sizeOf182
  v46 := Tryz.zeroValue182
  t51 := Tryz.underlying206
  a51 := Tryz.isAgg206
  z51 := Tryz.sizeOf206
  v51 := Tryz.zeroValue206
  t53 := Tryz.underlying209
  a53 := Tryz.isAgg209
  z53 := Tryz.sizeOf209
  v53 := Tryz.zeroValue209
  t171 := Tryz.underlying241
  a171 := Tryz.isAgg241
  z171 := Tryz.sizeOf241
  v171 := Tryz.zeroValue241
  t173 := Tryz.underlying244
  a173 := Tryz.isAgg244
  z173 := Tryz.sizeOf244
  v173 := Tryz.zeroValue244
  t212 := Tryz.underlying248
  a212 := Tryz.isAgg248
  z212 := Tryz.sizeOf248
  v212 := Tryz.zeroValue248
  t213 := Tryz.underlying249
  a213 := Tryz.isAgg249
  z213 := Tryz.sizeOf249
  t232 := Tryz.underlying252
  a232 := Tryz.isAgg252
  z232 := Tryz.sizeOf252
  v232 := Tryz.zeroValue252
  t233 := Tryz.underlying253
  a233 := Tryz.isAgg253
  z233 := Tryz.sizeOf253
  v233 := Tryz.zeroValue253
  g17 := by kernel_rfl
  g18 := by kernel_rfl
  g19 := by kernel_rfl
  i0 := by kernel_rfl
  i2 := by kernel_rfl
  i3 := by kernel_rfl
  i4 := by kernel_rfl
  i5 := by kernel_rfl
  i9 := by kernel_rfl
  i20 := by kernel_rfl
  i37 := by kernel_rfl
  i46 := by kernel_rfl
  i51 := by kernel_rfl
  i53 := by kernel_rfl
  i171 := by kernel_rfl
  i173 := by kernel_rfl
  i212 := by kernel_rfl
  i232 := by kernel_rfl
  i233 := by kernel_rfl
  m17 := by kernel_rfl
  m18 := by kernel_rfl
  m19 := by kernel_rfl }
open Go.RowKit Go.Sort Go.Lib in
theorem Tryz.strconv_Itoa (n : Int) (h0 : -9223372036854775808 ≤ n) (h1 : n ≤ 9223372036854775807) (w : World) (htab : Lib.TabIs Tryz.prog w "internal/strconv.uint64pow10" .u64 Lib.pow10Tab) :
    Calls Tryz.prog 198 #[.int .i64 n] w fun e w' => e = .returned (.string ⟨(Lib.itoa n).toArray⟩) ∧ ∃ k os, w' = grow (w.drewN k) os := Any.strconv_Itoa Tryz.laysM171 n h0 h1 w htab
def Tryz.lays219_ren : Go.Shelf.Ren := ⟨fun | 219 => 202 | 217 => 224 | 225 => 225 | 224 => 226 | 267 => 227 | 266 => 248 | 314 => 249 | n => n, fun | 9 => 9 | 3 => 3 | 4 => 4 | 5 => 5 | 46 => 182 | 146 => 207 | 51 => 206 | n => n, fun | 1 => 2 | n => n⟩
theorem Tryz.lays219 : Go.Proofs.Lays.n219 Tryz.prog Tryz.lays219_ren := {
  mixed := by kernel_rfl
  f217 := Tryz.func224.trans (congrArg some (by kernel_rfl))
  f219 := Tryz.func202.trans (congrArg some (by kernel_rfl))
  f224 := Tryz.func226.trans (congrArg some (by kernel_rfl))
  f225 := Tryz.func225.trans (congrArg some (by kernel_rfl))
  f266 := Tryz.func248.trans (congrArg some (by kernel_rfl))
  f267 := Tryz.func227.trans (congrArg some (by kernel_rfl))
  f314 := Tryz.func249.trans (congrArg some (by kernel_rfl))
  t3 := Tryz.underlying3
  a3 := Tryz.isAgg3
  z3 := Tryz.sizeOf3
  v3 := Tryz.zeroValue3
  t4 := Tryz.underlying4
  a4 := Tryz.isAgg4
  z4 := Tryz.sizeOf4
  v4 := Tryz.zeroValue4
  t5 := Tryz.underlying5
  a5 := Tryz.isAgg5
  z5 := Tryz.sizeOf5
  v5 := Tryz.zeroValue5
  t9 := Tryz.underlying9
  a9 := Tryz.isAgg9
  z9 := Tryz.sizeOf9
  v9 := Tryz.zeroValue9
  t46 := Tryz.underlying182
  a46 := Tryz.isAgg182
  z46 := Tryz.sizeOf182
  v46 := Tryz.zeroValue182
  t51 := Tryz.underlying206
  a51 := Tryz.isAgg206
  z51 := Tryz.sizeOf206
  v51 := Tryz.zeroValue206
  t146 := Tryz.underlying207
  a146 := Tryz.isAgg207
  z146 := Tryz.sizeOf207
  v146 := Tryz.zeroValue207
  g1 := by kernel_rfl }
open Go.RowKit Go.Lib in
theorem Tryz.stringslite_Index_one (s : ByteArray) (c : UInt8) (w : World) :
    Calls Tryz.prog 202 #[.string s, .string ⟨#[c]⟩] w fun e w' => e = .returned (.int .i64 (Lib.indexByte s.data.toList c)) ∧ w' = w := Any.stringslite_Index_one Tryz.lays219 s c w
def Tryz.lays264_ren : Go.Shelf.Ren := ⟨fun | 264 => 220 | n => n, fun | 53 => 209 | 46 => 182 | n => n, fun | n => n⟩
theorem Tryz.lays264 : Go.Proofs.Lays.n264 Tryz.prog Tryz.lays264_ren := {
  mixed := by kernel_rfl
  f264 := Tryz.func220.trans (congrArg some (by kernel_rfl))
  t46 := Tryz.underlying182
  a46 := Tryz.isAgg182
  z46 := Tryz.sizeOf182
  v46 := Tryz.zeroValue182
  t53 := Tryz.underlying209
  a53 := Tryz.isAgg209
  z53 := Tryz.sizeOf209
  v53 := Tryz.zeroValue209 }
open Go.RowKit Go.Lib in
theorem Tryz.bits_Mul64 (x y : Nat) (hx : x < 18446744073709551616) (hy : y < 18446744073709551616) (w : World) :
    Calls Tryz.prog 220 #[.int .u64 x, .int .u64 y] w fun e w' => e = .returned (.tuple #[.int .u64 ((x * y / 18446744073709551616 : Nat) : Int), .int .u64 ((x * y % 18446744073709551616 : Nat) : Int)]) ∧ w' = w := Any.bits_Mul64 Tryz.lays264 x y hx hy w
def Tryz.lays105_ren : Go.Shelf.Ren := ⟨fun | 105 => 153 | 212 => 194 | 99 => 195 | 165 => 196 | 166 => 157 | 170 => 197 | 169 => 158 | 263 => 219 | 264 => 220 | 206 => 201 | 240 => 199 | 241 => 221 | 276 => 223 | 277 => 246 | n => n, fun | 9 => 9 | 3 => 3 | 4 => 4 | 20 => 20 | 0 => 0 | 46 => 182 | 109 => 183 | 5 => 5 | 72 => 142 | 76 => 145 | 51 => 206 | 146 => 207 | 53 => 209 | 148 => 210 | 70 => 139 | 37 => 140 | 75 => 144 | 127 => 187 | 164 => 212 | 80 => 147 | n => n, fun | n => n⟩
theorem Tryz.lays105 : Go.Proofs.Lays.n105 Tryz.prog Tryz.lays105_ren := {
  mixed := by kernel_rfl
  f99 := Tryz.func195.trans (congrArg some (by kernel_rfl))
  f105 := Tryz.func153.trans (congrArg some (by kernel_rfl))
  f165 := Tryz.func196.trans (congrArg some (by kernel_rfl))
  f166 := Tryz.func157.trans (congrArg some (by kernel_rfl))
  f169 := Tryz.func158.trans (congrArg some (by kernel_rfl))
  f170 := Tryz.func197.trans (congrArg some (by kernel_rfl))
  f206 := Tryz.func201.trans (congrArg some (by kernel_rfl))
  f212 := Tryz.func194.trans (congrArg some (by kernel_rfl))
  f240 := Tryz.func199.trans (congrArg some (by kernel_rfl))
  f241 := Tryz.func221.trans (congrArg some (by kernel_rfl))
  f263 := Tryz.func219.trans (congrArg some (by kernel_rfl))
  f264 := Tryz.func220.trans (congrArg some (by kernel_rfl))
  f276 := Tryz.func223.trans (congrArg some (by kernel_rfl))
  f277 := Tryz.func246.trans (congrArg some (by kernel_rfl))
  t0 := Tryz.underlying0
  a0 := Tryz.isAgg0
  z0 := Tryz.sizeOf0
  v0 := Tryz.zeroValue0
  t3 := Tryz.underlying3
  a3 := Tryz.isAgg3
  z3 := Tryz.sizeOf3
  v3 := Tryz.zeroValue3
  t4 := Tryz.underlying4
  a4 := Tryz.isAgg4
  z4 := Tryz.sizeOf4
  v4 := Tryz.zeroValue4
  t5 := Tryz.underlying5
  a5 := Tryz.isAgg5
  z5 := Tryz.sizeOf5
  v5 := Tryz.zeroValue5
  t9 := Tryz.underlying9
  a9 := Tryz.isAgg9
  z9 := Tryz.sizeOf9
  v9 := Tryz.zeroValue9
  t20 := Tryz.underlying20
  a20 := Tryz.isAgg20
  z20 := Tryz.sizeOf20
  v20 := Tryz.zeroValue20
  t37 := Tryz.underlying140
  a37 := Tryz.isAgg140
  z37 := Tryz.sizeOf140
  v37 := Tryz.zeroValue140
  t46 := Tryz.underlying182
  a46 := Tryz.isAgg182
  z46 := Tryz.sizeOf182
  v46 := Tryz.zeroValue182
  t51 := Tryz.underlying206
  a51 := Tryz.isAgg206
  z51 := Tryz.sizeOf206
  v51 := Tryz.zeroValue206
  t53 := Tryz.underlying209
  a53 := Tryz.isAgg209
  z53 := Tryz.sizeOf209
  v53 := Tryz.zeroValue209
  t70 := Tryz.underlying139
  a70 := Tryz.isAgg139
  z70 := Tryz.sizeOf139
  v70 := Tryz.zeroValue139
  t72 := Tryz.underlying142
  a72 := Tryz.isAgg142
  z72 := Tryz.sizeOf142
  v72 := Tryz.zeroValue142
  t75 := Tryz.underlying144
  a75 := Tryz.isAgg144
  z75 := Tryz.sizeOf144
  v75 := Tryz.zeroValue144
  t76 := Tryz.underlying145
  a76 := Tryz.isAgg145
  z76 := Tryz.sizeOf145
  v76 := Tryz.zeroValue145
  t109 := Tryz.underlying183
  a109 := Tryz.isAgg183
  z109 := Tryz.sizeOf183
  v109 := Tryz.zeroValue183
  t127 := Tryz.underlying187
  a127 := Tryz.isAgg187
  z127 := Tryz.sizeOf187
  v127 := Tryz.zeroValue187
  t146 := Tryz.underlying207
  a146 := Tryz.isAgg207
  z146 := Tryz.sizeOf207
  v146 := Tryz.zeroValue207
  t148 := Tryz.underlying210
  a148 := Tryz.isAgg210
  z148 := Tryz.sizeOf210
  v148 := Tryz.zeroValue210
  t164 := Tryz.underlying212
  a164 := Tryz.isAgg212
  z164 := Tryz.sizeOf212
  v164 := Tryz.zeroValue212 }
theorem Tryz.Builder_Extra_105 : Builder.Extra Tryz.prog Tryz.lays105_ren := {
  sizeBuilder := by kernel_rfl
  liesBuilder := by kernel_rfl
  t5 := Tryz.underlying5
  a5 := Tryz.isAgg5
  z5 := Tryz.sizeOf5
  v5 := Tryz.zeroValue5
  infoByte := by kernel_rfl
  cellsByte := by kernel_rfl
  sizeByte := by kernel_rfl
  neB5 := by decide }
open Go.RowKit Go.Lib in
theorem Tryz.strings_Repeat (s : ByteArray) (c : Nat) (w : World) (hc : c ≤ 9223372036854775807) (hlen : s.size * c ≤ 140737488355328) :
    Calls Tryz.prog 153 #[.string s, .int .i64 c] w fun e w' => e = .returned (.string ⟨(Lib.repeatL s.data.toList c).toArray⟩) ∧ Below w.heap.size w w' := Any.strings_Repeat Tryz.lays105 Tryz.Builder_Extra_105 s c w hc hlen
end Go.Proofs

namespace Go.Proofs.YtofehcpapdlcnaaGreatDoor
open Go.RowKit

/-- the decimal numeral of an int -/
def numB (n : Int) : ByteArray := ⟨(Lib.itoa n).toArray⟩
/-- one byte as a text -/
def byteB (c : Int) : ByteArray := ⟨#[UInt8.ofNat c.toNat]⟩

/-- string([]byte{c}), the cell known -/
theorem conv_cell (W : World) (b : Nat) (c : Int) (h : W.cell? ⟨b, 0, none⟩ = some (.int .u8 c)) : (convert 140 9 (.slice (some ⟨b, 0, none⟩) 1 1)).run Tryz.prog W = .ok (.string (byteB c)) W := by
  rw [run_convert_bytes_string _ 140 9 5 _ _ _ Tryz.underlying140 Tryz.underlying5 Tryz.underlying9]
  rw [run_bytesToString _ _ 1 1 [c] ?_]
  · rfl
  · simp [loadCells, loadCellsFrom, go_sem, Addr.add, h]

theorem dec_small (u : Nat) (h : u < 10) : Lib.decDigits u = [UInt8.ofNat (48 + u)] := by rw [Lib.decDigits, dif_pos h]
theorem dec_big (u : Nat) (h : ¬ u < 10) : Lib.decDigits u = Lib.decDigits (u / 10) ++ [UInt8.ofNat (48 + u % 10)] := by rw [Lib.decDigits, dif_neg h]
theorem num_neg_small (n : Int) (h : n < 0) (h1 : -10 < n) : (⟨#[45]⟩ : ByteArray) ++ byteB (48 - n) = numB n := by
  unfold numB byteB Lib.itoa
  rw [if_pos h, dec_small _ (by omega), show (48 - n).toNat = 48 + n.natAbs from by omega]
  apply ByteArray.ext
  simp
theorem num_neg_big (n : Int) (h : n ≤ -10) : numB (n.tdiv 10) ++ byteB (48 - n.tmod 10) = numB n := by
  have hq : n.tdiv 10 = -((n.natAbs / 10 : Nat) : Int) := by
    obtain ⟨m, rfl⟩ : ∃ m : Nat, n = -(m : Int) := ⟨n.natAbs, by omega⟩
    rw [Int.neg_tdiv, Int.natAbs_neg, Int.natAbs_natCast]
    rfl
  have hr : n.tmod 10 = -((n.natAbs % 10 : Nat) : Int) := by
    obtain ⟨m, rfl⟩ : ∃ m : Nat, n = -(m : Int) := ⟨n.natAbs, by omega⟩
    rw [Int.neg_tmod, Int.natAbs_neg, Int.natAbs_natCast]
    rfl
  unfold numB byteB Lib.itoa
  rw [hq, hr, if_pos (by omega), if_pos (by omega), dec_big n.natAbs (by omega), show (48 - -((n.natAbs % 10 : Nat) : Int)).toNat = 48 + n.natAbs % 10 from by omega, show (-((n.natAbs / 10 : Nat) : Int)).natAbs = n.natAbs / 10 from by omega]
  apply ByteArray.ext
  simp
theorem numB_size (n : Int) (k : Nat) (h : n.natAbs < 10 ^ (k + 1)) : (numB n).size ≤ k + 2 := by
  have hd : ∀ (k u : Nat), u < 10 ^ (k + 1) → (Lib.decDigits u).length ≤ k + 1 := by
    intro k
    induction k with
    | zero => intro u hu; rw [dec_small u (by simpa using hu)]; simp
    | succ k ih =>
      intro u hu
      by_cases hs : u < 10
      · rw [dec_small u hs]; simp
      · rw [dec_big u hs, List.length_append]
        have := ih (u / 10) (by rw [Nat.pow_succ] at hu; omega)
        simp; omega
  have e : (numB n).size = (Lib.itoa n).length := rfl
  rw [e]
  unfold Lib.itoa
  split
  · have := hd k n.natAbs h; simp; omega
  · have := hd k n.toNat (by omega); omega

theorem quo_small (n : Int) (h : n < 0) (h1 : -10 < n) : (n.tdiv 10 == 0) = true := by
  rw [beq_iff_eq]
  obtain ⟨m, rfl⟩ : ∃ m : Nat, n = -(m : Int) := ⟨n.natAbs, by omega⟩
  rw [Int.neg_tdiv, Int.tdiv_eq_zero_of_lt (by omega) (by omega)]
  rfl
theorem quo_rem (n : Int) (h : n ≤ 0) : n.tdiv 10 * 10 + n.tmod 10 = n ∧ -9 ≤ n.tmod 10 ∧ n.tmod 10 ≤ 0 := by
  obtain ⟨m, rfl⟩ : ∃ m : Nat, n = -(m : Int) := ⟨n.natAbs, by omega⟩
  have hq : (-(m : Int)).tdiv 10 = -((m / 10 : Nat) : Int) := by rw [Int.neg_tdiv]; rfl
  have hr : (-(m : Int)).tmod 10 = -((m % 10 : Nat) : Int) := by rw [Int.neg_tmod]; rfl
  rw [hq, hr]
  omega

set_option maxHeartbeats 400000 in
set_option maxRecDepth 100000 in
theorem specIntText_negSmall (n : Int) (w : World) (hn : n < 0) (hp : -10 < n) :
    Calls Tryz.prog 149 #[.int .i64 n] w fun e w' => e = .returned (.string (numB n)) ∧ Below w.heap.size w w' := by
  have hcv := conv_cell
  have hq := quo_small n hn hp
  go_enter Tryz.func149, Tryz.ntmps149
  go_wp2
  go_ret
  exact ⟨ret_str (num_neg_small n hn hp), (Below.refl _ _).alloc (Nat.le_refl _) _⟩

set_option maxHeartbeats 1000000 in
set_option maxRecDepth 100000 in
theorem specIntText_neg (k : Nat) : ∀ (n : Int) (w : World), k ≤ 18 → n < 0 → n.natAbs < 10 ^ (k + 1) → -9223372036854775808 ≤ n →
    Calls Tryz.prog 149 #[.int .i64 n] w fun e w' => e = .returned (.string (numB n)) ∧ Below w.heap.size w w' := by
  induction k with
  | zero =>
    intro n w hk hn hp hl
    exact specIntText_negSmall n w hn (by simp at hp; omega)
  | succ k ih =>
    intro n w hk hn hp hl
    have IH := Lib.hid ih
    clear ih
    by_cases hs : -10 < n
    · exact specIntText_negSmall n w hn hs
    · have hcv := conv_cell
      have hqr := quo_rem n (by omega)
      have HF := Lib.hid (num_neg_big n (by omega))
      have hq : (n.tdiv 10 == 0) = false := by rw [beq_eq_false_iff_ne]; omega
      have hpq : (n.tdiv 10).natAbs < 10 ^ (k + 1) := by rw [Nat.pow_succ] at hp; omega
      have hsz := numB_size _ k hpq
      have HC := Lib.hid (fun w' : World => IH.out (n.tdiv 10) w' (by omega) (by omega) hpq (by omega))
      have hbs : ∀ c : Int, (byteB c).size = 1 := fun _ => rfl
      have hcat : ¬ 9223372036854775807 < (numB (n.tdiv 10)).size + 1 := by omega
      have hw1 : IntKind.i64.wrap (n.tdiv 10) = n.tdiv 10 := IntWalk.i64_in _ (by omega)
      have hw2 : IntKind.i64.wrap (n.tmod 10) = n.tmod 10 := IntWalk.i64_in _ (by omega)
      have hw3 : IntKind.i64.wrap (48 - n.tmod 10) = 48 - n.tmod 10 := IntWalk.i64_in _ (by omega)
      have hw4 : IntKind.u8.wrap (48 - n.tmod 10) = 48 - n.tmod 10 := by rw [IntKind.wrap_u8]; omega
      clear hp hpq IH
      go_enter Tryz.func149, Tryz.ntmps149
      go_wp2
      go_region_with (go_at_call 149; refine (HC.out _).mono ?_; rintro e w1 ⟨rfl, hb1⟩; obtain ⟨hc1, hf1⟩ := below_rules hb1)
      all_goals go_wp2
      all_goals go_ret
      all_goals refine ⟨ret_str HF.out, ?_⟩
      all_goals first
        | exact (Below.next (Below.refl _ w).drew hb1).alloc hb1.size _
        | exact Below.next ((Below.refl _ w).drew.alloc (Nat.le_refl _) _) hb1
        | exact Below.next ((Below.refl _ w).alloc (Nat.le_refl _) _).drew hb1

/-- the digits of m ahead of what has been written -/
theorem pos_step (m : Nat) (acc : List UInt8) (h : ¬ m < 10) : Lib.decDigits m ++ acc = Lib.decDigits (m / 10) ++ (UInt8.ofNat (48 + m % 10) :: acc) := by
  rw [dec_big m h, List.append_assoc]
  rfl
theorem byte_app (m : Nat) (acc : List UInt8) : byteB (48 + (m : Int) % 10) ++ (⟨acc.toArray⟩ : ByteArray) = ⟨(UInt8.ofNat (48 + m % 10) :: acc).toArray⟩ := by
  unfold byteB
  rw [show (48 + (m : Int) % 10).toNat = 48 + m % 10 from by omega]
  apply ByteArray.ext
  simp
theorem pos_last (n m : Nat) (acc : List UInt8) (h : m < 10) (hd : Lib.decDigits m ++ acc = Lib.decDigits n) : byteB (48 + (m : Int)) ++ (⟨acc.toArray⟩ : ByteArray) = numB n := by
  unfold byteB numB Lib.itoa
  rw [if_neg (by omega), Int.toNat_natCast, ← hd, dec_small m h, show (48 + (m : Int)).toNat = 48 + m from by omega]
  apply ByteArray.ext
  simp

set_option maxHeartbeats 400000 in
set_option maxRecDepth 100000 in
theorem specIntText_pos (n : Nat) (w : World) (hn : n ≤ 9223372036854775807) :
    Calls Tryz.prog 149 #[.int .i64 n] w fun e w' => e = .returned (.string (numB n)) ∧ Below w.heap.size w w' := by
  have hcv := conv_cell
  have hbs : ∀ c : Int, (byteB c).size = 1 := fun _ => rfl
  have hn0 : ¬ (n : Int) < 0 := by omega
  go_enter Tryz.func149, Tryz.ntmps149
  go_wp2
  go_loopw [0, 3] (fun a o wr => ∃ (m f : Nat) (acc : List UInt8), m < 10 ^ f ∧ acc.length + f ≤ 19 ∧ m ≤ 9223372036854775807 ∧ a = .int .i64 m ∧ o = .string ⟨acc.toArray⟩ ∧ Hid (Lib.decDigits m ++ acc = Lib.decDigits n) ∧ Below w.heap.size w wr) (fun a _ _ => (intOf a).toNat)
  case atStart => exact ⟨n, 19, [], by omega, by simp, by omega, rfl, rfl, Lib.hid (List.append_nil _), Below.refl _ _⟩
  case round =>
    obtain ⟨m, f, acc, hf, hl, hm, rfl, rfl, HD, hb⟩ := hrel
    by_cases hs : m < 10
    · go_wp2
      go_ret
      exact ⟨ret_str (pos_last n m acc hs HD.out), hb.alloc hb.size _⟩
    · have HS := Lib.hid ((pos_step m acc hs).symm.trans HD.out)
      obtain ⟨g, rfl⟩ : ∃ g, f = g + 1 := by
        cases f with
        | zero => simp at hf; omega
        | succ g => exact ⟨g, rfl⟩
      have hg : m / 10 < 10 ^ g := by rw [Nat.pow_succ] at hf; omega
      clear hf
      go_wp2
      go_roundw
      case rel => exact ⟨m / 10, g, _, hg, by simp; omega, by omega, by go_num, by rw [byte_app], HS, hb.alloc hb.size _⟩
      case measure => simp [intOf]; omega

theorem specIntText_any (n : Int) (w : World) (h0 : -9223372036854775808 ≤ n) (h1 : n ≤ 9223372036854775807) :
    Calls Tryz.prog 149 #[.int .i64 n] w fun e w' => e = .returned (.string (numB n)) ∧ Below w.heap.size w w' := by
  by_cases h : n < 0
  · exact specIntText_neg 18 n w (by omega) h (by omega) h0
  · obtain ⟨m, rfl⟩ := Int.eq_ofNat_of_zero_le (show 0 ≤ n by omega)
    exact specIntText_pos m w (by omega)

/-- the table that the library reads is at hand -/
def Tab (w : World) : Prop := Lib.TabIs Tryz.prog w "internal/strconv.uint64pow10" .u64 Lib.pow10Tab
theorem powGlobal : Tryz.prog.globalNamed "internal/strconv.uint64pow10" = some 5 := by kernel_rfl
theorem Tab.lt {w : World} (h : Tab w) : 5 < w.heap.size := by
  unfold Tab Lib.TabIs World.var? at h
  rw [powGlobal] at h
  simp only [Option.bind_some] at h
  split at h
  · rename_i hh; exact (Array.getElem?_eq_some_iff.1 hh).1
  · cases h
theorem Tab.below {w w' : World} (h : Tab w) (hb : Below w.heap.size w w') : Tab w' := by
  have hl := h.lt
  unfold Tab Lib.TabIs World.var? at h ⊢
  rw [powGlobal] at h ⊢
  simp only [Option.bind_some] at h ⊢
  rw [hb.block _ hl]
  exact h
theorem Tab.drewN {w : World} (h : Tab w) (n : Nat) : Tab (w.drewN n) := h

theorem below_grow (w : World) (k : Nat) (os : Array Obj) : Below w.heap.size w (Sort.grow (w.drewN k) os) :=
  ⟨rfl, rfl, rfl, by show w.heap.size ≤ (w.heap ++ os).size; simp, fun i hi => by show (w.heap ++ os)[i]? = _; rw [Array.getElem?_append_left hi]⟩

theorem itoa_any (n : Int) (w : World) (h0 : -9223372036854775808 ≤ n) (h1 : n ≤ 9223372036854775807) (ht : Tab w) :
    Calls Tryz.prog 198 #[.int .i64 n] w fun e w' => e = .returned (.string (numB n)) ∧ Below w.heap.size w w' := by
  refine (Tryz.strconv_Itoa n h0 h1 w ht).mono ?_
  rintro e w' ⟨rfl, k, os, rfl⟩
  exact ⟨rfl, below_grow w k os⟩

set_option maxHeartbeats 400000 in
set_option maxRecDepth 100000 in
theorem implIntText_any (n : Int) (w : World) (h0 : -9223372036854775808 ≤ n) (h1 : n ≤ 9223372036854775807) (ht : Tab w) :
    Calls Tryz.prog 155 #[.int .i64 n] w fun e w' => e = .returned (.string (numB n)) ∧ Below w.heap.size w w' := by
  go_enter Tryz.func155, Tryz.ntmps155
  go_wp2_with fail
  refine (itoa_any n _ h0 h1 ht).mono ?_
  rintro e w1 ⟨rfl, hb⟩
  go_wp2
  go_ret
  exact ⟨rfl, hb⟩
end Go.Proofs.YtofehcpapdlcnaaGreatDoor

namespace Go.Proofs.YtofehcpapdlcnaaGreatDoor
open Go.RowKit

set_option maxHeartbeats 4000000 in
set_option maxRecDepth 100000 in
theorem lawPercent_walk (va : Value) (a : DI) (R0 : ByteArray) (w : World)
    (hS : ∀ (ua : Value) (W : World), OwnD ua a W → Calls Tryz.prog 23 #[ua] W (PostT R0 W))
    (hI : ∀ (ua : Value) (W : World), OwnD ua a W → Tab W → Sen W → Calls Tryz.prog 24 #[ua] W (PostT R0 W))
    (ht0 : Tab w) (ht1 : Sen w) (hl : szD a ≤ 1048576) (ra : RdD w va a) :
    Calls Tryz.prog 5 #[va] w fun e w' => e = .returned (.bool true) ∧ Below w.heap.size w w' := by
  have HS := Lib.hid hS
  have HI := Lib.hid hI
  clear hS hI
  have HT0 := Lib.hid ht0
  clear ht0
  have HT1 := Lib.hid ht1
  clear ht1
  have hsa := szD_nonneg a
  have hza : szD a ≤ 1048576 := by omega
  obtain ⟨Aa, ca, rfl⟩ := rdD_form ra
  have bb0 : Below w.heap.size w (w.alloc (.cells #[.bool a.1.1, .slice Aa a.1.2.length ca, .int .i64 a.2] 28)) := below_al (Below.refl _ _) _
  have ka := (box_new w #[.bool a.1.1, .slice Aa a.1.2.length ca, .int .i64 a.2] 28)
  have RFa : Hid (∀ W, Below w.heap.size w W → RdD W (.agg #[.bool a.1.1, .slice Aa a.1.2.length ca, .int .i64 a.2]) a) := Lib.hid fun W hb => ra.below hb
  go_enter Tryz.func5, Tryz.ntmps5
  have ka_c0 := ka.here.cell 0 _ rfl
  have ka_c1 := ka.here.cell 1 _ rfl
  have ka_c2 := ka.here.cell 2 _ rfl
  go_wp2_with fail
  clear ka_c0 ka_c1 ka_c2
  refine (szD_cal _ a (1048576) _ (capD_of hza) (by omega) (by omega) (RFa.out _ bb0)).mono ?_
  rintro e w1 ⟨rfl, b1⟩
  rw [leftI_of (by omega)]
  have bb1 := Below.next bb0 b1
  replace ka := ka.below b1
  have hn : decide (((1048576 : Int) - szD a : Int) < 0) = false := decide_eq_false (by omega)
  have HKa := Lib.hid (ka.lt (w.heap.size) (by simp))
  have ka_c0 := ka.here.cell 0 _ rfl
  have ka_c1 := ka.here.cell 1 _ rfl
  have ka_c2 := ka.here.cell 2 _ rfl
  go_wp2_with fail
  clear ka_c0 ka_c1 ka_c2
  refine (toD_new _ a _ hza (RFa.out _ bb1)).mono ?_
  rintro e w2 ⟨t, St, rfl, ot, lt, b2⟩
  have bb2 := Below.next bb1 b2
  replace ka := ka.below b2
  go_wp2_with fail
  refine (HS.out _ _ ot.here).mono ?_
  rintro e w3 ⟨rfl, b3⟩
  clear ot lt
  have bb3 := Below.next bb2 b3
  replace ka := ka.below b3
  have ka_c0 := ka.here.cell 0 _ rfl
  have ka_c1 := ka.here.cell 1 _ rfl
  have ka_c2 := ka.here.cell 2 _ rfl
  go_upto_region 6 with fail
  go_cut [5] (fun s wx => NewLocV 40 (fun v => OwnD v a) w3 s wx)
  case first =>
    go_wp2_with fail
    refine (toD_new _ a _ hza (RFa.out _ bb3)).mono ?_
    rintro e wt ⟨ut, St, rfl, ot, lt, bt⟩
    obtain ⟨At, ct, rfl⟩ := ownD_form ot.here
    go_wp2_with fail
    go_meet
    exact newLocV_last ot lt (Nat.le_refl _) bt
  rename World => w4
  clear ka_c0 ka_c1 ka_c2
  obtain ⟨gxa, csxa, Sxa, rfl, kxa, oxa, nxa, lxa, b4⟩ := hcut
  obtain ⟨Axa, cxa, exa⟩ := ownD_form oxa.here
  injection exa with exa
  subst exa
  have bb4 := Below.next bb3 b4
  replace ka := ka.below b4
  have kxa_c0 := kxa.here.cell 0 _ rfl
  have kxa_c1 := kxa.here.cell 1 _ rfl
  have kxa_c2 := kxa.here.cell 2 _ rfl
  go_wp2_with fail
  clear kxa_c0 kxa_c1 kxa_c2
  refine (HI.out _ _ oxa.here (HT0.out.below bb4) (HT1.out.below bb4)).mono ?_
  rintro e w5 ⟨rfl, b5⟩
  have bb5 := Below.next bb4 b5
  replace ka := ka.below b5
  replace kxa := kxa.below b5
  replace oxa := oxa.below b5
  have ka_c0 := ka.here.cell 0 _ rfl
  have ka_c1 := ka.here.cell 1 _ rfl
  have ka_c2 := ka.here.cell 2 _ rfl
  have kxa_c0 := kxa.here.cell 0 _ rfl
  have kxa_c1 := kxa.here.cell 1 _ rfl
  have kxa_c2 := kxa.here.cell 2 _ rfl
  go_wp2_with fail
  have HB0 := Lib.hid (show Below w5.heap.size w5 w5.drew from (Below.refl _ _).drew)
  have KL := Lib.hid (show ∀ W, Below w5.heap.size w5 W → W.cell? ⟨w.heap.size, 0, none⟩ = some (.bool a.1.1) ∧ W.cell? ⟨w.heap.size, 1, none⟩ = some (.slice Aa a.1.2.length ca) ∧ W.cell? ⟨w.heap.size, 2, none⟩ = some (.int .i64 a.2) ∧ W.cell? ⟨gxa, 0, none⟩ = some (.bool a.1.1) ∧ W.cell? ⟨gxa, 1, none⟩ = some (.slice Axa a.1.2.length cxa) ∧ W.cell? ⟨gxa, 2, none⟩ = some (.int .i64 a.2) ∧ Hid (Below w5.heap.size w5 W) from
    fun W hb => ⟨(ka.below hb).here.cell 0 _ rfl, (ka.below hb).here.cell 1 _ rfl, (ka.below hb).here.cell 2 _ rfl, (kxa.below hb).here.cell 0 _ rfl, (kxa.below hb).here.cell 1 _ rfl, (kxa.below hb).here.cell 2 _ rfl, Lib.hid hb⟩)
  have BBF := Lib.hid (show ∀ W, Below w5.heap.size w5 W → Below w.heap.size w W from fun W hb => Below.next bb5 hb)
  have OXF := Lib.hid (show ∀ W, Below w5.heap.size w5 W → OwnD (.agg #[.bool a.1.1, .slice Axa a.1.2.length cxa, .int .i64 a.2]) a W from fun W hb => (oxa.below hb).here)
  clear ka_c0 ka_c1 ka_c2 kxa_c0 kxa_c1 kxa_c2
  go_region_held3 (fun W => W.cell? ⟨w.heap.size, 0, none⟩ = some (.bool a.1.1) ∧ W.cell? ⟨w.heap.size, 1, none⟩ = some (.slice Aa a.1.2.length ca) ∧ W.cell? ⟨w.heap.size, 2, none⟩ = some (.int .i64 a.2) ∧ W.cell? ⟨gxa, 0, none⟩ = some (.bool a.1.1) ∧ W.cell? ⟨gxa, 1, none⟩ = some (.slice Axa a.1.2.length cxa) ∧ W.cell? ⟨gxa, 2, none⟩ = some (.int .i64 a.2) ∧ Hid (Below w5.heap.size w5 W))
    ((refine KL.out _ ?_; (first | exact HBe.out | exact HBt.out | exact HB0.out | fail)))
    (first
      | (go_at_call 11; (have hBB := (‹_ ∧ _ ∧ _ ∧ _ ∧ _ ∧ _ ∧ Hid (Below w5.heap.size w5 _)›).2.2.2.2.2.2); (with_reducible refine (toD_new _ a _ hza (RFa.out _ (BBF.out _ hBB.out))).mono ?_); rintro e wt ⟨t, St, rfl, ot, lt, bt⟩; have HBt := Lib.hid (Below.next hBB.out bt); clear hBB)
      | (go_at_call 15; (have hBB := (‹_ ∧ _ ∧ _ ∧ _ ∧ _ ∧ _ ∧ Hid (Below w5.heap.size w5 _)›).2.2.2.2.2.2); (with_reducible refine (eqD_cal _ _ a a _ (capD_of hza) (OwnD.rd (OXF.out _ hBB.out)) (OwnD.rd ot.here)).mono ?_); rintro e w6 ⟨rfl, be⟩; rw [decide_refl]; have HBe := Lib.hid (Below.next hBB.out be); clear hBB))
  have b6 := HBe.out
  have bb6 := Below.next bb5 b6
  replace ka := ka.below b6
  replace kxa := kxa.below b6
  replace oxa := oxa.below b6
  clear HB0 KL BBF OXF HBt HBe ot lt
  go_wp2
  go_ret
  exact ⟨rfl, bb6⟩
end Go.Proofs.YtofehcpapdlcnaaGreatDoor

namespace Go.Proofs.YtofehcpapdlcnaaGreatDoor
open Go.RowKit

def oneD : DI := (ofZ 1, 0)
def taxB (a : DI) : Bool := okD a && (!a.1.1 && (decide (a.1.2.length ≤ 1) && decide (cmpD a oneD ≤ 0)))
theorem taxB_bad {a : DI} (h : okD a = false) : taxB a = false := by unfold taxB; rw [h]; rfl
theorem taxB_neg {a : DI} (h : a.1.1 = true) : taxB a = false := by unfold taxB; rw [h]; simp
theorem taxB_long {a : DI} (h : ¬ a.1.2.length ≤ 1) : taxB a = false := by unfold taxB; rw [decide_eq_false h]; simp
theorem taxB_is {a : DI} (h : okD a = true) (h1 : a.1.1 = false) (h2 : a.1.2.length ≤ 1) : taxB a = decide (cmpD a oneD ≤ 0) := by unfold taxB; rw [h, h1, decide_eq_true h2]; simp
theorem taxB_ok {a : DI} (h : taxB a = true) : okD a = true ∧ a.1.1 = false ∧ a.1.2.length ≤ 1 ∧ cmpD a oneD ≤ 0 := by
  unfold taxB at h
  simp only [Bool.and_eq_true, Bool.not_eq_true', decide_eq_true_eq] at h
  exact ⟨h.1, h.2.1, h.2.2.1, h.2.2.2⟩
/-- the sign that IntSign gives -/
theorem sign_neg {x : SI} (h : okS x = true) : decide (cmpS x zeroS < 0) = x.1 := by
  rw [okS_sign h]
  unfold cmpS
  rw [if_pos ⟨h, zeroS_ok⟩, zeroS_val]
  unfold cmpI
  split
  · rename_i h1
    rw [decide_eq_true h1]; rfl
  · rename_i h1
    rw [decide_eq_false h1]
    split <;> rfl
end Go.Proofs.YtofehcpapdlcnaaGreatDoor

namespace Go.Proofs.YtofehcpapdlcnaaGreatDoor
open Go.RowKit

theorem sizeBuilder : (Tryz.prog.info? 142).map (fun i => i.size) = some 2 := by kernel_rfl
theorem liesBuilder : liesAt Tryz.prog Tryz.prog.depth 142 (2 / Tryz.prog.cellsOf 142) 0 142 1 = true := by kernel_rfl
theorem byteInfo : (Tryz.prog.info? 5).map (fun i => (i.zero, i.size, i.bytes)) = some (some (.int .u8 0), 1, 1) := by kernel_rfl

set_option maxHeartbeats 400000 in
set_option maxRecDepth 100000 in
theorem copyCheck_used (b : Nat) (w : World) (h0 : w.cell? ⟨b, 0, none⟩ = some (.pointer (some ⟨b, 0, none⟩))) :
    Calls Tryz.prog 199 #[.pointer (some ⟨b, 0, none⟩)] w fun e w' => e = .returned (.tuple #[]) ∧ w = w' := by
  obtain ⟨j, hj, _⟩ := Option.map_eq_some_iff.1 sizeBuilder
  go_enter Tryz.func199, Tryz.ntmps199
  go_wp2
  rw [Lib.run_neq_ptr_same w _ Tryz.underlying139 hj]
  go_wp2
  go_end0
  exact ⟨rfl, rfl⟩

set_option maxHeartbeats 400000 in
set_option maxRecDepth 100000 in
theorem copyCheck_fresh (b : Nat) (w : World) (h0 : w.cell? ⟨b, 0, none⟩ = some (.pointer none)) (hsh : w.shape? b = some (142, 2)) (hfz : w.frozen? ⟨b, 0, none⟩ = false) :
    Calls Tryz.prog 199 #[.pointer (some ⟨b, 0, none⟩)] w fun e w' => e = .returned (.tuple #[]) ∧ w.setCell ⟨b, 0, none⟩ (.pointer (some ⟨b, 0, none⟩)) = w' := by
  obtain ⟨j, hj, hjs⟩ := Option.map_eq_some_iff.1 sizeBuilder
  go_enter Tryz.func199, Tryz.ntmps199
  go_wp2
  rw [Lib.run_to_unsafe w ⟨b, 0, none⟩ Tryz.underlying139 Tryz.underlying212 hj (by rw [hjs]; decide) hsh (Nat.zero_lt_succ 1)]
  simp only [Result.andThen]
  rw [Oper.upon_value]
  go_wp2
  rw [run_callFunc_extern Tryz.func223 (by kernel_rfl) (by kernel_rfl) (by kernel_rfl) (e := Extern.AbiNoEscape.same) (by kernel_rfl)]
  rw [Lib.run_noEscape]
  simp only [Result.andThen]
  rw [Oper.upon_value]
  go_wp2
  rw [Lib.run_from_unsafe w ⟨b, 0, none⟩ Tryz.underlying212 Tryz.underlying139 hj hsh liesBuilder]
  simp only [Result.andThen]
  rw [Oper.upon_value]
  go_wp2
  go_end0
  exact ⟨rfl, rfl⟩

/-- a builder of the call's own, with what it holds, and the frame above it -/
def Built (B b : Nat) (bs : List Value) (w w' : World) : Prop := Lib.IsBuilderF 142 5 B b bs w' ∧ Below B w w' ∧ Lib.OthersKept 5 (some b) w w'

theorem copyCheck_any (B b : Nat) (bs : List Value) (w : World) (h : Lib.IsBuilderF 142 5 B b bs w) :
    Calls Tryz.prog 199 #[.pointer (some ⟨b, 0, none⟩)] w fun e w' => e = .returned (.tuple #[]) ∧ Lib.BuilderAtF 142 5 B b (.pointer (some ⟨b, 0, none⟩)) bs w' ∧ Below B w w' ∧ Lib.OthersKept 5 (some b) w w' := by
  rcases h with h | h
  · refine (copyCheck_fresh b w h.cell0 h.shape h.frozen0).mono ?_
    rintro e w' ⟨rfl, rfl⟩
    exact ⟨rfl, h.used _, (Below.refl B w).setCell (p := ⟨b, 0, none⟩) h.1 _, (Lib.OthersKept.refl _ _ w).setCell ⟨b, 0, none⟩ rfl _⟩
  · refine (copyCheck_used b w h.cell0).mono ?_
    rintro e w' ⟨rfl, rfl⟩
    exact ⟨rfl, h, Below.refl B _, Lib.OthersKept.refl _ _ _⟩

set_option maxHeartbeats 1000000 in
set_option maxRecDepth 100000 in
theorem writeString_any (B b : Nat) (bs : List Value) (s : ByteArray) (w : World) (h : Lib.IsBuilderF 142 5 B b bs w) (hlen : bs.length + s.size ≤ 140737488355328) (hBw : B ≤ w.heap.size) :
    Calls Tryz.prog 157 #[.pointer (some ⟨b, 0, none⟩), .string s] w fun e w' => e = .returned (.tuple #[.int .i64 s.size, .nilIface]) ∧ Built B b (bs ++ Lib.strCells s) w w' := by
  obtain ⟨i0, hi, hz0, hz1, hz2⟩ := info_parts byteInfo
  go_enter Tryz.func157, Tryz.ntmps157
  go_wp2_with fail
  refine (copyCheck_any B b bs _ h).mono ?_
  rintro e w1 ⟨rfl, h1, hb1, hk1⟩
  obtain ⟨hB, v, hbk, hown, hne⟩ := h1
  have c1 : w1.cell? ⟨b, 1, none⟩ = some v := by rw [Lib.cell_of_heap hbk]; rfl
  go_wp2_with (at_builtin; refine Lib.wpList_append_own_stringF _ rfl _ _ 140 9 rfl B 5 i0 Tryz.underlying140 Tryz.underlying9 hi hz0 hz1 hz2 _ _ _ rfl hown s rfl ?c3 ?c4 ?c5 ?_)
  case c3 => unfold maxLen; omega
  case c4 => omega
  case c5 => have := hb1.size; omega
  intro v' w2 hown' hgrow _
  have hlt : b < w1.heap.size := (Array.getElem?_eq_some_iff.1 hbk).1
  have hb2 : w2.heap[b]? = some (.cells #[.pointer (some ⟨b, 0, none⟩), v] 142 (0, 0)) := by
    rw [hgrow.block b hlt (fun e => hne e.symm)]
    exact hbk
  have d1 : w2.cell? ⟨b, 1, none⟩ = some v := by rw [Lib.cell_of_heap hb2]; rfl
  have f1 : w2.frozen? ⟨b, 1, none⟩ = false := Lib.frozen_of_heap hb2 1
  obtain ⟨ao, n', cap, rfl⟩ : ∃ ao n' cap, v' = .slice ao n' cap := by
    rcases hown'.2 with ⟨hv, _⟩ | ⟨g, cap, cur, fz, hv, _⟩
    · exact ⟨_, _, _, hv⟩
    · exact ⟨_, _, _, hv⟩
  go_wp2
  go_ret2
  refine ⟨rfl, .inr ?_, ?_, (hk1.grown hgrow (Lib.ownsRowF_kind hown)).setCell ⟨b, 1, none⟩ rfl _⟩
  · exact Lib.BuilderAtF.put hB hb2 (bs' := bs ++ Lib.strCells s) (by simpa [Lib.strCells_length] using hown') (by decide)
  · exact (hb1.grown hgrow (by have := hb1.size; omega) (fun k hk => (hown.lt k hk).1)).setCell (p := ⟨b, 1, none⟩) hB _
end Go.Proofs.YtofehcpapdlcnaaGreatDoor

namespace Go.Proofs.YtofehcpapdlcnaaGreatDoor
open Go.RowKit

/-- the first k parts with by between them -/
def joinTo (by_ : ByteArray) (ss : List ByteArray) : Nat → List UInt8
  | 0 => []
  | k + 1 => joinTo by_ ss k ++ (if 0 < k then by_.data.toList else []) ++ (ss.getD k ByteArray.empty).data.toList
def joinB (by_ : ByteArray) (ss : List ByteArray) : ByteArray := ⟨(joinTo by_ ss ss.length).toArray⟩

theorem joinTo_length (by_ : ByteArray) (ss : List ByteArray) (hy : by_.size ≤ 1048576) (hs : ∀ s ∈ ss, s.size ≤ 1048576) (k : Nat) : (joinTo by_ ss k).length ≤ k * 2097152 := by
  induction k with
  | zero => simp [joinTo]
  | succ k ih =>
    have h1 : (ss.getD k ByteArray.empty).data.toList.length ≤ 1048576 := by
      rw [List.getD_eq_getElem?_getD]
      by_cases hk : k < ss.length
      · rw [List.getElem?_eq_getElem hk]
        exact hs _ (List.getElem_mem hk)
      · rw [List.getElem?_eq_none (by omega)]
        exact Nat.zero_le _
    have h2 : (if 0 < k then by_.data.toList else []).length ≤ 1048576 := by
      split
      · exact hy
      · exact Nat.zero_le _
    unfold joinTo
    rw [List.length_append, List.length_append]
    omega

theorem joinTo_more (by_ : ByteArray) (ss : List ByteArray) (k : Nat) (h0 : 0 < k) (h : k < ss.length) : joinTo by_ ss (k + 1) = joinTo by_ ss k ++ by_.data.toList ++ ss[k].data.toList := by
  rw [joinTo, if_pos h0, List.getD_eq_getElem?_getD, List.getElem?_eq_getElem h]
  rfl
theorem joinTo_first (by_ : ByteArray) (ss : List ByteArray) (k : Nat) (h0 : ¬ 0 < k) (h : k < ss.length) : joinTo by_ ss (k + 1) = joinTo by_ ss k ++ ss[k].data.toList := by
  rw [joinTo, if_neg h0, List.getD_eq_getElem?_getD, List.getElem?_eq_getElem h, List.append_nil]
  rfl

set_option maxHeartbeats 1000000 in
set_option maxRecDepth 100000 in
theorem joinAll_any (by_ : ByteArray) (v : Value) (ss : List ByteArray) (lo hi : Nat) (w : World) (hhi : hi ≤ w.heap.size) (hn : ss.length ≤ 1048576) (hy : by_.size ≤ 1048576) (hs : ∀ s ∈ ss, s.size ≤ 1048576)
    (hr : Row w lo hi v (ss.map Value.string)) :
    Calls Tryz.prog 111 #[.string by_, v] w fun e w' => e = .returned (.string (joinB by_ ss)) ∧ Below w.heap.size w w' := by
  obtain ⟨A, c, rfl, hA⟩ := hr
  rw [List.length_map]
  have HA := Lib.hid hA
  have HS := Lib.hid hs
  clear hA hs
  go_enter Tryz.func111, Tryz.ntmps111
  go_wp2
  go_loopw [10] (fun i wr => ∃ k : Nat, k ≤ ss.length ∧ i = .int .i64 k ∧ Lib.IsBuilderF 142 5 w.heap.size w.heap.size (Lib.byteCells (joinTo by_ ss k)) wr ∧ Below w.heap.size w wr) (fun i _ => ss.length - (intOf i).toNat)
  case atStart => exact ⟨0, Nat.zero_le _, rfl, .inl ⟨Nat.le_refl _, .slice none 0 0, heap_alloc_new w _, ⟨rfl, .inl ⟨rfl, rfl⟩⟩, by simp [Value.ownBlock]⟩, (Below.refl _ _).alloc (Nat.le_refl _) _⟩
  case round =>
    obtain ⟨k, hk, rfl, hB, hb⟩ := hrel
    have hjl := joinTo_length by_ ss hy HS.out k
    by_cases hlt : k < ss.length
    · obtain ⟨a, rfl, _, hab, hca⟩ := HA.out k (.string ss[k]) (by simp [hlt])
      have hca' : wr.cell? (a.add k) = some (.string ss[k]) := (hb.cell (by rw [block_add]; omega)).trans hca
      clear hca
      have hsk : ss[k].size ≤ 1048576 := HS.out _ (List.getElem_mem hlt)
      by_cases h0 : 0 < k
      · have HJ := Lib.hid (joinTo_more by_ ss k h0 hlt)
        go_wp2_with fail
        refine (writeString_any w.heap.size w.heap.size _ by_ _ hB (by rw [Lib.byteCells_length]; omega) hb.size).mono ?_
        rintro e w1 ⟨rfl, hB1, hb1, _⟩
        go_wp2_with fail
        refine (writeString_any w.heap.size w.heap.size _ ss[k] _ hB1 (by rw [List.length_append, Lib.byteCells_length, Lib.strCells_length]; omega) (by have := hb.size; have := hb1.size; omega)).mono ?_
        rintro e w2 ⟨rfl, hB2, hb2, _⟩
        rw [Lib.strCells_eq, Lib.strCells_eq, ← Lib.byteCells_append, ← Lib.byteCells_append] at hB2
        go_wp2
        go_roundw
        case rel => exact ⟨k + 1, by omega, by go_num, by rw [HJ.out]; exact hB2, (hb.trans hb1).trans hb2⟩
        case measure => simp [intOf]; omega
      · have HJ := Lib.hid (joinTo_first by_ ss k h0 hlt)
        go_wp2_with fail
        refine (writeString_any w.heap.size w.heap.size _ ss[k] _ hB (by rw [Lib.byteCells_length]; omega) hb.size).mono ?_
        rintro e w1 ⟨rfl, hB1, hb1, _⟩
        rw [Lib.strCells_eq, ← Lib.byteCells_append] at hB1
        go_wp2
        go_roundw
        case rel => exact ⟨k + 1, by omega, by go_num, by rw [HJ.out]; exact hB1, hb.trans hb1⟩
        case measure => simp [intOf]; omega
    · obtain rfl : k = ss.length := by omega
      go_wp2_with fail
      refine (Tryz.Builder_String_any_k w.heap.size w.heap.size _ _ hB hb.size).mono ?_
      rintro e w1 ⟨rfl, _, hb1, _⟩
      go_wp2
      go_ret
      exact ⟨rfl, hb.trans hb1⟩

set_option maxHeartbeats 400000 in
set_option maxRecDepth 100000 in
theorem implJoin_any (v : Value) (by_ : ByteArray) (ss : List ByteArray) (lo hi : Nat) (w : World) (hhi : hi ≤ w.heap.size) (hn : ss.length ≤ 1048576) (hy : by_.size ≤ 1048576) (hs : ∀ s ∈ ss, s.size ≤ 1048576)
    (hr : Row w lo hi v (ss.map Value.string)) :
    Calls Tryz.prog 156 #[v, .string by_] w fun e w' => e = .returned (.string (joinB by_ ss)) ∧ Below w.heap.size w w' := by
  have HS := Lib.hid hs
  clear hs
  go_enter Tryz.func156, Tryz.ntmps156
  go_wp2_with fail
  refine (joinAll_any by_ v ss lo hi _ hhi hn hy HS.out hr).mono ?_
  rintro e w1 ⟨rfl, hb⟩
  go_wp2
  go_ret
  exact ⟨rfl, hb⟩

end Go.Proofs.YtofehcpapdlcnaaGreatDoor

namespace Go.Proofs.YtofehcpapdlcnaaGreatDoor
open Go.RowKit

/-- zeros ahead of a text -/
def padB (s : ByteArray) (n : Int) : ByteArray := ⟨(List.replicate (n.toNat - s.size) (48 : UInt8) ++ s.data.toList).toArray⟩

theorem padB_same (s : ByteArray) (n : Int) (h : n ≤ s.size) : padB s n = s := by
  unfold padB
  rw [show n.toNat - s.size = 0 from by omega]
  apply ByteArray.ext
  simp
theorem padB_step (s : ByteArray) (n : Int) (h : (s.size : Int) < n) : padB ((⟨#[48]⟩ : ByteArray) ++ s) n = padB s n := by
  have e : n.toNat - s.size = (n.toNat - (s.size + 1)) + 1 := by omega
  have hsz : ((⟨#[48]⟩ : ByteArray) ++ s).size = s.size + 1 := by rw [ByteArray.size_append]; show 1 + s.size = _; omega
  unfold padB
  rw [hsz, e, List.replicate_succ']
  apply ByteArray.ext
  simp
theorem repeat_zero (c : Nat) : Lib.repeatL [48] c = List.replicate c 48 := by
  induction c with
  | zero => rfl
  | succ c ih => rw [Lib.repeatL, ih, List.replicate_succ]; rfl
/-- so many zeros -/
def zerosB (m : Int) : ByteArray := ⟨(List.replicate m.toNat (48 : UInt8)).toArray⟩
theorem zerosB_size (m : Int) : (zerosB m).size = m.toNat := by
  unfold zerosB
  show (List.replicate m.toNat (48 : UInt8)).toArray.size = _
  simp
def strSize : Value → Nat
  | .string t => t.size
  | _ => 0
theorem size_zero_app (t : ByteArray) : ((⟨#[48]⟩ : ByteArray) ++ t).size = t.size + 1 := by
  rw [ByteArray.size_append]
  show 1 + t.size = _
  omega
theorem repeat_any (m : Int) (w : World) (h0 : 0 ≤ m) (h1 : m ≤ 2000) :
    Calls Tryz.prog 153 #[.string ⟨#[48]⟩, .int .i64 m] w fun e w' => e = .returned (.string (zerosB m)) ∧ Below w.heap.size w w' := by
  obtain ⟨c, rfl⟩ := Int.eq_ofNat_of_zero_le h0
  refine (Tryz.strings_Repeat ⟨#[48]⟩ c w (by omega) (by show 1 * c ≤ _; omega)).mono fun e w' ⟨he, hb⟩ => ⟨?_, hb⟩
  rw [he]
  exact ret_str (by rw [zerosB, Int.toNat_natCast, ← repeat_zero])
theorem join_pad (s : ByteArray) (n : Int) (h : (s.size : Int) < n) : joinB ⟨#[]⟩ [zerosB (n - s.size), s] = padB s n := by
  unfold joinB padB zerosB
  rw [show (n - s.size).toNat = n.toNat - s.size from by omega]
  simp [joinTo]

set_option maxHeartbeats 400000 in
set_option maxRecDepth 100000 in
theorem specPad_any (s : ByteArray) (n : Int) (w : World) (hs : s.size ≤ 1048576) (hn : n ≤ 2000) :
    Calls Tryz.prog 100 #[.string s, .int .i64 n] w fun e w' => e = .returned (.string (padB s n)) ∧ w = w' := by
  go_enter Tryz.func100, Tryz.ntmps100
  go_wp2
  go_loop [0] (fun a => ∃ t : ByteArray, t.size ≤ 1048576 ∧ a = .string t ∧ Hid (padB t n = padB s n)) (fun a => n.toNat - strSize a)
  case atStart => exact ⟨s, hs, rfl, Lib.hid rfl⟩
  case round =>
    obtain ⟨t, ht, rfl, HP⟩ := hrel
    by_cases hlt : (t.size : Int) < n
    · have HS := Lib.hid (padB_step t n hlt)
      have HZ := Lib.hid (size_zero_app t)
      go_wp2
      go_round
      case rel => exact ⟨_, by rw [HZ.out]; omega, rfl, Lib.hid (HS.out.trans HP.out)⟩
      case measure => simp only [strSize, HZ.out]; omega
    · go_wp2
      go_ret
      exact ⟨ret_str (by rw [← HP.out, padB_same t n (by omega)]), rfl⟩

set_option maxHeartbeats 400000 in
set_option maxRecDepth 100000 in
theorem implPad_any (s : ByteArray) (n : Int) (w : World) (hs : s.size ≤ 1048576) (hn : n ≤ 2000) (h63 : -9223372036854775808 ≤ n) :
    Calls Tryz.prog 109 #[.string s, .int .i64 n] w fun e w' => e = .returned (.string (padB s n)) ∧ Below w.heap.size w w' := by
  by_cases hlt : (s.size : Int) < n
  · go_enter Tryz.func109, Tryz.ntmps109
    go_wp2_with fail
    refine (repeat_any _ _ (by omega) (by omega)).mono ?_
    rintro e w1 ⟨rfl, hb1⟩
    have hz1 := hb1.size
    have hzs := Lib.hid (zerosB_size (n - s.size))
    go_wp2_with fail
    refine (joinAll_any ⟨#[]⟩ _ [zerosB (n - s.size), s] w1.heap.size (w1.heap.size + 1) _ (by simp) (by simp) (by decide) ?_ (Row.lit2 _ _ _ _)).mono ?_
    · intro x hx
      rcases List.mem_cons.1 hx with rfl | hx
      · rw [hzs.out]; omega
      · rw [List.mem_singleton.1 hx]; exact hs
    rintro e w2 ⟨rfl, hb2⟩
    go_wp2
    go_ret
    exact ⟨ret_str (join_pad s n hlt), Below.next (hb1.alloc (by omega) _) hb2⟩
  · go_enter Tryz.func109, Tryz.ntmps109
    go_wp2
    go_ret
    exact ⟨ret_str (padB_same s n (by omega)).symm, Below.refl _ _⟩

end Go.Proofs.YtofehcpapdlcnaaGreatDoor

namespace Go.Proofs.YtofehcpapdlcnaaGreatDoor
open Go.RowKit

/-- the decimal text of limbs, the least first -/
def natT : List Int → ByteArray
  | [] => ⟨#[48]⟩
  | [d] => numB d
  | d :: e :: r => natT (e :: r) ++ padB (numB d) 9
/-- what NatText answers -/
def natTextB (a : List Int) : ByteArray := if natOkB a = true then natT a else ⟨#[]⟩
theorem padB_size (s : ByteArray) (n : Nat) (h : s.size ≤ n) (n9 : (9 : Int) ≤ n) : (padB s 9).size ≤ n := by
  unfold padB
  show (List.toArray _).size ≤ n
  rw [List.size_toArray, List.length_append, List.length_replicate]
  have : s.data.toList.length = s.size := rfl
  omega
theorem limb_size {d : Int} (h : 0 ≤ d ∧ d ≤ 999999999) : (numB d).size ≤ 10 := numB_size d 8 (by omega)
theorem natT_size (a : List Int) (h : DigN a) : (natT a).size ≤ 10 * a.length + 1 := by
  induction a with
  | nil => unfold natT; decide
  | cons d r ih =>
    have hd := limb_size (h d (by simp))
    cases r with
    | nil => unfold natT; simp; omega
    | cons e r =>
      have hp := padB_size _ 10 hd (by omega)
      have := ih (fun x hx => h x (by simp at hx ⊢; exact .inr hx))
      unfold natT
      rw [ByteArray.size_append]
      simp only [List.length_cons] at *
      omega
theorem natT_step (a : List Int) (i : Nat) (h : i + 1 < a.length) : natT (a.drop i) = natT (a.drop (i + 1)) ++ padB (numB a[i]) 9 := by
  rw [List.drop_eq_getElem_cons (show i < a.length by omega), List.drop_eq_getElem_cons h]
  rfl
theorem natT_last (a : List Int) (h : 0 < a.length) : natT (a.drop (a.length - 1)) = numB (a[a.length - 1]) := by
  rw [List.drop_eq_getElem_cons (show a.length - 1 < a.length by omega), List.drop_eq_nil_of_le (by omega)]
  rfl

set_option maxHeartbeats 1000000 in
set_option maxRecDepth 100000 in
theorem specNatText_any (v : Value) (a : List Int) (lo hi : Nat) (w : World) (hl : a.length ≤ 1048576) (hhi : hi ≤ w.heap.size) (hr : Row w lo hi v (intsV a)) :
    Calls Tryz.prog 101 #[v] w fun e w' => e = .returned (.string (natTextB a)) ∧ Below w.heap.size w w' := by
  by_cases ok : natOkB a = true
  · have HV := Lib.hid (show natTextB a = natT a by unfold natTextB; rw [if_pos ok])
    have pa := natOk_parts ok
    by_cases h0 : a.length = 0
    · have HA := Lib.hid (show a = [] from List.length_eq_zero_iff.1 h0)
      have H0 := Lib.hid h0
      clear h0
      have hr0 := hr
      obtain ⟨A, c, rfl, _⟩ := hr
      rw [intsV_length] at hr0 ⊢
      go_enter Tryz.func101, Tryz.ntmps101
      go_wp2_with fail
      refine (specNatOk_any _ a lo hi _ hl hr0).mono ?_
      rintro e w' ⟨rfl, rfl⟩
      rw [ok]
      have h0 := H0.out
      go_wp2
      go_ret
      exact ⟨by rw [HV.out, HA.out]; rfl, Below.refl _ _⟩
    · have hr0 := hr
      obtain ⟨A, c, rfl, hA⟩ := hr
      obtain ⟨ad, rfl, hlo, hbh, _⟩ := hA 0 _ (intsV_at a 0 (by omega))
      have HA := Lib.hid hA
      have PA := Lib.hid pa.1
      have h50 := pa.2.1
      have hlim := pa.1 a[a.length - 1] (List.getElem_mem _)
      have hc1 : w.cell? (ad.add (a.length - 1)) = some (.int .i64 a[a.length - 1]) := by
        obtain ⟨_, e, _, _, h⟩ := hA (a.length - 1) _ (intsV_at a (a.length - 1) (by omega))
        cases e
        exact h
      have hix : ((a.length : Int) - 1).toNat = a.length - 1 := by omega
      clear hA
      rw [intsV_length] at hr0 ⊢
      go_enter Tryz.func101, Tryz.ntmps101
      go_wp2_with fail
      refine (specNatOk_any _ a lo hi _ hl hr0).mono ?_
      rintro e w' ⟨rfl, rfl⟩
      rw [ok]
      go_wp2_with fail
      refine (specIntText_any _ _ (by omega) (by omega)).mono ?_
      rintro e w1 ⟨rfl, b1⟩
      have HL := Lib.hid (natT_last a (by omega))
      go_wp2
      go_loopw [3, 4] (fun s i wr => ∃ k : Nat, k < a.length ∧ i = .int .i64 ((k : Int) - 1) ∧ s = .string (natT (a.drop k)) ∧ Below w.heap.size w wr) (fun _ i _ => (intOf i + 1).toNat)
      case atStart => exact ⟨a.length - 1, by omega, by congr 1; omega, by rw [HL.out], b1⟩
      case round =>
        obtain ⟨k, hk, rfl, rfl, hb⟩ := hrel
        by_cases hk0 : 0 < k
        · obtain ⟨j, rfl⟩ : ∃ j, k = j + 1 := ⟨k - 1, by omega⟩
          have hcj : wr.cell? (ad.add j) = some (.int .i64 a[j]) := by
            obtain ⟨_, e, _, _, h⟩ := HA.out j _ (intsV_at a j (by omega))
            cases e
            exact (hb.cell (by rw [block_add]; omega)).trans h
          have hj := PA.out a[j] (List.getElem_mem _)
          have hsz := natT_size (a.drop (j + 1)) (fun x hx => PA.out x (List.mem_of_mem_drop hx))
          have hps := padB_size _ 10 (limb_size hj) (by omega)
          have hls := limb_size hj
          rw [List.length_drop] at hsz
          have HSt := Lib.hid (natT_step a j hk)
          have e1 : (((j + 1 : Nat) : Int) - 1) = (j : Int) := by omega
          rw [e1]
          go_wp2_with fail
          refine (specIntText_any _ _ (by omega) (by omega)).mono ?_
          rintro e w2 ⟨rfl, b2⟩
          go_wp2_with fail
          refine (specPad_any _ _ _ (by omega) (by omega)).mono ?_
          rintro e w' ⟨rfl, rfl⟩
          go_wp2
          exact ⟨⟨j, by omega, rfl, by rw [HSt.out], Below.next hb b2⟩, by simp [intOf]⟩
        · go_wp2
          go_ret
          exact ⟨ret_str (by rw [HV.out, show k = 0 by omega]; rfl), hb⟩
  · have HV := Lib.hid (show natTextB a = ⟨#[]⟩ by unfold natTextB; rw [if_neg ok])
    have okf : natOkB a = false := by simpa using ok
    have hr0 := hr
    obtain ⟨A, c, rfl, _⟩ := hr
    rw [intsV_length] at hr0 ⊢
    go_enter Tryz.func101, Tryz.ntmps101
    go_wp2_with fail
    refine (specNatOk_any _ a lo hi _ hl hr0).mono ?_
    rintro e w' ⟨rfl, rfl⟩
    rw [okf]
    go_wp2
    go_ret
    exact ⟨ret_str HV.out.symm, Below.refl _ _⟩

theorem natTextB_size (a : List Int) : (natTextB a).size ≤ 501 := by
  unfold natTextB
  split
  · rename_i h
    have hp := natOk_parts h
    have := natT_size a hp.1
    omega
  · show 0 ≤ 501
    omega
end Go.Proofs.YtofehcpapdlcnaaGreatDoor

namespace Go.Proofs.YtofehcpapdlcnaaGreatDoor
open Go.RowKit

/-- one byte in one of two ranges -/
def inTwo (lo hi low high : Nat) (c : UInt8) : Bool := decide ((lo ≤ c.toNat ∧ c.toNat ≤ hi) ∨ (low ≤ c.toNat ∧ c.toNat ≤ high))
/-- every byte from place k on is in one of two ranges -/
def allFrom (s : ByteArray) (lo hi low high k : Nat) : Bool := (s.data.toList.drop k).all (inTwo lo hi low high)

theorem allFrom_step (s : ByteArray) (lo hi low high k : Nat) (h : k < s.size) : allFrom s lo hi low high k = (inTwo lo hi low high s[k] && allFrom s lo hi low high (k + 1)) := by
  unfold allFrom
  rw [List.drop_eq_getElem_cons (by simpa using h)]
  rfl
theorem allFrom_end (s : ByteArray) (lo hi low high k : Nat) (h : ¬ k < s.size) : allFrom s lo hi low high k = true := by
  unfold allFrom
  rw [List.drop_eq_nil_of_le (by simp; omega)]
  rfl

theorem allFrom_yes (s : ByteArray) (lo hi low high k : Nat) (h : k < s.size) (hb : (lo ≤ s[k].toNat ∧ s[k].toNat ≤ hi) ∨ (low ≤ s[k].toNat ∧ s[k].toNat ≤ high)) : allFrom s lo hi low high (k + 1) = allFrom s lo hi low high k := by
  rw [allFrom_step s lo hi low high k h]
  simp [inTwo, hb]
theorem allFrom_no (s : ByteArray) (lo hi low high k : Nat) (h : k < s.size) (hb : ¬ ((lo ≤ s[k].toNat ∧ s[k].toNat ≤ hi) ∨ (low ≤ s[k].toNat ∧ s[k].toNat ≤ high))) : allFrom s lo hi low high k = false := by
  rw [allFrom_step s lo hi low high k h]
  simp [inTwo, hb]

set_option maxHeartbeats 400000 in
set_option maxRecDepth 100000 in
theorem l01All_any (s : ByteArray) (lo hi low high : Nat) (w : World) (hs : s.size ≤ maxLen) :
    Calls Tryz.prog 200 #[.string s, .int .u8 lo, .int .u8 hi, .int .u8 low, .int .u8 high] w fun e w' => e = .returned (.bool (allFrom s lo hi low high 0 && decide (0 < s.size))) ∧ w = w' := by
  unfold maxLen at hs
  go_enter Tryz.func200, Tryz.ntmps200
  go_wp2
  go_loop [11] (fun i => ∃ k : Nat, k ≤ s.size ∧ i = .int .i64 k ∧ Hid (allFrom s lo hi low high k = allFrom s lo hi low high 0)) (fun i => s.size - (intOf i).toNat)
  case atStart => exact ⟨0, Nat.zero_le _, rfl, Lib.hid rfl⟩
  case round =>
    obtain ⟨k, hk, rfl, HA⟩ := hrel
    by_cases hlt : k < s.size
    · go_wp2
      all_goals first
        | (go_round
           case rel => exact ⟨k + 1, by omega, by go_num, Lib.hid ((allFrom_yes s lo hi low high k hlt (by omega)).trans HA.out)⟩
           case measure => simp [intOf]; omega)
        | (go_ret
           exact ⟨by rw [← HA.out, allFrom_no s lo hi low high k hlt (by omega)]; rfl, rfl⟩)
    · go_wp2
      go_ret
      exact ⟨by rw [← HA.out, allFrom_end s lo hi low high k hlt]; simp, rfl⟩

/-- what IsDigits, IsWord and IsCode of the document ask -/
def digitsB (s : ByteArray) : Bool := allFrom s 48 57 48 57 0 && decide (0 < s.size)
set_option maxHeartbeats 400000 in
set_option maxRecDepth 100000 in
theorem specIsDigits_any (s : ByteArray) (w : World) (hs : s.size ≤ maxLen) :
    Calls Tryz.prog 160 #[.string s] w fun e w' => e = .returned (.bool (digitsB s)) ∧ w = w' := by
  go_enter Tryz.func160, Tryz.ntmps160
  go_wp2_with fail
  refine (l01All_any s 48 57 48 57 _ hs).mono ?_
  rintro e w' ⟨rfl, rfl⟩
  go_wp2
  go_ret
  exact ⟨rfl, rfl⟩

/-- a rune in a range -/
def bet (lo hi r : Int) : Bool := decide (lo ≤ r ∧ r ≤ hi)
theorem bet_yes {lo hi r : Int} (h1 : lo ≤ r) (h2 : r ≤ hi) : bet lo hi r = true := by simp [bet, h1, h2]
theorem bet_no {lo hi r : Int} (h : ¬ (lo ≤ r ∧ r ≤ hi)) : bet lo hi r = false := by simpa [bet] using h

set_option maxHeartbeats 400000 in
set_option maxRecDepth 100000 in
theorem isDigit_any (r : Int) (b : Bool) (w : World) (hb : bet 48 57 r = b) :
    Calls Tryz.prog 203 #[.int .i32 r] w fun e w' => e = .returned (.bool b) ∧ w = w' := by
  subst hb
  go_enter Tryz.func203, Tryz.ntmps203
  go_wp2
  all_goals go_ret
  · exact ⟨by simp [bet, *], rfl⟩
  · exact ⟨by simp [bet]; omega, rfl⟩

theorem isEmpty_size (s : ByteArray) : s.toList.isEmpty = decide (s.size = 0) := by
  rw [ByteArray.toList_eq]
  obtain ⟨⟨l⟩⟩ := s
  cases l with
  | nil => rfl
  | cons a r => simp [ByteArray.size]


theorem fin_digits (s : ByteArray) (h : allFrom s 48 57 48 57 0 = true) : (!s.toList.isEmpty) = digitsB s := by
  rw [isEmpty_size, digitsB, h, Bool.true_and, ← decide_not]
  exact decide_eq_decide.2 (by omega)
theorem no_digits (s : ByteArray) (h : allFrom s 48 57 48 57 0 = false) : false = digitsB s := by rw [digitsB, h]; rfl
set_option maxHeartbeats 400000 in
set_option maxRecDepth 100000 in
theorem implIsDigits_any (s : ByteArray) (w : World) :
    Calls Tryz.prog 164 #[.string s] w fun e w' => e = .returned (.bool (digitsB s)) ∧ Below w.heap.size w w' := by
  go_enter Tryz.func164, Tryz.ntmps164
  go_wp2
  go_loopw [] (fun w' => ∃ pos : Nat, w' = w.iter s pos ∧ Hid (allFrom s 48 57 48 57 pos = allFrom s 48 57 48 57 0)) (fun w' => s.size - w'.iterPos w.heap.size)
  case atStart => exact ⟨0, rfl, Lib.hid rfl⟩
  case round =>
    obtain ⟨pos, rfl, HA⟩ := hrel
    by_cases hp : pos < s.size
    · by_cases ha : (s[pos]'hp).toNat < 128
      · have hnx : ∀ ty, (Instr.next (.pointer (some ⟨w.heap.size, 0, none⟩)) true ty).run Tryz.prog (w.iter s pos) = _ := fun ty => run_next_ascii w s pos ty hp ha
        by_cases hd : 48 ≤ (s[pos]'hp).toNat ∧ (s[pos]'hp).toNat ≤ 57
        · go_wp2_with (go_at_call 203; refine (isDigit_any _ true _ (bet_yes (by omega) (by omega))).mono ?_; rintro e w' ⟨rfl, rfl⟩)
          go_roundw
          case rel => exact ⟨pos + 1, rfl, Lib.hid ((allFrom_yes s 48 57 48 57 pos hp (by omega)).trans HA.out)⟩
          case measure => simp; omega
        · go_wp2_with (go_at_call 203; refine (isDigit_any _ false _ (bet_no (by omega))).mono ?_; rintro e w' ⟨rfl, rfl⟩)
          go_ret
          exact ⟨ret_bool (no_digits s (by rw [← HA.out]; exact allFrom_no s 48 57 48 57 pos hp (by omega))), (Below.refl _ _).alloc (Nat.le_refl _) _⟩
      · have hnx : ∀ ty, (Instr.next (.pointer (some ⟨w.heap.size, 0, none⟩)) true ty).run Tryz.prog (w.iter s pos) = _ := fun ty => run_next_any w s pos ty hp
        have hhi := (decode_high s pos hp (by omega)).1
        go_wp2_with (go_at_call 203; refine (isDigit_any _ false _ (bet_no (by omega))).mono ?_; rintro e w' ⟨rfl, rfl⟩)
        go_ret
        exact ⟨ret_bool (no_digits s (by rw [← HA.out]; exact allFrom_no s 48 57 48 57 pos hp (by omega))), (Below.refl _ _).alloc (Nat.le_refl _) _⟩
    · have hnx : ∀ ty, (Instr.next (.pointer (some ⟨w.heap.size, 0, none⟩)) true ty).run Tryz.prog (w.iter s pos) = _ := fun ty => run_next_end w s pos ty hp
      go_wp2
      go_ret
      exact ⟨ret_bool (fin_digits s (by rw [← HA.out]; exact allFrom_end s 48 57 48 57 pos hp)), (Below.refl _ _).alloc (Nat.le_refl _) _⟩


theorem head_get (s : ByteArray) (h : 0 < s.size) : s.data.toList.headD 0 = s[0] := by
  obtain ⟨⟨l⟩⟩ := s
  cases l with
  | nil => simp [ByteArray.size] at h
  | cons a r => rfl
end Go.Proofs.YtofehcpapdlcnaaGreatDoor

namespace Go.Proofs.YtofehcpapdlcnaaGreatDoor
open Go.RowKit

/-- the number that digits spell -/
def valL : List UInt8 → Int := List.foldl (fun a c => a * 10 + ((c.toNat : Int) - 48)) 0
theorem valL_snoc (l : List UInt8) (c : UInt8) : valL (l ++ [c]) = valL l * 10 + ((c.toNat : Int) - 48) := by
  unfold valL
  rw [List.foldl_append]
  rfl
/-- all are digits -/
def DigL (l : List UInt8) : Prop := ∀ c ∈ l, 48 ≤ c.toNat ∧ c.toNat ≤ 57
theorem fold_ge (l : List UInt8) : ∀ a : Int, DigL l → 0 ≤ a → a ≤ List.foldl (fun a c => a * 10 + ((c.toNat : Int) - 48)) a l := by
  induction l with
  | nil => intro a _ _; exact Int.le_refl _
  | cons c l ih =>
    intro a h h0
    have hc := h c (by simp)
    have h1 := ih (a * 10 + ((c.toNat : Int) - 48)) (fun x hx => h x (by simp [hx])) (by omega)
    rw [List.foldl_cons]
    omega
theorem valL_nonneg (l : List UInt8) (h : DigL l) : 0 ≤ valL l := fold_ge l 0 h (Int.le_refl _)
theorem allFrom_dig (s : ByteArray) : allFrom s 48 57 48 57 0 = true ↔ DigL s.data.toList := by
  unfold allFrom DigL
  rw [List.drop_zero, List.all_eq_true]
  constructor
  · intro h c hc
    have := h c hc
    simp [inTwo] at this
    omega
  · intro h c hc
    have := h c hc
    simp [inTwo]
    omega
theorem digitsB_iff (s : ByteArray) : digitsB s = true ↔ DigL s.data.toList ∧ s.data.toList ≠ [] := by
  unfold digitsB
  rw [Bool.and_eq_true, allFrom_dig, decide_eq_true_eq]
  constructor
  · intro ⟨h1, h2⟩
    exact ⟨h1, fun e => by have : s.data.toList.length = s.size := rfl; rw [e] at this; simp at this; omega⟩
  · intro ⟨h1, h2⟩
    refine ⟨h1, ?_⟩
    have : s.data.toList.length = s.size := rfl
    have := List.length_pos_iff.2 h2
    omega

theorem take_val (s : ByteArray) (k : Nat) (h : k < s.size) : valL (s.data.toList.take (k + 1)) = valL (s.data.toList.take k) * 10 + ((s[k].toNat : Int) - 48) := by
  rw [List.take_succ_eq_append_getElem (by simpa using h), valL_snoc]
  rfl
theorem dig_at (s : ByteArray) (k : Nat) (h : k < s.size) (hd : DigL s.data.toList) : 48 ≤ s[k].toNat ∧ s[k].toNat ≤ 57 := hd _ (by simp [ByteArray.getElem_eq_getElem_data])
end Go.Proofs.YtofehcpapdlcnaaGreatDoor

namespace Go.Proofs.YtofehcpapdlcnaaGreatDoor
open Go.RowKit

theorem fold_lt (l : List UInt8) : ∀ a : Int, DigL l → 0 ≤ a → List.foldl (fun a c => a * 10 + ((c.toNat : Int) - 48)) a l + 1 ≤ (a + 1) * 10 ^ l.length := by
  induction l with
  | nil => intro a _ _; simp
  | cons c l ih =>
    intro a h h0
    have hc := h c (by simp)
    have h1 := ih (a * 10 + ((c.toNat : Int) - 48)) (fun x hx => h x (by simp [hx])) (by omega)
    have hp : (0 : Int) ≤ 10 ^ l.length := Int.le_of_lt (Int.pow_pos (by omega))
    have h2 : (a * 10 + ((c.toNat : Int) - 48) + 1) * 10 ^ l.length ≤ ((a + 1) * 10) * 10 ^ l.length := Int.mul_le_mul_of_nonneg_right (by omega) hp
    rw [List.foldl_cons, List.length_cons, Int.pow_succ, Int.mul_comm (10 ^ l.length) 10, ← Int.mul_assoc]
    omega
theorem valL_nine (l : List UInt8) (h : DigL l) (hl : l.length ≤ 9) : valL l ≤ 999999999 := by
  have h1 := fold_lt l 0 h (by omega)
  have h2 : (10 : Int) ^ l.length ≤ 10 ^ 9 := by
    have : (10 : Nat) ^ l.length ≤ 10 ^ 9 := Nat.pow_le_pow_right (by omega) hl
    exact_mod_cast this
  unfold valL
  omega
theorem fold_app (l : List UInt8) : ∀ a : Int, List.foldl (fun a c => a * 10 + ((c.toNat : Int) - 48)) a l = a * 10 ^ l.length + valL l := by
  induction l with
  | nil => intro a; simp [valL]
  | cons c l ih =>
    intro a
    have e : valL (c :: l) = ((c.toNat : Int) - 48) * 10 ^ l.length + valL l := by
      show List.foldl _ (0 * 10 + ((c.toNat : Int) - 48)) l = _
      rw [ih, Int.zero_mul, Int.zero_add]
    rw [List.foldl_cons, ih, e, Int.add_mul, List.length_cons, Int.pow_succ, Int.mul_comm (10 ^ l.length) 10, Int.mul_assoc]
    omega
theorem valL_app (x g : List UInt8) : valL (x ++ g) = valL x * 10 ^ g.length + valL g := by
  show List.foldl _ 0 (x ++ g) = _
  rw [List.foldl_append, fold_app]
  rfl
/-- nine digits at once, from the end -/
def groups (l : List UInt8) (e : Nat) : List Int := if h : e = 0 then [] else valL ((l.take e).drop (e - 9)) :: groups l (e - 9)
termination_by e
decreasing_by omega
theorem groups_zero (l : List UInt8) : groups l 0 = [] := by rw [groups, dif_pos rfl]
theorem groups_pos (l : List UInt8) (e : Nat) (h : e ≠ 0) : groups l e = valL ((l.take e).drop (e - 9)) :: groups l (e - 9) := by rw [groups, dif_neg h]
theorem dig_part (l : List UInt8) (h : DigL l) (a b : Nat) : DigL ((l.take a).drop b) := fun c hc => h c (List.mem_of_mem_take (List.mem_of_mem_drop hc))
theorem groups_val (l : List UInt8) (h : DigL l) (e : Nat) : e ≤ l.length → nval (groups l e) = valL (l.take e) ∧ DigN (groups l e) ∧ (groups l e).length ≤ e := by
  induction e using Nat.strongRecOn with
  | _ e ih =>
    intro he
    by_cases h0 : e = 0
    · subst h0
      rw [groups_zero]
      exact ⟨by simp [nval, valL], (fun x hx => by cases hx), Nat.le_refl _⟩
    · rw [groups_pos l e h0]
      obtain ⟨i1, i2, i3⟩ := ih (e - 9) (by omega) (by omega)
      have hlen : ((l.take e).drop (e - 9)).length = e - (e - 9) := by rw [List.length_drop, List.length_take]; omega
      have hd := dig_part l h e (e - 9)
      have hv := valL_nine _ hd (by omega)
      have hn := valL_nonneg _ hd
      refine ⟨?_, DigN.cons hn hv i2, by simp; omega⟩
      show valL _ + 1000000000 * nval (groups l (e - 9)) = _
      rw [i1]
      have hsplit : l.take e = l.take (e - 9) ++ (l.take e).drop (e - 9) := by
        have h1 := (List.take_append_drop (e - 9) (l.take e)).symm
        rwa [List.take_take, show min (e - 9) e = e - 9 from by omega] at h1
      by_cases h9 : 9 ≤ e
      · conv => rhs; rw [hsplit, valL_app, hlen, show e - (e - 9) = 9 from by omega]
        omega
      · rw [show e - 9 = 0 from by omega]
        simp [valL]
theorem part_step (s : ByteArray) (i from_ : Nat) (h : i < s.size) (hf : from_ ≤ i) : valL ((s.data.toList.take (i + 1)).drop from_) = valL ((s.data.toList.take i).drop from_) * 10 + (s[i].toNat : Int) - 48 := by
  rw [List.take_succ_eq_append_getElem (by simpa using h), List.drop_append_of_le_length (by rw [List.length_take]; simp; omega), valL_snoc]
  show _ * 10 + ((s[i].toNat : Int) - 48) = _
  omega

/-- is s the decimal notation of a nat -/
def decOk (s : ByteArray) : Bool := digitsB s && decide (s.size ≤ 450) && !(decide (1 < s.size) && decide (s.data.toList.headD 0 = 48))
def TNPost (s : ByteArray) (w : World) (e : Ending) (w' : World) : Prop :=
  Below w.heap.size w w' ∧ ((decOk s = true ∧ ∃ v, e = .returned (.tuple #[v, .bool true]) ∧ w'.ownsRow w.heap.size 3 1 v (limbs (valL s.data.toList).toNat).length (intsV (limbs (valL s.data.toList).toNat))) ∨
    (decOk s = false ∧ e = .returned (.tuple #[.slice none 0 0, .bool false])))

/-- what the outer loop of TextNat knows at its head -/
def TextRel (s : ByteArray) (w : World) (v e : Value) (wr : World) : Prop :=
  ∃ (en : Int) (out : List Int), -9 ≤ en ∧ en ≤ s.size ∧ e = .int .i64 en ∧ out ++ groups s.data.toList en.toNat = groups s.data.toList s.size ∧
    wr.ownsRow w.heap.size 3 1 v out.length (intsV out) ∧ Below w.heap.size w wr
theorem text_step {s : ByteArray} {w w1 : World} {v1 : Value} {out : List Int} {m : Int} {k : Nat} (hk : k ≤ s.size) (h0 : 0 < k) (e : out ++ [m] ++ groups s.data.toList (k - 9) = groups s.data.toList s.size)
    (ho : w1.ownsRow w.heap.size 3 1 v1 (out.length + 1) (intsV out ++ [.int .i64 m])) (hb : Below w.heap.size w w1) : TextRel s w v1 (.int .i64 ((k : Int) - 9)) w1 := by
  refine ⟨(k : Int) - 9, out ++ [m], by omega, by omega, rfl, ?_, by simpa [intsV] using ho, hb⟩
  rw [show ((k : Int) - 9).toNat = k - 9 from by omega]
  exact e
theorem take_full (t : ByteArray) : t.data.toList.take t.size = t.data.toList := List.take_of_length_le (Nat.le_refl _)

set_option maxHeartbeats 4000000 in
set_option maxRecDepth 100000 in
theorem specTextNat_goodMany (s : ByteArray) (w : World) (h0 : 0 < s.size) (h450 : s.size ≤ 450) (hd : digitsB s = true) (h1 : 1 < s.size) (hlead : ¬ s[0].toNat = 48) (hok : decOk s = true) :
    Calls Tryz.prog 114 #[.string s] w (TNPost s w) := by
    obtain ⟨i0, hi, hz0, hz1, hz2⟩ := info_parts intInfo
    have HD := Lib.hid ((digitsB_iff s).1 hd).1
    have HOK := Lib.hid hok
    clear hok
    have HM := Lib.hid (fun W : World => specIsDigits_any s W (by unfold maxLen; omega))
    have hb48 : ((s[0].toNat : Int) == 48) = false := by rw [beq_eq_false_iff_ne]; omega
    clear hlead
    go_enter Tryz.func114, Tryz.ntmps114
    go_wp2_with fail
    refine (HM.out _).mono ?_
    rintro e w' ⟨rfl, rfl⟩
    rw [hd]
    go_wp2
    go_loopw [4, 5] (fun v e wr => TextRel s w v e wr) (fun _ e _ => (intOf e).toNat)
    case atStart => exact ⟨s.size, [], by omega, Int.le_refl _, rfl, rfl, ⟨rfl, .inr ⟨w.heap.size, 0, #[], rfl, Nat.le_refl _, heap_alloc_new w _, Nat.le_refl _, Nat.zero_le _, rfl, rfl⟩⟩, (Below.refl _ _).alloc (Nat.le_refl _) _⟩
    case round =>
      obtain ⟨e, out, he0, he1, rfl, hev, hown, hb1⟩ := hrel
      obtain ⟨wo, rfl⟩ : ∃ wo : World, wo = wr := ⟨_, rfl⟩
      have HE := Lib.hid hev
      have hol : out.length ≤ 450 := by
        have e1 := congrArg List.length hev
        have e2 := (groups_val s.data.toList HD.out s.size (Nat.le_refl _)).2.2
        rw [List.length_append] at e1
        omega
      clear hev
      by_cases hpos : 0 < e
      · obtain ⟨en, rfl⟩ := Int.eq_ofNat_of_zero_le (show 0 ≤ e by omega)
        have HG : Hid (out ++ valL ((s.data.toList.take en).drop (en - 9)) :: groups s.data.toList (en - 9) = groups s.data.toList s.size) := Lib.hid (by have e1 := HE.out; rw [Int.toNat_natCast, groups_pos _ en (by omega)] at e1; exact e1)
        by_cases h9 : (en : Int) - 9 < 0
        · have hfrom : en - 9 = 0 := by omega
          have hen : en ≤ s.size := by omega
          go_wp2
          go_loop [7, 8] (fun n i => ∃ (k : Nat) (m : Int), 0 ≤ k ∧ k ≤ en ∧ i = .int .i64 k ∧ n = .int .i64 m ∧ 0 ≤ m ∧ m ≤ 999999999 ∧ Hid (m = valL ((s.data.toList.take k).drop 0))) (fun _ i => en - (intOf i).toNat)
          case atStart => exact ⟨0, 0, Nat.le_refl _, by omega, rfl, rfl, by omega, by omega, Lib.hid (by rw [List.drop_of_length_le (by rw [List.length_take]; omega)]; rfl)⟩
          case round =>
            obtain ⟨k, m, hk0, hk1, rfl, rfl, hm0, hm1, HM⟩ := hrel
            by_cases hlt : k < en
            · have hks : k < s.size := by omega
              have hdg := dig_at s k hks HD.out
              have HP := Lib.hid (part_step s k 0 hks hk0)
              have hmb : m * 10 + (s[k].toNat : Int) - 48 ≤ 999999999 ∧ 0 ≤ m * 10 + (s[k].toNat : Int) - 48 := by
                have h1 := valL_nine ((s.data.toList.take (k + 1)).drop 0) (dig_part _ HD.out _ _) (by rw [List.length_drop, List.length_take]; omega)
                have h2 := HP.out
                have h3 := HM.out
                omega
              go_wp2
              go_round
              case rel => exact ⟨k + 1, m * 10 + (s[k].toNat : Int) - 48, by omega, by omega, by go_num, rfl, hmb.2, hmb.1, Lib.hid (by rw [HP.out, HM.out])⟩
              case measure => simp [intOf]; omega
            · obtain rfl : k = en := by omega
              have HG2 : Hid (out ++ [m] ++ groups s.data.toList (k - 9) = groups s.data.toList s.size) := Lib.hid (by rw [List.append_assoc, HM.out, ← HG.out, hfrom]; rfl)
              go_wp2_with (at_builtin; refine wpList_append_own _ rfl (.tmp 52) (.tmp 54) 22 rfl w.heap.size 3 i0 (.int .i64 0) 1 8 Tryz.underlying22 hi hz0 hz1 hz2 rfl (by decide) _ _ _ rfl (own_alloc hown _) ⟨wo.heap.size, 0, none⟩ 1 1 [.int .i64 m] rfl rfl (one_new _ _ _) ?c2 ?c3 ?c4 ?c5 ?_)
              case c2 => first | (intro u hu; simp at hu; subst hu; rfl) | rfl
              case c3 => unfold maxLen; omega
              case c4 => omega
              case c5 => have := hb1.size; simp; omega
              intro v1 w1 hown1 hg1 _
              have hb2 := below_push hb1 (Nat.le_refl _) hown hg1
              go_wp2
              exact ⟨text_step (by omega) (by omega) HG2.out hown1 hb2, by simp [intOf]; omega⟩
        · obtain ⟨fr, Hfr⟩ : ∃ fr : Nat, Hid (fr = en - 9) := ⟨_, Lib.hid rfl⟩
          have hfr9 : (en : Int) - 9 = (fr : Int) := by have := Hfr.out; omega
          have hfre : fr + 9 = en := by have := Hfr.out; omega
          have hen : en ≤ s.size := by omega
          go_wp2
          go_loop [7, 8] (fun n i => ∃ (k : Nat) (m : Int), fr ≤ k ∧ k ≤ en ∧ i = .int .i64 k ∧ n = .int .i64 m ∧ 0 ≤ m ∧ m ≤ 999999999 ∧ Hid (m = valL ((s.data.toList.take k).drop fr))) (fun _ i => en - (intOf i).toNat)
          case atStart => exact ⟨fr, 0, Nat.le_refl _, by omega, rfl, rfl, by omega, by omega, Lib.hid (by rw [List.drop_of_length_le (by rw [List.length_take]; omega)]; rfl)⟩
          case round =>
            obtain ⟨k, m, hk0, hk1, rfl, rfl, hm0, hm1, HM⟩ := hrel
            by_cases hlt : k < en
            · have hks : k < s.size := by omega
              have hdg := dig_at s k hks HD.out
              have HP := Lib.hid (part_step s k fr hks hk0)
              have hmb : m * 10 + (s[k].toNat : Int) - 48 ≤ 999999999 ∧ 0 ≤ m * 10 + (s[k].toNat : Int) - 48 := by
                have h1 := valL_nine ((s.data.toList.take (k + 1)).drop fr) (dig_part _ HD.out _ _) (by rw [List.length_drop, List.length_take]; omega)
                have h2 := HP.out
                have h3 := HM.out
                omega
              go_wp2
              go_round
              case rel => exact ⟨k + 1, m * 10 + (s[k].toNat : Int) - 48, by omega, by omega, by go_num, rfl, hmb.2, hmb.1, Lib.hid (by rw [HP.out, HM.out])⟩
              case measure => simp [intOf]; omega
            · obtain rfl : k = en := by omega
              have HG2 : Hid (out ++ [m] ++ groups s.data.toList (k - 9) = groups s.data.toList s.size) := Lib.hid (by rw [List.append_assoc, HM.out, ← HG.out, Hfr.out]; rfl)
              go_wp2_with (at_builtin; refine wpList_append_own _ rfl (.tmp 52) (.tmp 54) 22 rfl w.heap.size 3 i0 (.int .i64 0) 1 8 Tryz.underlying22 hi hz0 hz1 hz2 rfl (by decide) _ _ _ rfl (own_alloc hown _) ⟨wo.heap.size, 0, none⟩ 1 1 [.int .i64 m] rfl rfl (one_new _ _ _) ?c2 ?c3 ?c4 ?c5 ?_)
              case c2 => first | (intro u hu; simp at hu; subst hu; rfl) | rfl
              case c3 => unfold maxLen; omega
              case c4 => omega
              case c5 => have := hb1.size; simp; omega
              intro v1 w1 hown1 hg1 _
              have hb2 := below_push hb1 (Nat.le_refl _) hown hg1
              go_wp2
              exact ⟨(by have h := text_step (by omega) (by omega) HG2.out hown1 hb2; rwa [hfr9] at h), by simp [intOf]; omega⟩
      · have HF : Hid (out = groups s.data.toList s.size) := Lib.hid (by have e1 := HE.out; rwa [show e.toNat = 0 from by omega, groups_zero, List.append_nil] at e1)
        have hv := groups_val s.data.toList HD.out s.size (Nat.le_refl _)
        rw [take_full] at hv
        have HT : Hid (trimL out = limbs (valL s.data.toList).toNat) := Lib.hid (by rw [HF.out, trim_limbs _ hv.2.1, hv.1])
        clear hv
        go_wp2_with fail
        refine (specTrim_any _ out _ _ (by omega) hown).mono ?_
        rintro e w' ⟨rfl, v2, rfl, o2⟩
        rw [HT.out] at o2
        go_wp2
        go_ret2
        exact ⟨hb1, .inl ⟨HOK.out, v2, rfl, o2⟩⟩
set_option maxHeartbeats 4000000 in
set_option maxRecDepth 100000 in
theorem specTextNat_goodOne (s : ByteArray) (w : World) (h0 : 0 < s.size) (h450 : s.size ≤ 450) (hd : digitsB s = true) (h1 : ¬ 1 < s.size) (hok : decOk s = true) :
    Calls Tryz.prog 114 #[.string s] w (TNPost s w) := by
    obtain ⟨i0, hi, hz0, hz1, hz2⟩ := info_parts intInfo
    have HD := Lib.hid ((digitsB_iff s).1 hd).1
    have HOK := Lib.hid hok
    clear hok
    have HM := Lib.hid (fun W : World => specIsDigits_any s W (by unfold maxLen; omega))
    go_enter Tryz.func114, Tryz.ntmps114
    go_wp2_with fail
    refine (HM.out _).mono ?_
    rintro e w' ⟨rfl, rfl⟩
    rw [hd]
    go_wp2
    go_loopw [4, 5] (fun v e wr => TextRel s w v e wr) (fun _ e _ => (intOf e).toNat)
    case atStart => exact ⟨s.size, [], by omega, Int.le_refl _, rfl, rfl, ⟨rfl, .inr ⟨w.heap.size, 0, #[], rfl, Nat.le_refl _, heap_alloc_new w _, Nat.le_refl _, Nat.zero_le _, rfl, rfl⟩⟩, (Below.refl _ _).alloc (Nat.le_refl _) _⟩
    case round =>
      obtain ⟨e, out, he0, he1, rfl, hev, hown, hb1⟩ := hrel
      obtain ⟨wo, rfl⟩ : ∃ wo : World, wo = wr := ⟨_, rfl⟩
      have HE := Lib.hid hev
      have hol : out.length ≤ 450 := by
        have e1 := congrArg List.length hev
        have e2 := (groups_val s.data.toList HD.out s.size (Nat.le_refl _)).2.2
        rw [List.length_append] at e1
        omega
      clear hev
      by_cases hpos : 0 < e
      · obtain ⟨en, rfl⟩ := Int.eq_ofNat_of_zero_le (show 0 ≤ e by omega)
        have HG : Hid (out ++ valL ((s.data.toList.take en).drop (en - 9)) :: groups s.data.toList (en - 9) = groups s.data.toList s.size) := Lib.hid (by have e1 := HE.out; rw [Int.toNat_natCast, groups_pos _ en (by omega)] at e1; exact e1)
        by_cases h9 : (en : Int) - 9 < 0
        · have hfrom : en - 9 = 0 := by omega
          have hen : en ≤ s.size := by omega
          go_wp2
          go_loop [7, 8] (fun n i => ∃ (k : Nat) (m : Int), 0 ≤ k ∧ k ≤ en ∧ i = .int .i64 k ∧ n = .int .i64 m ∧ 0 ≤ m ∧ m ≤ 999999999 ∧ Hid (m = valL ((s.data.toList.take k).drop 0))) (fun _ i => en - (intOf i).toNat)
          case atStart => exact ⟨0, 0, Nat.le_refl _, by omega, rfl, rfl, by omega, by omega, Lib.hid (by rw [List.drop_of_length_le (by rw [List.length_take]; omega)]; rfl)⟩
          case round =>
            obtain ⟨k, m, hk0, hk1, rfl, rfl, hm0, hm1, HM⟩ := hrel
            by_cases hlt : k < en
            · have hks : k < s.size := by omega
              have hdg := dig_at s k hks HD.out
              have HP := Lib.hid (part_step s k 0 hks hk0)
              have hmb : m * 10 + (s[k].toNat : Int) - 48 ≤ 999999999 ∧ 0 ≤ m * 10 + (s[k].toNat : Int) - 48 := by
                have h1 := valL_nine ((s.data.toList.take (k + 1)).drop 0) (dig_part _ HD.out _ _) (by rw [List.length_drop, List.length_take]; omega)
                have h2 := HP.out
                have h3 := HM.out
                omega
              go_wp2
              go_round
              case rel => exact ⟨k + 1, m * 10 + (s[k].toNat : Int) - 48, by omega, by omega, by go_num, rfl, hmb.2, hmb.1, Lib.hid (by rw [HP.out, HM.out])⟩
              case measure => simp [intOf]; omega
            · obtain rfl : k = en := by omega
              have HG2 : Hid (out ++ [m] ++ groups s.data.toList (k - 9) = groups s.data.toList s.size) := Lib.hid (by rw [List.append_assoc, HM.out, ← HG.out, hfrom]; rfl)
              go_wp2_with (at_builtin; refine wpList_append_own _ rfl (.tmp 52) (.tmp 54) 22 rfl w.heap.size 3 i0 (.int .i64 0) 1 8 Tryz.underlying22 hi hz0 hz1 hz2 rfl (by decide) _ _ _ rfl (own_alloc hown _) ⟨wo.heap.size, 0, none⟩ 1 1 [.int .i64 m] rfl rfl (one_new _ _ _) ?c2 ?c3 ?c4 ?c5 ?_)
              case c2 => first | (intro u hu; simp at hu; subst hu; rfl) | rfl
              case c3 => unfold maxLen; omega
              case c4 => omega
              case c5 => have := hb1.size; simp; omega
              intro v1 w1 hown1 hg1 _
              have hb2 := below_push hb1 (Nat.le_refl _) hown hg1
              go_wp2
              exact ⟨text_step (by omega) (by omega) HG2.out hown1 hb2, by simp [intOf]; omega⟩
        · exfalso; omega
      · have HF : Hid (out = groups s.data.toList s.size) := Lib.hid (by have e1 := HE.out; rwa [show e.toNat = 0 from by omega, groups_zero, List.append_nil] at e1)
        have hv := groups_val s.data.toList HD.out s.size (Nat.le_refl _)
        rw [take_full] at hv
        have HT : Hid (trimL out = limbs (valL s.data.toList).toNat) := Lib.hid (by rw [HF.out, trim_limbs _ hv.2.1, hv.1])
        clear hv
        go_wp2_with fail
        refine (specTrim_any _ out _ _ (by omega) hown).mono ?_
        rintro e w' ⟨rfl, v2, rfl, o2⟩
        rw [HT.out] at o2
        go_wp2
        go_ret2
        exact ⟨hb1, .inl ⟨HOK.out, v2, rfl, o2⟩⟩

theorem decOk_long (s : ByteArray) (h : ¬ s.size ≤ 450) : decOk s = false := by unfold decOk; rw [decide_eq_false h, Bool.and_false, Bool.false_and]
theorem decOk_dig (s : ByteArray) (h : digitsB s = false) : decOk s = false := by unfold decOk; rw [h, Bool.false_and, Bool.false_and]
theorem decOk_lead (s : ByteArray) (h1 : 1 < s.size) (h : s[0].toNat = 48) : decOk s = false := by
  have e : s.data.toList.headD 0 = 48 := by rw [head_get s (by omega)]; exact UInt8.toNat_inj.1 h
  unfold decOk
  rw [decide_eq_true h1, decide_eq_true e]
  simp
theorem decOk_yes (s : ByteArray) (hd : digitsB s = true) (h4 : s.size ≤ 450) (hl : ∀ h0 : 0 < s.size, ¬ (1 < s.size ∧ s[0].toNat = 48)) (h0 : 0 < s.size) : decOk s = true := by
  unfold decOk
  rw [hd, decide_eq_true h4]
  by_cases h1 : 1 < s.size
  · have e : ¬ s.data.toList.headD 0 = 48 := by
      rw [head_get s h0]
      intro e
      exact hl h0 ⟨h1, by rw [e]; rfl⟩
    rw [decide_eq_false e, Bool.and_false]
    rfl
  · rw [decide_eq_false h1]
    rfl

set_option maxHeartbeats 400000 in
set_option maxRecDepth 100000 in
theorem specTextNat_bad (s : ByteArray) (w : World) (hs : s.size ≤ 1048576) (hbad : decOk s = false) (hc : digitsB s = false ∨ (digitsB s = true ∧ 450 < s.size) ∨ (digitsB s = true ∧ s.size ≤ 450 ∧ ∃ h1 : 1 < s.size, s[0].toNat = 48)) :
    Calls Tryz.prog 114 #[.string s] w (TNPost s w) := by
  have HB := Lib.hid hbad
  have HM := Lib.hid (fun W : World => specIsDigits_any s W (by unfold maxLen; omega))
  clear hbad
  rcases hc with hd | ⟨hd, hl⟩ | ⟨hd, hl, h1, h48⟩
  · go_enter Tryz.func114, Tryz.ntmps114
    go_wp2_with fail
    refine (HM.out _).mono ?_
    rintro e w' ⟨rfl, rfl⟩
    rw [hd]
    go_wp2
    go_ret2
    exact ⟨Below.refl _ _, .inr ⟨HB.out, rfl⟩⟩
  · go_enter Tryz.func114, Tryz.ntmps114
    go_wp2_with fail
    refine (HM.out _).mono ?_
    rintro e w' ⟨rfl, rfl⟩
    rw [hd]
    go_wp2
    go_ret2
    exact ⟨Below.refl _ _, .inr ⟨HB.out, rfl⟩⟩
  · have hb48 : ((s[0].toNat : Int) == 48) = true := by rw [beq_iff_eq]; omega
    clear h48
    go_enter Tryz.func114, Tryz.ntmps114
    go_wp2_with fail
    refine (HM.out _).mono ?_
    rintro e w' ⟨rfl, rfl⟩
    rw [hd]
    go_wp2
    go_ret2
    exact ⟨Below.refl _ _, .inr ⟨HB.out, rfl⟩⟩

theorem specTextNat_any (s : ByteArray) (w : World) (hs : s.size ≤ 1048576) : Calls Tryz.prog 114 #[.string s] w (TNPost s w) := by
  by_cases hd : digitsB s = true
  · have h0 : 0 < s.size := by
      have h := ((digitsB_iff s).1 hd).2
      exact List.length_pos_iff.2 h
    by_cases h4 : s.size ≤ 450
    · by_cases h1 : 1 < s.size
      · by_cases h48 : s[0].toNat = 48
        · exact specTextNat_bad s w hs (decOk_lead s h1 h48) (.inr (.inr ⟨hd, h4, h1, h48⟩))
        · exact specTextNat_goodMany s w h0 h4 hd h1 h48 (decOk_yes s hd h4 (fun _ h => h48 h.2) h0)
      · exact specTextNat_goodOne s w h0 h4 hd h1 (decOk_yes s hd h4 (fun _ h => h1 h.1) h0)
    · exact specTextNat_bad s w hs (decOk_long s h4) (.inr (.inl ⟨hd, by omega⟩))
  · have hd' : digitsB s = false := by simpa using hd
    exact specTextNat_bad s w hs (decOk_dig s hd') (.inl hd')

theorem trimL_le (xs : List Int) : (trimL xs).length ≤ xs.length := by
  induction xs with
  | nil => simp [trimL]
  | cons d r ih => unfold trimL; split <;> simp <;> omega
/-- what TextNat answers -/
def tnR (s : ByteArray) : List Int := if decOk s = true then limbs (valL s.data.toList).toNat else []
theorem tnR_len (s : ByteArray) : (tnR s).length ≤ 450 := by
  unfold tnR
  split
  · rename_i h
    have hd : digitsB s = true := by
      by_cases hd : digitsB s = true
      · exact hd
      · rw [decOk_dig s (by simpa using hd)] at h; exact absurd h (by decide)
    have h4 : s.size ≤ 450 := by
      by_cases h4 : s.size ≤ 450
      · exact h4
      · rw [decOk_long s h4] at h; exact absurd h (by decide)
    have hv := groups_val s.data.toList ((digitsB_iff s).1 hd).1 s.size (Nat.le_refl _)
    rw [take_full] at hv
    rw [← hv.1, ← trim_limbs _ hv.2.1]
    exact Nat.le_trans (trimL_le _) (Nat.le_trans hv.2.2 h4)
  · simp
/-- how TextNat ends: a new row, and whether the text is a number -/
def TNNew (s : ByteArray) (w : World) (e : Ending) (w' : World) : Prop :=
  ∃ v, e = .returned (.tuple #[v, .bool (decOk s)]) ∧ w'.ownsRow w.heap.size 3 1 v (tnR s).length (intsV (tnR s)) ∧ Below w.heap.size w w'
theorem TNPost.new {s : ByteArray} {w w' : World} {e : Ending} (h : TNPost s w e w') : TNNew s w e w' := by
  obtain ⟨hb, ⟨ho, v, rfl, hv⟩ | ⟨ho, rfl⟩⟩ := h
  · refine ⟨v, by rw [ho], ?_, hb⟩
    rw [show tnR s = limbs (valL s.data.toList).toNat by unfold tnR; rw [if_pos ho]]
    exact hv
  · refine ⟨_, by rw [ho], ?_, hb⟩
    rw [show tnR s = [] by unfold tnR; rw [ho]; rfl]
    exact nil_own
end Go.Proofs.YtofehcpapdlcnaaGreatDoor

namespace Go.Proofs.YtofehcpapdlcnaaGreatDoor
open Go.RowKit

theorem valL_dec (u : Nat) : valL (Lib.decDigits u) = u := by
  induction u using Nat.strongRecOn with
  | _ u ih =>
    by_cases h : u < 10
    · rw [dec_small u h]
      show (0 : Int) * 10 + (((UInt8.ofNat (48 + u)).toNat : Int) - 48) = u
      rw [UInt8.toNat_ofNat']
      omega
    · rw [dec_big u h, valL_snoc, ih (u / 10) (by omega), UInt8.toNat_ofNat']
      omega
theorem dig_dec (u : Nat) : DigL (Lib.decDigits u) ∧ Lib.decDigits u ≠ [] := by
  induction u using Nat.strongRecOn with
  | _ u ih =>
    by_cases h : u < 10
    · rw [dec_small u h]
      refine ⟨fun c hc => ?_, by simp⟩
      rw [List.mem_singleton.1 hc, UInt8.toNat_ofNat']
      omega
    · rw [dec_big u h]
      refine ⟨fun c hc => ?_, by simp⟩
      rcases List.mem_append.1 hc with hc | hc
      · exact (ih (u / 10) (by omega)).1 c hc
      · rw [List.mem_singleton.1 hc, UInt8.toNat_ofNat']
        omega
/-- without a leading '-' -/
def bareL (l : List UInt8) : List UInt8 := if l.headD 0 = 45 then l.tail else l
theorem wrap_step (a c : Int) : wrap64 (wrap64 (wrap64 a * 10) + c) = wrap64 (a * 10 + c) := by unfold wrap64; omega

set_option maxHeartbeats 400000 in
set_option maxRecDepth 100000 in
theorem digitsValue_any (s : ByteArray) (w : World) (hd : DigL s.data.toList) :
    Calls Tryz.prog 165 #[.string s] w fun e w' => e = .returned (.int .i64 (wrap64 (valL s.data.toList))) ∧ Below w.heap.size w w' := by
  have HD := Lib.hid hd
  clear hd
  go_enter Tryz.func165, Tryz.ntmps165
  go_wp2
  go_loopw [3] (fun a w' => ∃ (pos : Nat) (v : Int), pos ≤ s.size ∧ w' = w.iter s pos ∧ a = .int .i64 (wrap64 v) ∧ Hid (v = valL (s.data.toList.take pos))) (fun _ w' => s.size - w'.iterPos w.heap.size)
  case atStart => exact ⟨0, 0, Nat.zero_le _, rfl, by rw [show wrap64 0 = 0 from by unfold wrap64; omega], Lib.hid rfl⟩
  case round =>
    obtain ⟨pos, v, hpl, rfl, rfl, HV⟩ := hrel
    by_cases hp : pos < s.size
    · have hdg := dig_at s pos hp HD.out
      have hnx : ∀ ty, (Instr.next (.pointer (some ⟨w.heap.size, 0, none⟩)) true ty).run Tryz.prog (w.iter s pos) = _ := fun ty => run_next_ascii w s pos ty hp (by omega)
      have HT := Lib.hid (take_val s pos hp)
      go_wp2
      go_roundw
      case rel => exact ⟨pos + 1, v * 10 + ((s[pos].toNat : Int) - 48), by omega, rfl, by rw [wrap_step], Lib.hid (by rw [HT.out, HV.out])⟩
      case measure => simp; omega
    · have hnx : ∀ ty, (Instr.next (.pointer (some ⟨w.heap.size, 0, none⟩)) true ty).run Tryz.prog (w.iter s pos) = _ := fun ty => run_next_end w s pos ty hp
      go_wp2
      go_ret
      exact ⟨ret_int (by rw [HV.out, List.take_of_length_le (by simp; omega)]), (Below.refl _ _).alloc (Nat.le_refl _) _⟩

theorem prefix_head (l : List UInt8) : Lib.hasPrefix l [45] = decide (l.headD 0 = 45) := by
  unfold Lib.hasPrefix
  cases l with
  | nil => rfl
  | cons c r =>
    show (List.isPrefixOf [45] (c :: r)) = decide (c = 45)
    simp [List.isPrefixOf]
    by_cases h : c = 45
    · subst h; simp
    · rw [decide_eq_false h, beq_eq_false_iff_ne]
      exact fun e => h e.symm
theorem trim_bare (l : List UInt8) : Lib.trimPrefix l [45] = bareL l := by
  unfold Lib.trimPrefix bareL
  rw [prefix_head]
  by_cases h : l.headD 0 = 45
  · rw [if_pos h, if_pos (by simpa using h), List.length_singleton, List.drop_one]
  · rw [if_neg h, if_neg (by simpa using h)]
/-- the digits of a text, and whether it has a '-' ahead -/
def bareB (s : ByteArray) : ByteArray := ⟨(bareL s.data.toList).toArray⟩
def negB (s : ByteArray) : Bool := decide (s.data.toList.headD 0 = 45)
theorem cutPrefix_any (s : ByteArray) (w : World) :
    Calls Tryz.prog 116 #[.string s, .string ⟨#[45]⟩] w fun e w' => e = .returned (.tuple #[.string (bareB s), .bool (negB s)]) ∧ w = w' := by
  refine (Tryz.strings_CutPrefix s ⟨#[45]⟩ w).mono ?_
  rintro e w' ⟨rfl, rfl⟩
  exact ⟨by rw [trim_bare, prefix_head]; rfl, rfl⟩

theorem bytes_ne' {a b : ByteArray} (h : ¬ a = b) : (a.toList == b.toList) = false := by
  rw [beq_eq_false_iff_ne, ByteArray.toList_eq, ByteArray.toList_eq]
  exact fun e => h (WideShapes.bytes_inj e)


theorem bareB_data (s : ByteArray) : (bareB s).data.toList = bareL s.data.toList := rfl
theorem bareB_tail (s : ByteArray) (h : negB s = true) : s.extract 1 s.size = bareB s := by
  apply WideShapes.bytes_inj
  rw [bareB_data, Lib.extract_to_end]
  unfold bareL
  rw [if_pos (by simpa [negB] using h), List.drop_one]
theorem bareB_self (s : ByteArray) (h : negB s = false) : bareB s = s := by
  apply WideShapes.bytes_inj
  rw [bareB_data]
  unfold bareL
  rw [if_neg (by simpa [negB] using h)]
theorem negB_nil (s : ByteArray) (h : ¬ 0 < s.size) : negB s = false := by
  obtain ⟨⟨l⟩⟩ := s
  cases l with
  | nil => rfl
  | cons a r => simp [ByteArray.size] at h
end Go.Proofs.YtofehcpapdlcnaaGreatDoor
