/-
  What NatGcd, NatTen, NatScale, NatCut and NatEven of package spec return.
-/
import Derived.Test.YtofehcpapdlcnaaDivSpec3
namespace Go.Proofs.Ytofehcpapdlcnaa
open Go.RowKit

/-- what NatGcd answers -/
def gcdN (a b : List Int) : List Int := if natOkB a = true ∧ natOkB b = true then limbs (Nat.gcd (nval a).toNat (nval b).toNat) else []
theorem gcd_step (X Y : Nat) : Nat.gcd Y (X % Y) = Nat.gcd X Y := by
  rw [Nat.gcd_comm Y, ← Nat.gcd_rec, Nat.gcd_comm]
theorem limbs_empty {n : Nat} (h : ¬ 0 < (limbs n).length) : n = 0 := by
  rcases Nat.eq_zero_or_pos n with h0 | h0
  · exact h0
  · rw [limbs, dif_neg (by omega)] at h
    simp at h
theorem limbs_some {n : Nat} (h : 0 < (limbs n).length) : 0 < n := by
  rcases Nat.eq_zero_or_pos n with h0 | h0
  · subst h0; rw [limbs, dif_pos rfl] at h; simp at h
  · exact h0
theorem limbs_mod_len (X Y : Nat) (h : (limbs Y).length ≤ 50) (h0 : 0 < Y) : (limbs (X % Y)).length ≤ 50 := by
  have hm := Nat.mod_lt X h0
  have := limbs_mono (m := ((X % Y : Nat) : Int)) (n := (Y : Int)) (by omega) (by omega)
  rw [Int.toNat_natCast, Int.toNat_natCast] at this
  omega
/-- the state of NatGcd's loop -/
def GcdS (w : World) (G : Nat) (n : Nat) (x y : Value) (wr : World) : Prop :=
  ∃ X Y : Nat, n = Y ∧ Nat.gcd X Y = G ∧ (limbs X).length ≤ 50 ∧ (limbs Y).length ≤ 50 ∧ wr.ownsRow w.heap.size 3 1 x (limbs X).length (intsV (limbs X)) ∧ wr.ownsRow w.heap.size 3 1 y (limbs Y).length (intsV (limbs Y)) ∧ Below w.heap.size w wr


/-- powers of ten -/
def tenN (k : Int) : List Int := if 0 ≤ k ∧ k ≤ 449 then limbs (10 ^ k.toNat) else []
theorem bp_ten (m : Nat) : bp m = 10 ^ (9 * m) := by
  induction m with
  | zero => rfl
  | succ m ih =>
    show 1000000000 * bp m = _
    rw [ih, show 9 * (m + 1) = 9 * m + 9 by omega, Int.pow_add, Int.mul_comm]
    rfl
theorem ten_pos (k : Nat) : (0 : Int) < 10 ^ k := Int.pow_pos (by omega)
theorem ten_eight (k : Nat) (h : k ≤ 8) : (10 : Int) ^ k ≤ 100000000 := by
  match k, h with
  | 0, _ => decide
  | 1, _ => decide
  | 2, _ => decide
  | 3, _ => decide
  | 4, _ => decide
  | 5, _ => decide
  | 6, _ => decide
  | 7, _ => decide
  | 8, _ => decide
theorem ten_limbs (k : Nat) : limbs (10 ^ k) = List.replicate (k / 9) 0 ++ [(10 : Int) ^ (k % 9)] := by
  have h8 := ten_eight (k % 9) (by omega)
  have hp := ten_pos (k % 9)
  have hd : DigN (List.replicate (k / 9) 0 ++ [(10 : Int) ^ (k % 9)]) := (dig_zeros _).append (dig_one (by omega) (by omega))
  have hl : (List.replicate (k / 9) 0 ++ [(10 : Int) ^ (k % 9)]).getLastD 1 ≠ 0 := by
    rw [List.getLastD_eq_getLast?, List.getLast?_append]
    simp
    omega
  have hv : nval (List.replicate (k / 9) 0 ++ [(10 : Int) ^ (k % 9)]) = 10 ^ k := by
    rw [nval_append, nval_zeros, List.length_replicate, bp_ten]
    show 0 + 10 ^ (9 * (k / 9)) * (10 ^ (k % 9) + 1000000000 * 0) = _
    rw [Int.mul_zero, Int.add_zero, Int.zero_add, ← Int.pow_add, Nat.div_add_mod]
  rw [← trim_last _ hl, trim_limbs _ hd, hv]
  congr 1

set_option maxHeartbeats 1000000 in
set_option maxRecDepth 100000 in
theorem specNatTen_any (k : Int) (w : World) : Calls Try.prog 44 #[.int .i64 k] w (NewInts (tenN k) w) := by
  obtain ⟨i0, hi0, hz0, hz1, hz2⟩ := info_parts intInfo
  by_cases hin : inB k 0 449 = true
  · have hk : 0 ≤ k ∧ k ≤ 449 := of_decide_eq_true hin
    obtain ⟨n, rfl⟩ := Int.eq_ofNat_of_zero_le hk.1
    have hn : n ≤ 449 := by omega
    have HV : Hid (tenN n = List.replicate (n / 9) 0 ++ [(10 : Int) ^ (n % 9)]) := Lib.hid (by unfold tenN; rw [if_pos hk, Int.toNat_natCast, ten_limbs])
    have hmk := make_ints (n / 9) (by omega)
    rw [show ((n / 9 : Nat) : Int) = (n : Int) / 9 by omega] at hmk
    clear hk
    go_enter Try.func44, Try.ntmps44
    go_wp2_with fail
    refine (specIn_any _ _ _ true _ hin).mono ?_
    rintro e w' ⟨rfl, rfl⟩
    clear hin
    go_wp2
    go_loop [4, 5] (fun f i => ∃ (j : Nat) (p : Int), j ≤ n % 9 ∧ i = .int .i64 j ∧ f = .int .i64 p ∧ 0 < p ∧ p ≤ 100000000 ∧ Hid (p = 10 ^ j)) (fun _ i => n % 9 - (intOf i).toNat)
    case atStart => exact ⟨0, 1, Nat.zero_le _, rfl, rfl, by omega, by omega, Lib.hid rfl⟩
    case round =>
      obtain ⟨j, p, hj, rfl, rfl, hp0, hp1, HP⟩ := hrel
      by_cases hlt : (j : Int) < (n : Int) % 9
      · have HN : Hid (p * 10 = 10 ^ (j + 1) ∧ p * 10 ≤ 100000000) := Lib.hid (by
          have h1 : p * 10 = (10 : Int) ^ (j + 1) := by rw [HP.out, Int.pow_succ]
          exact ⟨h1, by rw [h1]; exact ten_eight (j + 1) (by omega)⟩)
        go_wp2
        go_round
        case rel => exact ⟨j + 1, p * 10, by omega, by go_num, rfl, by omega, HN.out.2, Lib.hid HN.out.1⟩
        case measure => simp [intOf]; omega
      · have HJ := Lib.hid (show j = n % 9 by omega)
        have hown : (w.alloc (.cells (madeCells #[.int .i64 0] (n / 9)) 3)).ownsRow w.heap.size 3 1 (.slice (some ⟨w.heap.size, 0, none⟩) (n / 9) (n / 9)) (n / 9) (intsV (List.replicate (n / 9) 0)) := by
          have h := World.ownsRow_lit (e := 3) (size := 1) (base := w.heap.size) w (madeCells #[.int .i64 0] (n / 9)) (n / 9) (Nat.le_refl _) (by unfold maxLen; omega) (by rw [size_madeCells, Nat.mul_one])
          rw [toList_madeCells_one] at h
          simpa [intsV] using h
        go_wp2_with (at_builtin; refine wpList_append_own _ rfl _ _ 22 rfl w.heap.size 3 i0 (.int .i64 0) 1 8 Try.underlying22 hi0 hz0 hz1 hz2 rfl (by decide) _ _ _ rfl (own_alloc hown _) ⟨w.heap.size + 1, 0, none⟩ 1 1 [.int .i64 p] rfl rfl ?c1 ?c2 ?c3 ?c4 ?c5 ?_)
        case c2 => first | (intro u hu; simp at hu; subst hu; rfl) | rfl
        case c3 => unfold maxLen; omega
        case c4 => omega
        case c5 => first | omega | (simp; omega)
        intro v1 w1 hown1 hg1 _
        have hb2 : Below w.heap.size w w1 := (((Below.refl _ w).alloc (Nat.le_refl _) _).alloc (by simp) _).grown hg1 (by simp; omega) (fun k hk => by cases hk; exact Nat.le_refl _)
        go_wp2
        go_ret
        refine ⟨_, rfl, ?_, hb2⟩
        rw [HV.out, ← HJ.out, ← HP.out]
        simpa [intsV] using hown1
  · have hin' : inB k 0 449 = false := by simpa using hin
    have HV : Hid (tenN k = []) := Lib.hid (by unfold tenN; rw [if_neg (of_decide_eq_false hin')])
    clear hin
    go_enter Try.func44, Try.ntmps44
    go_wp2_with fail
    refine (specIn_any _ _ _ false _ hin').mono ?_
    rintro e w' ⟨rfl, rfl⟩
    go_wp2
    go_ret
    rw [HV.out]
    exact new_nil (Below.refl _ _)

/-- what NatScale answers -/
def scaleN (a : List Int) (k : Int) : List Int := if k < 0 then [] else mulN a (tenN k)
theorem tenN_len (k : Int) : (tenN k).length ≤ 50 := by
  unfold tenN
  split
  · rename_i h
    rw [ten_limbs]
    simp
    omega
  · simp

/-- what NatCut answers -/
def cutN (a : List Int) (k : Int) : List Int × List Int := if 0 ≤ k ∧ k ≤ 440 then divN a (tenN k) else ([], [])

/-- what NatEven answers -/
def evenB (a : List Int) : Bool := natOkB a && decide (a.headD 0 % 2 = 0)
end Go.Proofs.Ytofehcpapdlcnaa
