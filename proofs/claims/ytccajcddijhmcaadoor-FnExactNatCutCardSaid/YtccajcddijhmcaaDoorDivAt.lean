/-
  The laws of chapter 4, for arguments of any size; impl's contracts are handed in.
-/
import Derived.Test.YtccajcddijhmcaaDoorDivLaws
import Derived.Test.YtccajcddijhmcaaDoorDivSpec4
import Derived.Test.YtccajcddijhmcaaDoorZeros
namespace Go.Proofs.YtccajcddijhmcaaDoor
open Go.RowKit

theorem TwoRows.postII {xs ys : List Int} {w w' : World} {e : Ending} (h : TwoRows xs ys w e w') : PostII xs ys w e w' := by
  obtain ⟨v1, v2, rfl, o1, o2, ap, b⟩ := h
  exact ⟨v1, _, v2, _, rfl, own_at o1, own_at o2, own_within o1, own_within o2, fun g h1 h2 => ap g g (by simpa using h1) (by simpa using h2) rfl, b⟩
theorem limbs_short {N : Int} (h0 : 0 ≤ N) (h : N < bp 50) : (limbs N.toNat).length ≤ 1048576 := Nat.le_trans (limbs_length_le _ 50 (by omega)) (by decide)
theorem ok_lt {a : List Int} (h : natOkB a = true) : 0 ≤ nval a ∧ nval a < bp 50 := by
  have h1 := natOk_parts h
  have h2 := nval_lt a h1.1
  have h3 := bp_mono h1.2.1
  exact ⟨nval_nonneg a h1.1, by omega⟩
theorem divN_len (a b : List Int) : (divN a b).1.length ≤ 1048576 ∧ (divN a b).2.length ≤ 1048576 := by
  unfold divN
  split
  · rename_i h
    have ha := ok_lt h.1
    have hb := ok_lt h.2.1
    have hb0 : 0 < nval b := by
      have h1 := ok_ge h.2.1 h.2.2
      have h2 := bp_pos (b.length - 1)
      omega
    refine ⟨limbs_short (Int.ediv_nonneg ha.1 (by omega)) ?_, limbs_short (Int.emod_nonneg _ (by omega)) ?_⟩
    · have := Int.ediv_le_self (nval b) ha.1
      omega
    · have := Int.emod_lt_of_pos (nval a) hb0
      omega
  · exact ⟨by simp, by simp⟩
theorem gcdN_len (a b : List Int) : (gcdN a b).length ≤ 1048576 := by
  unfold gcdN
  split
  · rename_i h
    have ha := ok_lt h.1
    have hb := ok_lt h.2
    refine Nat.le_trans (limbs_length_le _ 50 ?_) (by decide)
    by_cases h0 : 0 < (nval a).toNat
    · have := Nat.gcd_le_left (nval b).toNat h0
      omega
    · rw [show (nval a).toNat = 0 by omega, Nat.gcd_zero_left]
      omega
  · simp
theorem scaleN_len (a : List Int) (k : Int) : (scaleN a k).length ≤ 1048576 := by
  unfold scaleN
  split
  · simp
  · unfold mulN
    split
    · unfold natRes capL
      split
      · simp
      · omega
    · simp
theorem cutN_len (a : List Int) (k : Int) : (cutN a k).1.length ≤ 1048576 ∧ (cutN a k).2.length ≤ 1048576 := by
  unfold cutN
  split
  · exact divN_len _ _
  · exact ⟨by simp, by simp⟩

theorem specNatTen_at (k : Int)  : ∀ (W : World), Calls Tryd.prog 50 #[(.int .i64 k)] W (PostI (tenN k) W) :=
  fun W  => (specNatTen_any k W).mono fun _ _ h => h.newV








end Go.Proofs.YtccajcddijhmcaaDoor
