/-
  Chapter 3: NatText and NatDigits of package spec.
-/
import Derived.Test.YtecaghbakjalgaaDoorNatSpec
import Derived.Test.YtecaghbakjalgaaDoorIntText
import Derived.Test.YtecaghbakjalgaaDoorPadWalks
import Derived.Deep.RegionHeld3
namespace Go.Proofs.YtecaghbakjalgaaDoor
open Go.RowKit

/-- the decimal text of limbs, the least first -/
def natT : List Int → ByteArray
  | [] => ⟨#[48]⟩
  | [d] => numB d
  | d :: e :: r => natT (e :: r) ++ padB (numB d) 9
/-- what NatText answers -/
def natTextB (a : List Int) : ByteArray := if natOkB a = true then natT a else ⟨#[]⟩
theorem padB_size (s : ByteArray) (n : Nat) (h : s.size ≤ n) (n9 : (9 : Int) ≤ n) : (padB s 9).size ≤ n := by
  unfold padB
  show (List.toArray _).size ≤ n
  rw [List.size_toArray, List.length_append, List.length_replicate]
  have : s.data.toList.length = s.size := rfl
  omega
theorem limb_size {d : Int} (h : 0 ≤ d ∧ d ≤ 999999999) : (numB d).size ≤ 10 := numB_size d 8 (by omega)
theorem natT_size (a : List Int) (h : DigN a) : (natT a).size ≤ 10 * a.length + 1 := by
  induction a with
  | nil => unfold natT; decide
  | cons d r ih =>
    have hd := limb_size (h d (by simp))
    cases r with
    | nil => unfold natT; simp; omega
    | cons e r =>
      have hp := padB_size _ 10 hd (by omega)
      have := ih (fun x hx => h x (by simp at hx ⊢; exact .inr hx))
      unfold natT
      rw [ByteArray.size_append]
      simp only [List.length_cons] at *
      omega
theorem natT_step (a : List Int) (i : Nat) (h : i + 1 < a.length) : natT (a.drop i) = natT (a.drop (i + 1)) ++ padB (numB a[i]) 9 := by
  rw [List.drop_eq_getElem_cons (show i < a.length by omega), List.drop_eq_getElem_cons h]
  rfl
theorem natT_last (a : List Int) (h : 0 < a.length) : natT (a.drop (a.length - 1)) = numB (a[a.length - 1]) := by
  rw [List.drop_eq_getElem_cons (show a.length - 1 < a.length by omega), List.drop_eq_nil_of_le (by omega)]
  rfl

set_option maxHeartbeats 1000000 in
set_option maxRecDepth 100000 in
theorem specNatText_any (v : Value) (a : List Int) (lo hi : Nat) (w : World) (hl : a.length ≤ 1048576) (hhi : hi ≤ w.heap.size) (hr : Row w lo hi v (intsV a)) :
    Calls Tryd.prog 44 #[v] w fun e w' => e = .returned (.string (natTextB a)) ∧ Below w.heap.size w w' := by
  by_cases ok : natOkB a = true
  · have HV := Lib.hid (show natTextB a = natT a by unfold natTextB; rw [if_pos ok])
    have pa := natOk_parts ok
    by_cases h0 : a.length = 0
    · have HA := Lib.hid (show a = [] from List.length_eq_zero_iff.1 h0)
      have H0 := Lib.hid h0
      clear h0
      have hr0 := hr
      obtain ⟨A, c, rfl, _⟩ := hr
      rw [intsV_length] at hr0 ⊢
      go_enter Tryd.func44, Tryd.ntmps44
      go_wp2_with fail
      refine (specNatOk_any _ a lo hi _ hl hr0).mono ?_
      rintro e w' ⟨rfl, rfl⟩
      rw [ok]
      have h0 := H0.out
      go_wp2
      go_ret
      exact ⟨by rw [HV.out, HA.out]; rfl, Below.refl _ _⟩
    · have hr0 := hr
      obtain ⟨A, c, rfl, hA⟩ := hr
      obtain ⟨ad, rfl, hlo, hbh, _⟩ := hA 0 _ (intsV_at a 0 (by omega))
      have HA := Lib.hid hA
      have PA := Lib.hid pa.1
      have h50 := pa.2.1
      have hlim := pa.1 a[a.length - 1] (List.getElem_mem _)
      have hc1 : w.cell? (ad.add (a.length - 1)) = some (.int .i64 a[a.length - 1]) := by
        obtain ⟨_, e, _, _, h⟩ := hA (a.length - 1) _ (intsV_at a (a.length - 1) (by omega))
        cases e
        exact h
      have hix : ((a.length : Int) - 1).toNat = a.length - 1 := by omega
      clear hA
      rw [intsV_length] at hr0 ⊢
      go_enter Tryd.func44, Tryd.ntmps44
      go_wp2_with fail
      refine (specNatOk_any _ a lo hi _ hl hr0).mono ?_
      rintro e w' ⟨rfl, rfl⟩
      rw [ok]
      go_wp2_with fail
      refine (specIntText_any _ _ (by omega) (by omega)).mono ?_
      rintro e w1 ⟨rfl, b1⟩
      have HL := Lib.hid (natT_last a (by omega))
      go_wp2
      go_loopw [3, 4] (fun s i wr => ∃ k : Nat, k < a.length ∧ i = .int .i64 ((k : Int) - 1) ∧ s = .string (natT (a.drop k)) ∧ Below w.heap.size w wr) (fun _ i _ => (intOf i + 1).toNat)
      case atStart => exact ⟨a.length - 1, by omega, by congr 1; omega, by rw [HL.out], b1⟩
      case round =>
        obtain ⟨k, hk, rfl, rfl, hb⟩ := hrel
        by_cases hk0 : 0 < k
        · obtain ⟨j, rfl⟩ : ∃ j, k = j + 1 := ⟨k - 1, by omega⟩
          have hcj : wr.cell? (ad.add j) = some (.int .i64 a[j]) := by
            obtain ⟨_, e, _, _, h⟩ := HA.out j _ (intsV_at a j (by omega))
            cases e
            exact (hb.cell (by rw [block_add]; omega)).trans h
          have hj := PA.out a[j] (List.getElem_mem _)
          have hsz := natT_size (a.drop (j + 1)) (fun x hx => PA.out x (List.mem_of_mem_drop hx))
          have hps := padB_size _ 10 (limb_size hj) (by omega)
          have hls := limb_size hj
          rw [List.length_drop] at hsz
          have HSt := Lib.hid (natT_step a j hk)
          have e1 : (((j + 1 : Nat) : Int) - 1) = (j : Int) := by omega
          rw [e1]
          go_wp2_with fail
          refine (specIntText_any _ _ (by omega) (by omega)).mono ?_
          rintro e w2 ⟨rfl, b2⟩
          go_wp2_with fail
          refine (specPad_any _ _ _ (by omega) (by omega)).mono ?_
          rintro e w' ⟨rfl, rfl⟩
          go_wp2
          exact ⟨⟨j, by omega, rfl, by rw [HSt.out], Below.next hb b2⟩, by simp [intOf]⟩
        · go_wp2
          go_ret
          exact ⟨ret_str (by rw [HV.out, show k = 0 by omega]; rfl), hb⟩
  · have HV := Lib.hid (show natTextB a = ⟨#[]⟩ by unfold natTextB; rw [if_neg ok])
    have okf : natOkB a = false := by simpa using ok
    have hr0 := hr
    obtain ⟨A, c, rfl, _⟩ := hr
    rw [intsV_length] at hr0 ⊢
    go_enter Tryd.func44, Tryd.ntmps44
    go_wp2_with fail
    refine (specNatOk_any _ a lo hi _ hl hr0).mono ?_
    rintro e w' ⟨rfl, rfl⟩
    rw [okf]
    go_wp2
    go_ret
    exact ⟨ret_str HV.out.symm, Below.refl _ _⟩

/-- what NatDigits answers -/
def natDigB (a : List Int) : Int := if natOkB a = true ∧ a.length ≠ 0 then (natTextB a).size else 0
theorem natTextB_size (a : List Int) : (natTextB a).size ≤ 501 := by
  unfold natTextB
  split
  · rename_i h
    have hp := natOk_parts h
    have := natT_size a hp.1
    omega
  · show 0 ≤ 501
    omega
end Go.Proofs.YtecaghbakjalgaaDoor
