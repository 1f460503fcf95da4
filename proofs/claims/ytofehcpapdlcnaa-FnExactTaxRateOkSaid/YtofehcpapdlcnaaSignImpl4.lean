/-
  Chapter 5 of package impl: the signed number of an int.
-/
import Derived.Test.YtofehcpapdlcnaaSignImpl3
import Derived.Deep.DeepCutAuto
import Derived.Deep.LoopGhost
namespace Go.Proofs.Ytofehcpapdlcnaa
open Go.RowKit

theorem int_step {m n : Int} {out : List Int} {f : Nat} (hz : ¬ m = 0) (hol : out.length + f ≤ 3) (hmf : m.natAbs < 1000000000 ^ f) (he : out ++ limbs m.natAbs = limbs n.natAbs) (hq : (m.tdiv 1000000000).natAbs = m.natAbs / 1000000000) :
    ∃ g : Nat, (out ++ [((m.natAbs % 1000000000 : Nat) : Int)]).length + g ≤ 3 ∧ (m.tdiv 1000000000).natAbs < 1000000000 ^ g ∧ out ++ [((m.natAbs % 1000000000 : Nat) : Int)] ++ limbs (m.tdiv 1000000000).natAbs = limbs n.natAbs := by
  cases f with
  | zero => simp at hmf; omega
  | succ g =>
    refine ⟨g, by simp; omega, ?_, ?_⟩
    · rw [hq]
      rw [Nat.pow_succ, Nat.mul_comm] at hmf
      exact Nat.div_lt_of_lt_mul hmf
    · rw [hq, ← he, limbs_pos m.natAbs (by omega), List.append_assoc]
      rfl
theorem intOf_mk (n : Int) {s : Bool} (h : decide (n < 0) = s) : mkS s (limbs n.natAbs) = ofZ n := by
  rw [mkS_limbs]
  congr 1
  subst h
  by_cases hn : n < 0
  · rw [if_pos (by simpa using hn)]; omega
  · rw [if_neg (by simpa using hn)]; omega
set_option maxHeartbeats 1000000 in
set_option maxRecDepth 100000 in
theorem implIntOf_any (n : Int) (w : World) (h0 : -9223372036854775808 ≤ n) (h1 : n ≤ 9223372036854775807) :
    Calls Try.prog 14 #[.int .i64 n] w (NewS (ofZ n) w) := by
  obtain ⟨i0, hi, hz0, hz1, hz2⟩ := info_parts intInfo
  have hbb : Below w.heap.size w (w.alloc (.cells #[.bool false, .slice none 0 0] 29)) := below_al (Below.refl _ _) _
  have kr := box_new w #[.bool false, .slice none 0 0] 29
  obtain ⟨W0, hW0⟩ : ∃ W0, W0 = w.alloc (.cells #[.bool false, .slice none 0 0] 29) := ⟨_, rfl⟩
  rw [← hW0] at hbb kr
  have hW0s : W0.heap.size = w.heap.size + 1 := by rw [hW0]; simp
  have HW := Lib.hid hW0
  clear hW0
  obtain ⟨s, hs, hs2⟩ : ∃ s, decide (n < 0) = s ∧ Hid (decide (n < 0) = s) := ⟨_, rfl, Lib.hid rfl⟩
  go_enter Try.func14, Try.ntmps14
  go_wp2_with fail
  obtain ⟨W1, hW1⟩ : ∃ W1, W1 = W0.alloc (.cells #[.slice none 0 0, .bool s] 53) := ⟨_, rfl⟩
  have hx0 : NatX (intK s) (w.heap.size + 1) W0.heap.size [] W1 := by rw [hW1]; exact NatX.late (n := s) (W := W0) (B0 := w.heap.size + 1) (xs := []) (World.ownsRow_nil W0 (w.heap.size + 1) 3 1) (Nat.le_refl _) (by omega)
  have hb0 : Below W0.heap.size W0 W1 := by rw [hW1]; exact below_al (Below.refl _ _) _
  rw [hW0s] at hx0
  go_loopw [0] (fun a wr => ∃ (m : Int) (out : List Int) (f : Nat), -9223372036854775808 ≤ m ∧ m ≤ 9223372036854775807 ∧ out.length + f ≤ 3 ∧ m.natAbs < 1000000000 ^ f ∧ a = .int .i64 m ∧ Hid (out ++ limbs m.natAbs = limbs n.natAbs) ∧ Hid (NatX (intK s) (w.heap.size + 1) (w.heap.size + 1) out wr) ∧ Hid (Below (w.heap.size + 1) W0 wr)) (fun a _ => (intOf a).natAbs)
  case atStart =>
    rw [← HW.out, ← hW1]
    exact ⟨n, [], 3, h0, h1, by simp, by omega, rfl, Lib.hid rfl, Lib.hid hx0, Lib.hid (by rw [hW0s] at hb0; exact hb0)⟩
  case round =>
    obtain ⟨m, out, f, hm0, hm1, hol, hmf, rfl, HE, HX, HB⟩ := hrel
    by_cases hz : m = 0
    · subst hz
      have hout : out = limbs n.natAbs := by
        have e := HE.out
        rwa [show (0 : Int).natAbs = 0 from rfl, limbs_none, List.append_nil] at e
      subst hout
      have bb1 : Below w.heap.size w wr := below_low hbb HB.out (by omega)
      have kr1 := kr.belowB HB.out (fun g hg => by simp at hg; omega)
      go_wp2_with fail
      refine (signed_any _ _ _ _ _ (by omega) HX.out).mono ?_
      rw [intOf_mk n hs2.out]
      rintro e w4 ⟨u4', rfl, o4, b4⟩
      generalize ofZ n = z at *
      obtain ⟨A4, c4, rfl⟩ := own_len o4
      have bb4 := Below.next bb1 b4
      have kr4 := kr1.below b4
      have cz0 := kr4.here.cell 0 _ rfl
      have cz1 := kr4.here.cell 1 _ rfl
      have fz0 := Lib.frozen_of_heap kr4.here 0
      have fz1 := Lib.frozen_of_heap kr4.here 1
      have HO := Lib.hid o4
      have HK := Lib.hid kr4
      clear o4 kr1 kr4 kr HX HB HE
      go_wp2
      refine bodyPost_ret (v := .agg #[.bool _, .slice A4 _ c4]) (by simp [results, Try.results14, go_sem, cz0, cz1]; exact ⟨rfl, rfl⟩) rfl ?_
      exact newS_ret HK.out.here HO.out (by omega) (Nat.le_refl _) bb4
    · have hzb : (m == 0) = false := by rw [beq_eq_false_iff_ne]; exact hz
      have hzb2 : (m != 0) = true := by rw [bne_iff_ne]; exact hz
      obtain ⟨hB, u, hbk, hown, hne⟩ := HX.out
      have hlt := HX.out.lt
      obtain ⟨A, c, rfl⟩ := own_len hown
      have c1 : wr.cell? ⟨w.heap.size + 1, 0, none⟩ = some (.slice A out.length c) := NatX.cell hbk
      have hra : (m.tmod 1000000000).natAbs = m.natAbs % 1000000000 := Int.natAbs_tmod m 1000000000
      have hqa : (m.tdiv 1000000000).natAbs = m.natAbs / 1000000000 := Int.natAbs_tdiv m 1000000000
      have hr0 : -999999999 ≤ m.tmod 1000000000 := by omega
      have hr1 : m.tmod 1000000000 ≤ 999999999 := by omega
      have HR := Lib.hid hra
      have HQ := Lib.hid hqa
      have HBK := Lib.hid hbk
      have HNE := Lib.hid hne
      clear hra hqa hbk hne
      go_wp2_with (at_builtin; refine wpList_append_own _ rfl (.tmp 16) (.tmp 21) 22 rfl (w.heap.size + 1) 3 i0 (.int .i64 0) 1 8 Try.underlying22 hi hz0 hz1 hz2 rfl (by decide) _ _ _ rfl (own_alloc hown _) ⟨wr.heap.size, 0, none⟩ 1 1 [.int .i64 _] rfl rfl (one_new _ _ _) ?c2 ?c3 ?c4 ?c5 ?_)
      any_goals (first | rfl | (unfold maxLen; omega) | omega)
      all_goals
        intro v1 w1 hown1 hg1 _
        have hdig : Hid (w1.ownsRow (w.heap.size + 1) 3 1 v1 (out ++ [((m.natAbs % 1000000000 : Nat) : Int)]).length (intsV (out ++ [((m.natAbs % 1000000000 : Nat) : Int)]))) := Lib.hid (by
          have hra := HR.out
          first
            | (have e : max (m.tmod 1000000000) (-m.tmod 1000000000) = ((m.natAbs % 1000000000 : Nat) : Int) := by omega
               rw [e] at hown1
               simpa [intsV] using hown1)
            | (have e : -m.tmod 1000000000 = ((m.natAbs % 1000000000 : Nat) : Int) := by omega
               rw [e] at hown1
               simpa [intsV] using hown1)
            | (have e : m.tmod 1000000000 = ((m.natAbs % 1000000000 : Nat) : Int) := by omega
               rw [e] at hown1
               simpa [intsV] using hown1))
        have hb2 : w1.heap[w.heap.size + 1]? = some (.cells (.slice A out.length c :: (intK s).rest).toArray (intK s).ty (0, 0)) := by
          rw [hg1.block _ (by simp; omega) (fun e => HNE.out e.symm), Below.heap_alloc _ _ _ hlt]
          exact HBK.out
        have d1 : w1.cell? ⟨w.heap.size + 1, 0, none⟩ = some (.slice A out.length c) := NatX.cell hb2
        have f1 : w1.frozen? ⟨w.heap.size + 1, 0, none⟩ = false := Lib.frozen_of_heap hb2 0
        have hb3 : Below (w.heap.size + 1) W0 w1 := (HB.out.alloc (by omega) _).grown hg1 (by simp; omega) (fun k hk => (own_lt hown hk).1)
        obtain ⟨A1, cc1, rfl⟩ := own_len hdig.out
        have HP := Lib.hid (NatX.put (K := intK s) hB hb2 hdig.out)
        have HB3 := Lib.hid (hb3.setCell (p := ⟨w.heap.size + 1, 0, none⟩) (Nat.le_refl _) (.slice A1 (out ++ [((m.natAbs % 1000000000 : Nat) : Int)]).length cc1))
        have hlen : (out ++ [((m.natAbs % 1000000000 : Nat) : Int)]).length = out.length + 1 := by simp
        rw [hlen] at HP HB3
        have hqb : -9223372036854775808 ≤ m.tdiv 1000000000 ∧ m.tdiv 1000000000 ≤ 9223372036854775807 ∧ (m.tdiv 1000000000).natAbs < m.natAbs := by have := HQ.out; omega
        have HQB := Lib.hid hqb
        have HN := Lib.hid (int_step hz hol hmf HE.out HQ.out)
        clear hb2 hb3 hown hown1 hg1 hdig c1
        clear hr0 hr1 HR hmf hqb hlen
        go_wp2_with fail
        obtain ⟨g, h1, h2, h3⟩ := HN.out
        exact ⟨⟨_, _, g, HQB.out.1, HQB.out.2.1, h1, h2, rfl, Lib.hid h3, Lib.hid HP.out, HB3⟩, by simpa [intOf] using HQB.out.2.2⟩
end Go.Proofs.Ytofehcpapdlcnaa
