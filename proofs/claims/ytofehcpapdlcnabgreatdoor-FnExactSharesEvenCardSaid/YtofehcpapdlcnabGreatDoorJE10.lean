/-
  StableMergeA, StableMergeB, Stable, RankC, ShareRows, Low60, FairS
-/
import Derived.Test.YtofehcpapdlcnabGreatDoorJE9
namespace Go.Proofs.YtofehcpapdlcnabGreatDoor
open Go.RowKit

/-- what a merge is to leave -/
def Merged (r f : Nat → Nat) (bl n0 a b : Nat) (w0 : World) (e : Ending) (w' : World) : Prop := e = .returned (.tuple #[]) ∧ ∃ f', PLW bl n0 f' w0 w' ∧ Same a b f f' ∧ Srt r f' a b
theorem sl1_up {r f : Nat → Nat} {a b m c q : Nat} (h : Mg r f a m b c) (hq : m ≤ q ∧ q < b) (hc : r (f a) < r (f q)) : ∀ k, m ≤ k → k < q + 1 → r (f a) < r (f k) := by
  intro k h1 h2
  by_cases e : k = q
  · rw [e]; exact hc
  · have := h.rs k q h1 (by omega) hq.2
    unfold Ah at this
    omega
theorem sl2_up {r f : Nat → Nat} {a b m c q x : Nat} (h : Mg r f a m b c) (hq : a ≤ q ∧ q < m) (hc : ¬ r (f q) < x) : ∀ k, a ≤ k → k < q + 1 → ¬ r (f k) < x := by
  intro k h1 h2
  by_cases e : k = q
  · rw [e]; exact hc
  · have := h.ls k q h1 (by omega) hq.2
    unfold Ah at this
    omega
set_option maxHeartbeats 8000000 in
set_option maxRecDepth 100000 in
theorem symMerge_left (g : Nat) (cb : Array Value) (r f : Nat → Nat) (bl n0 cap a b c : Nat) (w0 w : World) (hc : CmpAt g cb r bl n0 w0) (hp : PLW bl n0 f w0 w) (hm : Mg r f a (a + 1) b c) (hb : b ≤ n0) (hn0 : n0 ≤ 30) :
    Calls Tryz.prog 156 #[.slice (some ⟨bl, 0, none⟩) n0 cap, .int .i64 a, .int .i64 ((a : Int) + 1), .int .i64 b, .func (.func g) #[] cb] w (Merged r f bl n0 a b w0) := by
  have he := hc.1
  have HCM := Lib.hid hc.2
  have HP := Lib.hid hp
  have HM := Lib.hid hm
  have hmb := hm.mb
  clear hc hp hm
  have hone : ((a : Int) + 1 - (a : Int) == 1) = true := by rw [beq_iff_eq]; omega
  go_enter Tryz.func156, Tryz.ntmps156
  go_wp2
  go_loopw [10, 11] (fun vi vj wr => ∃ i j : Nat, vi = .int .i64 i ∧ vj = .int .i64 j ∧ a + 1 ≤ i ∧ i ≤ j ∧ j ≤ b ∧ Hid (∀ k, a + 1 ≤ k → k < i → r (f a) < r (f k)) ∧ Hid (j = b ∨ ¬ r (f a) < r (f j)) ∧ Hid (PLW bl n0 f w0 wr)) (fun vi vj _ => (intOf vj).toNat - (intOf vi).toNat)
  case atStart => exact ⟨a + 1, b, by first | rfl | go_num, rfl, Nat.le_refl _, by omega, Nat.le_refl _, Lib.hid (fun k h1 h2 => by omega), Lib.hid (.inl rfl), HP⟩
  case round =>
    clear HP
    obtain ⟨i, j, rfl, rfl, hi, hij, hjb, HL, HR, HP⟩ := hrel
    by_cases hlt : i < j
    · skip
      go_wp2_with fail
      obtain ⟨q, hq⟩ : ∃ q, q = (i + j) / 2 := ⟨_, rfl⟩
      have eh : ((i : Int) + (j : Int)) / 2 = (q : Int) := by omega
      have hq1 : i ≤ q ∧ q < j := by omega
      have q1 : (0 : Int) ≤ (q : Int) := by omega
      have q2 : (q : Int) < (n0 : Int) := by omega
      have q7 : ((q : Int)).toNat = q := by omega
      rw [eh]
      clear eh hq
      have q3 : (0 : Int) ≤ (a : Int) := by omega
      have q4 : (a : Int) < (n0 : Int) := by omega
      have q8 : ((a : Int)).toNat = a := by omega
      have KL := Lib.hid (show ∀ W, Below wr.heap.size wr W → W.cell? ⟨bl, q, none⟩ = some (.int .i64 (f q)) ∧ W.cell? ⟨bl, a, none⟩ = some (.int .i64 (f a)) ∧ Hid (Below wr.heap.size wr W) from
        fun W hb => ⟨(HP.out.below hb).pl.c _ (by omega), (HP.out.below hb).pl.c _ (by omega), Lib.hid hb⟩)
      have HB0 := Lib.hid (show Below wr.heap.size wr wr.drew from (Below.refl _ _).drew)
      have hd1 := HP.out.bd q (by omega)
      have hd0 := HP.out.bd a (by omega)
      cases hlv : decide (r (f a) < r (f q)) with
      | true =>
        have HT := Lib.hid (of_decide_eq_true hlv)
        have hcv : decide (cmpI (r (f a)) (r (f q)) < 0) = true := decide_eq_true ((cmpI_neg _ _).2 HT.out)
        clear hlv
        go_region_held3 (fun W => W.cell? ⟨bl, q, none⟩ = some (.int .i64 (f q)) ∧ W.cell? ⟨bl, a, none⟩ = some (.int .i64 (f a)) ∧ Hid (Below wr.heap.size wr W))
          ((refine KL.out _ ?_; (first | exact HB1.out | exact HB0.out | fail)))
          (first
            | (go_at_fn g; (have hBB := (‹_ ∧ _ ∧ Hid (Below wr.heap.size wr _)›).2.2); refine (HCM.out _ (HP.out.ch.trans (Chg.of_below hBB.out)) (f q) (f a) hd1 hd0).mono ?_; rintro e w1 ⟨rfl, b1⟩; have HB1 := Lib.hid (Below.next hBB.out b1); clear hBB))
        have HP1 := Lib.hid (HP.out.below HB1.out)
        clear HP KL HB0 HB1
        go_wp2
        exact ⟨⟨q + 1, j, by first | rfl | go_num, rfl, by omega, by omega, hjb, Lib.hid (sl1_up HM.out ⟨by omega, by omega⟩ HT.out), HR, HP1⟩, by simp [intOf]; omega⟩
      | false =>
        have HT := Lib.hid (of_decide_eq_false hlv)
        have hcv : decide (cmpI (r (f a)) (r (f q)) < 0) = false := decide_eq_false (fun hh => HT.out ((cmpI_neg _ _).1 hh))
        clear hlv
        go_region_held3 (fun W => W.cell? ⟨bl, q, none⟩ = some (.int .i64 (f q)) ∧ W.cell? ⟨bl, a, none⟩ = some (.int .i64 (f a)) ∧ Hid (Below wr.heap.size wr W))
          ((refine KL.out _ ?_; (first | exact HB1.out | exact HB0.out | fail)))
          (first
            | (go_at_fn g; (have hBB := (‹_ ∧ _ ∧ Hid (Below wr.heap.size wr _)›).2.2); refine (HCM.out _ (HP.out.ch.trans (Chg.of_below hBB.out)) (f q) (f a) hd1 hd0).mono ?_; rintro e w1 ⟨rfl, b1⟩; have HB1 := Lib.hid (Below.next hBB.out b1); clear hBB))
        have HP1 := Lib.hid (HP.out.below HB1.out)
        clear HP KL HB0 HB1
        go_wp2
        exact ⟨⟨i, q, rfl, rfl, hi, by omega, by omega, HL, Lib.hid (.inr HT.out), HP1⟩, by simp [intOf]; omega⟩
    · obtain rfl : i = j := by omega
      have HF := Lib.hid (mg_one_left HM.out hi hjb HL.out HR.out)
      have HSM := Lib.hid (same_wide (same_rot f a (a + 1) i (by omega) hi) (Nat.le_refl a) hjb)
      clear HL HR HM
      go_wp2
      go_loopw [13] (fun vk wr2 => ∃ k : Nat, vk = .int .i64 k ∧ a ≤ k ∧ k ≤ i - 1 ∧ Hid (PLW bl n0 (rot f a (a + 1) (k + 1)) w0 wr2)) (fun vk _ => i - (intOf vk).toNat)
      case atStart => exact ⟨a, rfl, Nat.le_refl _, by omega, Lib.hid (by rw [rot_id (.inr rfl) (by omega) (Nat.le_refl _)]; exact HP.out)⟩
      case round =>
        clear HP
        obtain ⟨k, rfl, hak, hki, HP⟩ := hrel
        by_cases hlt2 : k + 1 < i
        · have hz : (k : Int) < (i : Int) - 1 := by omega
          have HUP := Lib.hid (rot_up f a k hak)
          generalize rot f a (a + 1) (k + 1) = h at *
          have ea : ((k : Int) + 1).toNat = k + 1 := by omega
          have q1 : (0 : Int) ≤ (k : Int) + 1 := by omega
          have q2 : (k : Int) + 1 < (n0 : Int) := by omega
          have q3 : (0 : Int) ≤ (k : Int) := by omega
          have q4 : (k : Int) < (n0 : Int) := by omega
          have eb : ((k : Int)).toNat = k := by omega
          have ca := HP.out.pl.c (k) (by omega)
          have cb_ := HP.out.pl.c (k + 1) (by omega)
          have fa := HP.out.pl.f (k) (by omega)
          have fb := HP.out.pl.f (k + 1) (by omega)
          obtain ⟨u, cc⟩ := HP.out.pl.second (i := k) (j := k + 1) (by omega) (by omega) (.int .i64 (h (k + 1)))
          have HP2 := Lib.hid (show PLW bl n0 (swp h (k) (k + 1)) w0 ((wr.setCell ⟨bl, k, none⟩ (.int .i64 (h (k + 1)))).setCell ⟨bl, k + 1, none⟩ (.int .i64 (h (k)))).drew from HP.out.chg (HP.out.pl.swap (i := k) (j := k + 1) (by omega) (by omega)).drew ((Chg.refl [bl] wr).swap _ _ _ _).drewS (same_swp h (a := 0) (b := n0) ⟨by omega, by omega⟩ ⟨by omega, by omega⟩) (Nat.le_refl _))
          go_wp2_with fail
          go_region
          clear ca cb_ fa fb cc HP
          rw [HUP.out] at HP2
          go_wp2
          go_roundw
          case rel => exact ⟨k + 1, by first | rfl | go_num, by omega, by omega, HP2⟩
          case measure => simp [intOf]; omega
        · have hz : ¬ (k : Int) < (i : Int) - 1 := by omega
          obtain rfl : i = k + 1 := by omega
          go_wp2
          go_end0
          exact ⟨rfl, _, HP.out, HSM.out, HF.out⟩
set_option maxHeartbeats 8000000 in
set_option maxRecDepth 100000 in
theorem symMerge_right (g : Nat) (cb : Array Value) (r f : Nat → Nat) (bl n0 cap a m c : Nat) (w0 w : World) (hc : CmpAt g cb r bl n0 w0) (hp : PLW bl n0 f w0 w) (hm : Mg r f a m (m + 1) c) (ham : a + 1 < m) (hb : m + 1 ≤ n0) (hn0 : n0 ≤ 30) :
    Calls Tryz.prog 156 #[.slice (some ⟨bl, 0, none⟩) n0 cap, .int .i64 a, .int .i64 m, .int .i64 ((m : Int) + 1), .func (.func g) #[] cb] w (Merged r f bl n0 a (m + 1) w0) := by
  have he := hc.1
  have HCM := Lib.hid hc.2
  have HP := Lib.hid hp
  have HM := Lib.hid hm
  have hmb := hm.mb
  clear hc hp hm
  have hne : ((m : Int) - (a : Int) == 1) = false := by rw [beq_eq_false_iff_ne]; omega
  have hone : ((m : Int) + 1 - (m : Int) == 1) = true := by rw [beq_iff_eq]; omega
  go_enter Tryz.func156, Tryz.ntmps156
  go_wp2
  go_loopw [14, 15] (fun vi vj wr => ∃ i j : Nat, vi = .int .i64 i ∧ vj = .int .i64 j ∧ a ≤ i ∧ i ≤ j ∧ j ≤ m ∧ Hid (∀ k, a ≤ k → k < i → ¬ r (f k) < r (f m)) ∧ Hid (j = m ∨ r (f j) < r (f m)) ∧ Hid (PLW bl n0 f w0 wr)) (fun vi vj _ => (intOf vj).toNat - (intOf vi).toNat)
  case atStart => exact ⟨a, m, rfl, rfl, Nat.le_refl _, by omega, Nat.le_refl _, Lib.hid (fun k h1 h2 => by omega), Lib.hid (.inl rfl), HP⟩
  case round =>
    clear HP
    obtain ⟨i, j, rfl, rfl, hi, hij, hjm, HL, HR, HP⟩ := hrel
    by_cases hlt : i < j
    · skip
      go_wp2_with fail
      obtain ⟨q, hq⟩ : ∃ q, q = (i + j) / 2 := ⟨_, rfl⟩
      have eh : ((i : Int) + (j : Int)) / 2 = (q : Int) := by omega
      have hq1 : i ≤ q ∧ q < j := by omega
      have q1 : (0 : Int) ≤ (q : Int) := by omega
      have q2 : (q : Int) < (n0 : Int) := by omega
      have q7 : ((q : Int)).toNat = q := by omega
      rw [eh]
      clear eh hq
      have q3 : (0 : Int) ≤ (m : Int) := by omega
      have q4 : (m : Int) < (n0 : Int) := by omega
      have q8 : ((m : Int)).toNat = m := by omega
      have KL := Lib.hid (show ∀ W, Below wr.heap.size wr W → W.cell? ⟨bl, m, none⟩ = some (.int .i64 (f m)) ∧ W.cell? ⟨bl, q, none⟩ = some (.int .i64 (f q)) ∧ Hid (Below wr.heap.size wr W) from
        fun W hb => ⟨(HP.out.below hb).pl.c _ (by omega), (HP.out.below hb).pl.c _ (by omega), Lib.hid hb⟩)
      have HB0 := Lib.hid (show Below wr.heap.size wr wr.drew from (Below.refl _ _).drew)
      have hd1 := HP.out.bd m (by omega)
      have hd0 := HP.out.bd q (by omega)
      cases hlv : decide (r (f q) < r (f m)) with
      | true =>
        have HT := Lib.hid (of_decide_eq_true hlv)
        have hcv : decide (cmpI (r (f q)) (r (f m)) < 0) = true := decide_eq_true ((cmpI_neg _ _).2 HT.out)
        clear hlv
        go_region_held3 (fun W => W.cell? ⟨bl, m, none⟩ = some (.int .i64 (f m)) ∧ W.cell? ⟨bl, q, none⟩ = some (.int .i64 (f q)) ∧ Hid (Below wr.heap.size wr W))
          ((refine KL.out _ ?_; (first | exact HB1.out | exact HB0.out | fail)))
          (first
            | (go_at_fn g; (have hBB := (‹_ ∧ _ ∧ Hid (Below wr.heap.size wr _)›).2.2); refine (HCM.out _ (HP.out.ch.trans (Chg.of_below hBB.out)) (f m) (f q) hd1 hd0).mono ?_; rintro e w1 ⟨rfl, b1⟩; have HB1 := Lib.hid (Below.next hBB.out b1); clear hBB))
        have HP1 := Lib.hid (HP.out.below HB1.out)
        clear HP KL HB0 HB1
        go_wp2
        exact ⟨⟨i, q, rfl, rfl, hi, by omega, by omega, HL, Lib.hid (.inr HT.out), HP1⟩, by simp [intOf]; omega⟩
      | false =>
        have HT := Lib.hid (of_decide_eq_false hlv)
        have hcv : decide (cmpI (r (f q)) (r (f m)) < 0) = false := decide_eq_false (fun hh => HT.out ((cmpI_neg _ _).1 hh))
        clear hlv
        go_region_held3 (fun W => W.cell? ⟨bl, m, none⟩ = some (.int .i64 (f m)) ∧ W.cell? ⟨bl, q, none⟩ = some (.int .i64 (f q)) ∧ Hid (Below wr.heap.size wr W))
          ((refine KL.out _ ?_; (first | exact HB1.out | exact HB0.out | fail)))
          (first
            | (go_at_fn g; (have hBB := (‹_ ∧ _ ∧ Hid (Below wr.heap.size wr _)›).2.2); refine (HCM.out _ (HP.out.ch.trans (Chg.of_below hBB.out)) (f m) (f q) hd1 hd0).mono ?_; rintro e w1 ⟨rfl, b1⟩; have HB1 := Lib.hid (Below.next hBB.out b1); clear hBB))
        have HP1 := Lib.hid (HP.out.below HB1.out)
        clear HP KL HB0 HB1
        go_wp2
        exact ⟨⟨q + 1, j, by first | rfl | go_num, rfl, by omega, by omega, hjm, Lib.hid (sl2_up HM.out ⟨by omega, by omega⟩ HT.out), HR, HP1⟩, by simp [intOf]; omega⟩
    · obtain rfl : i = j := by omega
      have HF := Lib.hid (mg_one_right HM.out hi hjm HL.out HR.out)
      have HSM := Lib.hid (same_wide (same_rot f i m (m + 1) hjm (by omega)) hi (Nat.le_refl (m + 1)))
      clear HL HR HM
      go_wp2
      go_loopw [17] (fun vk wr2 => ∃ k : Nat, vk = .int .i64 k ∧ i ≤ k ∧ k ≤ m ∧ Hid (PLW bl n0 (rot f k m (m + 1)) w0 wr2)) (fun vk _ => (intOf vk).toNat)
      case atStart => exact ⟨m, rfl, hjm, Nat.le_refl _, Lib.hid (by rw [rot_id (.inl rfl) (Nat.le_refl _) (by omega)]; exact HP.out)⟩
      case round =>
        clear HP
        obtain ⟨k, rfl, hak, hki, HP⟩ := hrel
        by_cases hlt2 : i < k
        · obtain ⟨k, rfl⟩ : ∃ p, k = p + 1 := ⟨k - 1, by omega⟩
          have hz : (i : Int) < (k : Int) + 1 := by omega
          have HUP := Lib.hid (rot_down f k m (by omega))
          generalize rot f (k + 1) m (m + 1) = h at *
          have ea : ((k : Int) + 1).toNat = k + 1 := by omega
          have q1 : (0 : Int) ≤ (k : Int) + 1 := by omega
          have q2 : (k : Int) + 1 < (n0 : Int) := by omega
          have q3 : (0 : Int) ≤ (k : Int) := by omega
          have q4 : (k : Int) < (n0 : Int) := by omega
          have eb : ((k : Int)).toNat = k := by omega
          have q5 : IntKind.i64.wrap (k : Int) = (k : Int) := by rw [IntKind.wrap_i64]; omega
          have ca := HP.out.pl.c (k + 1) (by omega)
          have cb_ := HP.out.pl.c (k) (by omega)
          have fa := HP.out.pl.f (k + 1) (by omega)
          have fb := HP.out.pl.f (k) (by omega)
          obtain ⟨u, cc⟩ := HP.out.pl.second (i := k + 1) (j := k) (by omega) (by omega) (.int .i64 (h (k)))
          have HP2 := Lib.hid (show PLW bl n0 (swp h (k + 1) (k)) w0 ((wr.setCell ⟨bl, k + 1, none⟩ (.int .i64 (h (k)))).setCell ⟨bl, k, none⟩ (.int .i64 (h (k + 1)))).drew from HP.out.chg (HP.out.pl.swap (i := k + 1) (j := k) (by omega) (by omega)).drew ((Chg.refl [bl] wr).swap _ _ _ _).drewS (same_swp h (a := 0) (b := n0) ⟨by omega, by omega⟩ ⟨by omega, by omega⟩) (Nat.le_refl _))
          go_wp2_with fail
          go_region
          clear ca cb_ fa fb cc HP
          rw [HUP.out] at HP2
          go_wp2
          go_roundw
          case rel => exact ⟨k, by first | rfl | go_num, by omega, by omega, HP2⟩
          case measure => simp [intOf]
        · have hz : ¬ (i : Int) < (k : Int) := by omega
          obtain rfl : k = i := by omega
          go_wp2
          go_end0
          exact ⟨rfl, _, HP.out, HSM.out, HF.out⟩
end Go.Proofs.YtofehcpapdlcnabGreatDoor

namespace Go.Proofs.YtofehcpapdlcnabGreatDoor
open Go.RowKit

set_option maxHeartbeats 16000000 in
set_option maxRecDepth 100000 in
theorem symMerge_any (g : Nat) (cb : Array Value) (r : Nat → Nat) (bl n0 cap c : Nat) (w0 : World) (hc : CmpAt g cb r bl n0 w0) (hn0 : n0 ≤ 30) : ∀ (N a m b : Nat) (f : Nat → Nat) (w : World), b - a ≤ N → PLW bl n0 f w0 w → Mg r f a m b c → b ≤ n0 →
    Calls Tryz.prog 156 #[.slice (some ⟨bl, 0, none⟩) n0 cap, .int .i64 a, .int .i64 m, .int .i64 b, .func (.func g) #[] cb] w (Merged r f bl n0 a b w0) := by
  intro N
  induction N with
  | zero => intro a m b f w hN _ hm _; have := hm.am; have := hm.mb; omega
  | succ N ih =>
    intro a m b f w hN hp hm hb
    have ham := hm.am
    have hmb := hm.mb
    by_cases h1 : m = a + 1
    · subst h1; exact symMerge_left g cb r f bl n0 cap a b c w0 w hc hp hm hb hn0
    by_cases h2 : b = m + 1
    · subst h2; exact symMerge_right g cb r f bl n0 cap a m c w0 w hc hp hm (by omega) hb hn0
    have IH := Lib.hid ih
    have he := hc.1
    have HCM := Lib.hid hc.2
    have HP := Lib.hid hp
    have HM := Lib.hid hm
    clear hc hp hm ih
    have hne1 : ((m : Int) - (a : Int) == 1) = false := by rw [beq_eq_false_iff_ne]; omega
    have hne2 : ((b : Int) - (m : Int) == 1) = false := by rw [beq_eq_false_iff_ne]; omega
    obtain ⟨mid, hmid⟩ : ∃ x, x = (a + b) / 2 := ⟨_, rfl⟩
    have hmd1 : 2 * mid ≤ a + b := by omega
    have hmd2 : a + b ≤ 2 * mid + 1 := by omega
    clear hmid
    have HEM := Lib.hid (show ((a : Int) + (b : Int)) / 2 = (mid : Int) by omega)
    have hmid1 : a < mid ∧ mid < b := by omega
    obtain ⟨n, hn⟩ : ∃ x, x = mid + m := ⟨_, rfl⟩
    have hn1 : n ≤ mid + m := by omega
    have hn2 : mid + m ≤ n := by omega
    clear hn
    have HEN := Lib.hid (show (mid : Int) + (m : Int) = (n : Int) by omega)
    by_cases hgm : mid < m
    · have hgi : ((a : Int) + (b : Int)) / 2 < (m : Int) := by omega
      obtain ⟨s0, hs0⟩ : ∃ x, x = n - b := ⟨_, rfl⟩
      have hs1 : s0 + b ≤ n := by omega
      have hs2 : n ≤ s0 + b := by omega
      clear hs0
      have HES := Lib.hid (show (n : Int) - (b : Int) = (s0 : Int) by omega)
      obtain ⟨t0, ht0⟩ : ∃ x, x = mid := ⟨_, rfl⟩
      have ht1 : t0 ≤ mid := by omega
      have ht2 : mid ≤ t0 := by omega
      have HET := Lib.hid ht0
      clear ht0
      have HES0 := Lib.hid True.intro
      go_enter Tryz.func156, Tryz.ntmps156
      go_wp2
      rw [HEM.out, HEN.out, HES.out]
      go_loopw [20, 21] (fun vi vj wr => ∃ s t : Nat, vi = .int .i64 s ∧ vj = .int .i64 t ∧ s0 ≤ s ∧ s ≤ t ∧ t ≤ t0 ∧ Hid (s = s0 ∨ ¬ r (f (s - 1)) < r (f (n - s))) ∧ Hid (t = t0 ∨ r (f t) < r (f (n - 1 - t))) ∧ Hid (PLW bl n0 f w0 wr)) (fun vi vj _ => (intOf vj).toNat - (intOf vi).toNat)
      case atStart => exact ⟨s0, t0, by first | rfl | rw [HES0.out], by first | rfl | rw [HET.out], Nat.le_refl _, by omega, Nat.le_refl _, Lib.hid (.inl rfl), Lib.hid (.inl rfl), HP⟩
      case round =>
        clear HP
        obtain ⟨s, t, rfl, rfl, hs, hst, ht, HL, HR, HP⟩ := hrel
        by_cases hlt : s < t
        · skip
          go_wp2_with fail
          obtain ⟨q, hq⟩ : ∃ q, q = (s + t) / 2 := ⟨_, rfl⟩
          have eh : ((s : Int) + (t : Int)) / 2 = (q : Int) := by omega
          have hq1 : s ≤ q ∧ q < t := by omega
          have q1 : (0 : Int) ≤ (q : Int) := by omega
          have q2 : (q : Int) < (n0 : Int) := by omega
          have q7 : ((q : Int)).toNat = q := by omega
          rw [eh]
          clear eh hq
          obtain ⟨p, hp⟩ : ∃ p, p = n - 1 - q := ⟨_, rfl⟩
          have hp1 : p + 1 + q ≤ n := by omega
          have hp2 : n ≤ p + 1 + q := by omega
          clear hp
          have ep : (n : Int) - 1 - (q : Int) = (p : Int) := by omega
          have hpm : m ≤ p ∧ p < b := by omega
          have hqm : a ≤ q ∧ q < m := by omega
          have q3 : (0 : Int) ≤ (p : Int) := by omega
          have q4 : (p : Int) < (n0 : Int) := by omega
          have q8 : ((p : Int)).toNat = p := by omega
          have q9 : IntKind.i64.wrap ((n : Int) - 1 - (q : Int)) = (p : Int) := by rw [IntKind.wrap_i64]; omega
          have q10 : IntKind.i64.wrap (p : Int) = (p : Int) := by rw [IntKind.wrap_i64]; omega
          have KL := Lib.hid (show ∀ W, Below wr.heap.size wr W → W.cell? ⟨bl, p, none⟩ = some (.int .i64 (f p)) ∧ W.cell? ⟨bl, q, none⟩ = some (.int .i64 (f q)) ∧ Hid (Below wr.heap.size wr W) from
            fun W hb => ⟨(HP.out.below hb).pl.c _ (by omega), (HP.out.below hb).pl.c _ (by omega), Lib.hid hb⟩)
          have HB0 := Lib.hid (show Below wr.heap.size wr wr.drew from (Below.refl _ _).drew)
          have hd1 := HP.out.bd p (by omega)
          have hd0 := HP.out.bd q (by omega)
          cases hlv : decide (r (f q) < r (f p)) with
          | true =>
            have HT := Lib.hid (of_decide_eq_true hlv)
            have hcv : decide (cmpI (r (f q)) (r (f p)) < 0) = true := decide_eq_true ((cmpI_neg _ _).2 HT.out)
            clear hlv
            go_region_held3 (fun W => W.cell? ⟨bl, p, none⟩ = some (.int .i64 (f p)) ∧ W.cell? ⟨bl, q, none⟩ = some (.int .i64 (f q)) ∧ Hid (Below wr.heap.size wr W))
              ((refine KL.out _ ?_; (first | exact HB1.out | exact HB0.out | fail)))
              (first
                | (go_at_fn g; (have hBB := (‹_ ∧ _ ∧ Hid (Below wr.heap.size wr _)›).2.2); refine (HCM.out _ (HP.out.ch.trans (Chg.of_below hBB.out)) (f p) (f q) hd1 hd0).mono ?_; rintro e w1 ⟨rfl, b1⟩; have HB1 := Lib.hid (Below.next hBB.out b1); clear hBB))
            have HP1 := Lib.hid (HP.out.below HB1.out)
            clear HP KL HB0 HB1
            go_wp2
            exact ⟨⟨s, q, rfl, rfl, hs, by omega, by omega, HL, Lib.hid (.inr (by rw [show n - 1 - q = p by omega]; exact HT.out)), HP1⟩, by simp [intOf]; omega⟩
          | false =>
            have HT := Lib.hid (of_decide_eq_false hlv)
            have hcv : decide (cmpI (r (f q)) (r (f p)) < 0) = false := decide_eq_false (fun hh => HT.out ((cmpI_neg _ _).1 hh))
            clear hlv
            go_region_held3 (fun W => W.cell? ⟨bl, p, none⟩ = some (.int .i64 (f p)) ∧ W.cell? ⟨bl, q, none⟩ = some (.int .i64 (f q)) ∧ Hid (Below wr.heap.size wr W))
              ((refine KL.out _ ?_; (first | exact HB1.out | exact HB0.out | fail)))
              (first
                | (go_at_fn g; (have hBB := (‹_ ∧ _ ∧ Hid (Below wr.heap.size wr _)›).2.2); refine (HCM.out _ (HP.out.ch.trans (Chg.of_below hBB.out)) (f p) (f q) hd1 hd0).mono ?_; rintro e w1 ⟨rfl, b1⟩; have HB1 := Lib.hid (Below.next hBB.out b1); clear hBB))
            have HP1 := Lib.hid (HP.out.below HB1.out)
            clear HP KL HB0 HB1
            go_wp2
            exact ⟨⟨q + 1, t, by first | rfl | go_num, rfl, by omega, by omega, ht, Lib.hid (.inr (by rw [show q + 1 - 1 = q by omega, show n - (q + 1) = p by omega]; exact HT.out)), HR, HP1⟩, by simp [intOf]; omega⟩
        · obtain rfl : s = t := by omega
          obtain ⟨e, hend⟩ : ∃ e, e = n - s := ⟨_, rfl⟩
          have he1 : e + s ≤ n := by omega
          have he2 : n ≤ e + s := by omega
          clear hend
          have eend : (n : Int) - (s : Int) = (e : Int) := by omega
          have hbd : a ≤ s ∧ s ≤ m ∧ m ≤ e ∧ e ≤ b := by omega
          have HCUT := Lib.hid (show Cutd r (rot f s m e) a s mid e b c from by
            have h := mg_cut HM.out hbd.1 hbd.2.1 hbd.2.2.1 hbd.2.2.2 (by rcases HL.out with h | h; exact (by omega : s = a ∨ e = b).elim .inl (fun h => .inr (.inl h)); exact .inr (.inr (by rw [show e = n - s by omega]; exact h))) (by rcases HR.out with h | h; exact (by omega : s = m ∨ e = m).elim .inl (fun h => .inr (.inl h)); exact .inr (.inr (by rw [show e - 1 = n - 1 - s by omega]; exact h)))
            rwa [show s + (e - m) = mid by omega] at h)
          have HSR := Lib.hid (same_wide (same_rot f s m e hbd.2.1 hbd.2.2.1) hbd.1 hbd.2.2.2)
          clear HL HR HM
          by_cases hrot : s < m ∧ m < e
          · have hr1 : (s : Int) < (m : Int) := by omega
            have hr2 : (m : Int) < (e : Int) := by omega
            go_wp2_with fail
            refine (rotate_any bl n0 _ s m e f _ _ HP.out.pl hrot.1 hrot.2 (by omega) hn0).mono ?_
            rintro e_ w1 ⟨rfl, hp1, c1⟩
            have HG0 := Lib.hid (HP.out.chg hp1 c1 HSR.out hb)
            clear hp1 c1 HP hr1 hr2
            obtain ⟨G, hG⟩ : ∃ G, G = rot f s m e := ⟨_, rfl⟩
            rw [← hG] at HG0 HCUT HSR
            have HG := HG0
            clear hG HG0
            by_cases hl : a < s
            · skip
              have hl1 : (a : Int) < (s : Int) := by omega
              have hl2 : (s : Int) < (mid : Int) := by omega
              go_wp2_with fail
              refine (IH.out a s mid _ _ (by omega) HG.out (cutd_left HCUT.out (by omega) (by omega)) (by omega)).mono ?_
              rintro e_ w2 ⟨rfl, g1, hp1, hs1, ht1⟩
              have HG1 := Lib.hid hp1
              have HS1 := Lib.hid hs1
              have HT1 := Lib.hid ht1
              clear hp1 hs1 ht1 HG
              by_cases hr : e < b
              · have hr1 : (mid : Int) < (e : Int) := by omega
                have hr2 : (e : Int) < (b : Int) := by omega
                go_wp2_with fail
                refine (IH.out mid e b _ _ (by omega) HG1.out (mg_kept (cutd_right HCUT.out (by omega) hr) HS1.out) hb).mono ?_
                rintro e_ w3 ⟨rfl, g2, hp2, hs2, ht2⟩
                have HP2 := Lib.hid hp2
                have HF2 := Lib.hid (And.intro (same_trans HSR.out (same_trans (same_wide HS1.out (Nat.le_refl _) (by omega)) (same_wide hs2 (by omega) (Nat.le_refl b)))) (half_join HCUT.out.cr HS1.out HT1.out hs2 ht2))
                clear hp2 hs2 ht2 HG1 HS1 HT1 HCUT HSR
                go_wp2
                go_end0
                exact ⟨rfl, g2, HP2.out, HF2.out.1, HF2.out.2⟩
              · skip
                have HF2 := Lib.hid (And.intro (same_trans HSR.out (same_wide HS1.out (Nat.le_refl a) (by omega : mid ≤ b))) (half_join HCUT.out.cr HS1.out HT1.out (same_refl mid b _) (srt_kept (cutd_right_done HCUT.out (by omega)) HS1.out)))
                clear HS1 HT1 HCUT HSR
                have hr2 : ¬ (e : Int) < (b : Int) := by omega
                have hr3 : (mid : Int) < (e : Int) := by omega
                go_wp2
                go_end0
                exact ⟨rfl, _, HG1.out, HF2.out.1, HF2.out.2⟩
            · skip
              have HT1 := Lib.hid (cutd_left_done HCUT.out (by omega))
              have HS1 := Lib.hid (same_refl a mid G)
              have HG1 := HG
              have hl2 : ¬ (a : Int) < (s : Int) := by omega
              by_cases hr : e < b
              · have hr1 : (mid : Int) < (e : Int) := by omega
                have hr2 : (e : Int) < (b : Int) := by omega
                go_wp2_with fail
                refine (IH.out mid e b _ _ (by omega) HG1.out (mg_kept (cutd_right HCUT.out (by omega) hr) HS1.out) hb).mono ?_
                rintro e_ w3 ⟨rfl, g2, hp2, hs2, ht2⟩
                have HP2 := Lib.hid hp2
                have HF2 := Lib.hid (And.intro (same_trans HSR.out (same_trans (same_wide HS1.out (Nat.le_refl _) (by omega)) (same_wide hs2 (by omega) (Nat.le_refl b)))) (half_join HCUT.out.cr HS1.out HT1.out hs2 ht2))
                clear hp2 hs2 ht2 HG1 HS1 HT1 HCUT HSR
                go_wp2
                go_end0
                exact ⟨rfl, g2, HP2.out, HF2.out.1, HF2.out.2⟩
              · skip
                have HF2 := Lib.hid (And.intro (same_trans HSR.out (same_wide HS1.out (Nat.le_refl a) (by omega : mid ≤ b))) (half_join HCUT.out.cr HS1.out HT1.out (same_refl mid b _) (srt_kept (cutd_right_done HCUT.out (by omega)) HS1.out)))
                clear HS1 HT1 HCUT HSR
                have hr2 : ¬ (e : Int) < (b : Int) := by omega
                have hr3 : (mid : Int) < (e : Int) := by omega
                go_wp2
                go_end0
                exact ⟨rfl, _, HG1.out, HF2.out.1, HF2.out.2⟩
          · have hG0 : rot f s m e = f := rot_id (by omega) hbd.2.1 hbd.2.2.1
            rw [hG0] at HCUT
            have HG := HP
            replace HSR := Lib.hid (same_refl a b f)
            clear hG0 HP
            by_cases hr1 : s < m
            · have hr2 : ¬ (m : Int) < (e : Int) := by omega
              have hr3 : (s : Int) < (m : Int) := by omega
              by_cases hl : a < s
              · skip
                have HT1 := Lib.hid (cutd_left_done HCUT.out (by omega))
                have HS1 := Lib.hid (same_refl a mid f)
                have HG1 := HG
                have hl2 : ¬ (s : Int) < (mid : Int) := by omega
                have hl3 : (a : Int) < (s : Int) := by omega
                by_cases hr : e < b
                · have hr1 : (mid : Int) < (e : Int) := by omega
                  have hr2 : (e : Int) < (b : Int) := by omega
                  go_wp2_with fail
                  refine (IH.out mid e b _ _ (by omega) HG1.out (mg_kept (cutd_right HCUT.out (by omega) hr) HS1.out) hb).mono ?_
                  rintro e_ w3 ⟨rfl, g2, hp2, hs2, ht2⟩
                  have HP2 := Lib.hid hp2
                  have HF2 := Lib.hid (And.intro (same_trans HSR.out (same_trans (same_wide HS1.out (Nat.le_refl _) (by omega)) (same_wide hs2 (by omega) (Nat.le_refl b)))) (half_join HCUT.out.cr HS1.out HT1.out hs2 ht2))
                  clear hp2 hs2 ht2 HG1 HS1 HT1 HCUT HSR
                  go_wp2
                  go_end0
                  exact ⟨rfl, g2, HP2.out, HF2.out.1, HF2.out.2⟩
                · skip
                  have HF2 := Lib.hid (And.intro (same_trans HSR.out (same_wide HS1.out (Nat.le_refl a) (by omega : mid ≤ b))) (half_join HCUT.out.cr HS1.out HT1.out (same_refl mid b _) (srt_kept (cutd_right_done HCUT.out (by omega)) HS1.out)))
                  clear HS1 HT1 HCUT HSR
                  have hr2 : ¬ (e : Int) < (b : Int) := by omega
                  have hr3 : (mid : Int) < (e : Int) := by omega
                  go_wp2
                  go_end0
                  exact ⟨rfl, _, HG1.out, HF2.out.1, HF2.out.2⟩
              · skip
                have HT1 := Lib.hid (cutd_left_done HCUT.out (by omega))
                have HS1 := Lib.hid (same_refl a mid f)
                have HG1 := HG
                have hl2 : ¬ (a : Int) < (s : Int) := by omega
                by_cases hr : e < b
                · have hr1 : (mid : Int) < (e : Int) := by omega
                  have hr2 : (e : Int) < (b : Int) := by omega
                  go_wp2_with fail
                  refine (IH.out mid e b _ _ (by omega) HG1.out (mg_kept (cutd_right HCUT.out (by omega) hr) HS1.out) hb).mono ?_
                  rintro e_ w3 ⟨rfl, g2, hp2, hs2, ht2⟩
                  have HP2 := Lib.hid hp2
                  have HF2 := Lib.hid (And.intro (same_trans HSR.out (same_trans (same_wide HS1.out (Nat.le_refl _) (by omega)) (same_wide hs2 (by omega) (Nat.le_refl b)))) (half_join HCUT.out.cr HS1.out HT1.out hs2 ht2))
                  clear hp2 hs2 ht2 HG1 HS1 HT1 HCUT HSR
                  go_wp2
                  go_end0
                  exact ⟨rfl, g2, HP2.out, HF2.out.1, HF2.out.2⟩
                · skip
                  have HF2 := Lib.hid (And.intro (same_trans HSR.out (same_wide HS1.out (Nat.le_refl a) (by omega : mid ≤ b))) (half_join HCUT.out.cr HS1.out HT1.out (same_refl mid b _) (srt_kept (cutd_right_done HCUT.out (by omega)) HS1.out)))
                  clear HS1 HT1 HCUT HSR
                  have hr2 : ¬ (e : Int) < (b : Int) := by omega
                  have hr3 : (mid : Int) < (e : Int) := by omega
                  go_wp2
                  go_end0
                  exact ⟨rfl, _, HG1.out, HF2.out.1, HF2.out.2⟩
            · exact absurd hgi (by omega)
    · have hgi : ¬ ((a : Int) + (b : Int)) / 2 < (m : Int) := by omega
      obtain ⟨s0, hs0⟩ : ∃ x, x = a := ⟨_, rfl⟩
      obtain ⟨t0, ht0⟩ : ∃ x, x = m := ⟨_, rfl⟩
      have hs1 : s0 ≤ a := by omega
      have hs2 : a ≤ s0 := by omega
      have ht1 : t0 ≤ m := by omega
      have ht2 : m ≤ t0 := by omega
      have HES0 := Lib.hid hs0
      have HET := Lib.hid ht0
      clear hs0 ht0
      go_enter Tryz.func156, Tryz.ntmps156
      go_wp2
      rw [HEM.out, HEN.out]
      go_loopw [20, 21] (fun vi vj wr => ∃ s t : Nat, vi = .int .i64 s ∧ vj = .int .i64 t ∧ s0 ≤ s ∧ s ≤ t ∧ t ≤ t0 ∧ Hid (s = s0 ∨ ¬ r (f (s - 1)) < r (f (n - s))) ∧ Hid (t = t0 ∨ r (f t) < r (f (n - 1 - t))) ∧ Hid (PLW bl n0 f w0 wr)) (fun vi vj _ => (intOf vj).toNat - (intOf vi).toNat)
      case atStart => exact ⟨s0, t0, by first | rfl | rw [HES0.out], by first | rfl | rw [HET.out], Nat.le_refl _, by omega, Nat.le_refl _, Lib.hid (.inl rfl), Lib.hid (.inl rfl), HP⟩
      case round =>
        clear HP
        obtain ⟨s, t, rfl, rfl, hs, hst, ht, HL, HR, HP⟩ := hrel
        by_cases hlt : s < t
        · skip
          go_wp2_with fail
          obtain ⟨q, hq⟩ : ∃ q, q = (s + t) / 2 := ⟨_, rfl⟩
          have eh : ((s : Int) + (t : Int)) / 2 = (q : Int) := by omega
          have hq1 : s ≤ q ∧ q < t := by omega
          have q1 : (0 : Int) ≤ (q : Int) := by omega
          have q2 : (q : Int) < (n0 : Int) := by omega
          have q7 : ((q : Int)).toNat = q := by omega
          rw [eh]
          clear eh hq
          obtain ⟨p, hp⟩ : ∃ p, p = n - 1 - q := ⟨_, rfl⟩
          have hp1 : p + 1 + q ≤ n := by omega
          have hp2 : n ≤ p + 1 + q := by omega
          clear hp
          have ep : (n : Int) - 1 - (q : Int) = (p : Int) := by omega
          have hpm : m ≤ p ∧ p < b := by omega
          have hqm : a ≤ q ∧ q < m := by omega
          have q3 : (0 : Int) ≤ (p : Int) := by omega
          have q4 : (p : Int) < (n0 : Int) := by omega
          have q8 : ((p : Int)).toNat = p := by omega
          have q9 : IntKind.i64.wrap ((n : Int) - 1 - (q : Int)) = (p : Int) := by rw [IntKind.wrap_i64]; omega
          have q10 : IntKind.i64.wrap (p : Int) = (p : Int) := by rw [IntKind.wrap_i64]; omega
          have KL := Lib.hid (show ∀ W, Below wr.heap.size wr W → W.cell? ⟨bl, p, none⟩ = some (.int .i64 (f p)) ∧ W.cell? ⟨bl, q, none⟩ = some (.int .i64 (f q)) ∧ Hid (Below wr.heap.size wr W) from
            fun W hb => ⟨(HP.out.below hb).pl.c _ (by omega), (HP.out.below hb).pl.c _ (by omega), Lib.hid hb⟩)
          have HB0 := Lib.hid (show Below wr.heap.size wr wr.drew from (Below.refl _ _).drew)
          have hd1 := HP.out.bd p (by omega)
          have hd0 := HP.out.bd q (by omega)
          cases hlv : decide (r (f q) < r (f p)) with
          | true =>
            have HT := Lib.hid (of_decide_eq_true hlv)
            have hcv : decide (cmpI (r (f q)) (r (f p)) < 0) = true := decide_eq_true ((cmpI_neg _ _).2 HT.out)
            clear hlv
            go_region_held3 (fun W => W.cell? ⟨bl, p, none⟩ = some (.int .i64 (f p)) ∧ W.cell? ⟨bl, q, none⟩ = some (.int .i64 (f q)) ∧ Hid (Below wr.heap.size wr W))
              ((refine KL.out _ ?_; (first | exact HB1.out | exact HB0.out | fail)))
              (first
                | (go_at_fn g; (have hBB := (‹_ ∧ _ ∧ Hid (Below wr.heap.size wr _)›).2.2); refine (HCM.out _ (HP.out.ch.trans (Chg.of_below hBB.out)) (f p) (f q) hd1 hd0).mono ?_; rintro e w1 ⟨rfl, b1⟩; have HB1 := Lib.hid (Below.next hBB.out b1); clear hBB))
            have HP1 := Lib.hid (HP.out.below HB1.out)
            clear HP KL HB0 HB1
            go_wp2
            exact ⟨⟨s, q, rfl, rfl, hs, by omega, by omega, HL, Lib.hid (.inr (by rw [show n - 1 - q = p by omega]; exact HT.out)), HP1⟩, by simp [intOf]; omega⟩
          | false =>
            have HT := Lib.hid (of_decide_eq_false hlv)
            have hcv : decide (cmpI (r (f q)) (r (f p)) < 0) = false := decide_eq_false (fun hh => HT.out ((cmpI_neg _ _).1 hh))
            clear hlv
            go_region_held3 (fun W => W.cell? ⟨bl, p, none⟩ = some (.int .i64 (f p)) ∧ W.cell? ⟨bl, q, none⟩ = some (.int .i64 (f q)) ∧ Hid (Below wr.heap.size wr W))
              ((refine KL.out _ ?_; (first | exact HB1.out | exact HB0.out | fail)))
              (first
                | (go_at_fn g; (have hBB := (‹_ ∧ _ ∧ Hid (Below wr.heap.size wr _)›).2.2); refine (HCM.out _ (HP.out.ch.trans (Chg.of_below hBB.out)) (f p) (f q) hd1 hd0).mono ?_; rintro e w1 ⟨rfl, b1⟩; have HB1 := Lib.hid (Below.next hBB.out b1); clear hBB))
            have HP1 := Lib.hid (HP.out.below HB1.out)
            clear HP KL HB0 HB1
            go_wp2
            exact ⟨⟨q + 1, t, by first | rfl | go_num, rfl, by omega, by omega, ht, Lib.hid (.inr (by rw [show q + 1 - 1 = q by omega, show n - (q + 1) = p by omega]; exact HT.out)), HR, HP1⟩, by simp [intOf]; omega⟩
        · obtain rfl : s = t := by omega
          obtain ⟨e, hend⟩ : ∃ e, e = n - s := ⟨_, rfl⟩
          have he1 : e + s ≤ n := by omega
          have he2 : n ≤ e + s := by omega
          clear hend
          have eend : (n : Int) - (s : Int) = (e : Int) := by omega
          have hbd : a ≤ s ∧ s ≤ m ∧ m ≤ e ∧ e ≤ b := by omega
          have HCUT := Lib.hid (show Cutd r (rot f s m e) a s mid e b c from by
            have h := mg_cut HM.out hbd.1 hbd.2.1 hbd.2.2.1 hbd.2.2.2 (by rcases HL.out with h | h; exact (by omega : s = a ∨ e = b).elim .inl (fun h => .inr (.inl h)); exact .inr (.inr (by rw [show e = n - s by omega]; exact h))) (by rcases HR.out with h | h; exact (by omega : s = m ∨ e = m).elim .inl (fun h => .inr (.inl h)); exact .inr (.inr (by rw [show e - 1 = n - 1 - s by omega]; exact h)))
            rwa [show s + (e - m) = mid by omega] at h)
          have HSR := Lib.hid (same_wide (same_rot f s m e hbd.2.1 hbd.2.2.1) hbd.1 hbd.2.2.2)
          clear HL HR HM
          by_cases hrot : s < m ∧ m < e
          · have hr1 : (s : Int) < (m : Int) := by omega
            have hr2 : (m : Int) < (e : Int) := by omega
            go_wp2_with fail
            refine (rotate_any bl n0 _ s m e f _ _ HP.out.pl hrot.1 hrot.2 (by omega) hn0).mono ?_
            rintro e_ w1 ⟨rfl, hp1, c1⟩
            have HG0 := Lib.hid (HP.out.chg hp1 c1 HSR.out hb)
            clear hp1 c1 HP hr1 hr2
            obtain ⟨G, hG⟩ : ∃ G, G = rot f s m e := ⟨_, rfl⟩
            rw [← hG] at HG0 HCUT HSR
            have HG := HG0
            clear hG HG0
            by_cases hl : a < s
            · skip
              have hl1 : (a : Int) < (s : Int) := by omega
              have hl2 : (s : Int) < (mid : Int) := by omega
              go_wp2_with fail
              refine (IH.out a s mid _ _ (by omega) HG.out (cutd_left HCUT.out (by omega) (by omega)) (by omega)).mono ?_
              rintro e_ w2 ⟨rfl, g1, hp1, hs1, ht1⟩
              have HG1 := Lib.hid hp1
              have HS1 := Lib.hid hs1
              have HT1 := Lib.hid ht1
              clear hp1 hs1 ht1 HG
              by_cases hr : e < b
              · have hr1 : (mid : Int) < (e : Int) := by omega
                have hr2 : (e : Int) < (b : Int) := by omega
                go_wp2_with fail
                refine (IH.out mid e b _ _ (by omega) HG1.out (mg_kept (cutd_right HCUT.out (by omega) hr) HS1.out) hb).mono ?_
                rintro e_ w3 ⟨rfl, g2, hp2, hs2, ht2⟩
                have HP2 := Lib.hid hp2
                have HF2 := Lib.hid (And.intro (same_trans HSR.out (same_trans (same_wide HS1.out (Nat.le_refl _) (by omega)) (same_wide hs2 (by omega) (Nat.le_refl b)))) (half_join HCUT.out.cr HS1.out HT1.out hs2 ht2))
                clear hp2 hs2 ht2 HG1 HS1 HT1 HCUT HSR
                go_wp2
                go_end0
                exact ⟨rfl, g2, HP2.out, HF2.out.1, HF2.out.2⟩
              · skip
                have HF2 := Lib.hid (And.intro (same_trans HSR.out (same_wide HS1.out (Nat.le_refl a) (by omega : mid ≤ b))) (half_join HCUT.out.cr HS1.out HT1.out (same_refl mid b _) (srt_kept (cutd_right_done HCUT.out (by omega)) HS1.out)))
                clear HS1 HT1 HCUT HSR
                have hr2 : ¬ (e : Int) < (b : Int) := by omega
                have hr3 : (mid : Int) < (e : Int) := by omega
                go_wp2
                go_end0
                exact ⟨rfl, _, HG1.out, HF2.out.1, HF2.out.2⟩
            · skip
              have HT1 := Lib.hid (cutd_left_done HCUT.out (by omega))
              have HS1 := Lib.hid (same_refl a mid G)
              have HG1 := HG
              have hl2 : ¬ (a : Int) < (s : Int) := by omega
              by_cases hr : e < b
              · have hr1 : (mid : Int) < (e : Int) := by omega
                have hr2 : (e : Int) < (b : Int) := by omega
                go_wp2_with fail
                refine (IH.out mid e b _ _ (by omega) HG1.out (mg_kept (cutd_right HCUT.out (by omega) hr) HS1.out) hb).mono ?_
                rintro e_ w3 ⟨rfl, g2, hp2, hs2, ht2⟩
                have HP2 := Lib.hid hp2
                have HF2 := Lib.hid (And.intro (same_trans HSR.out (same_trans (same_wide HS1.out (Nat.le_refl _) (by omega)) (same_wide hs2 (by omega) (Nat.le_refl b)))) (half_join HCUT.out.cr HS1.out HT1.out hs2 ht2))
                clear hp2 hs2 ht2 HG1 HS1 HT1 HCUT HSR
                go_wp2
                go_end0
                exact ⟨rfl, g2, HP2.out, HF2.out.1, HF2.out.2⟩
              · skip
                have HF2 := Lib.hid (And.intro (same_trans HSR.out (same_wide HS1.out (Nat.le_refl a) (by omega : mid ≤ b))) (half_join HCUT.out.cr HS1.out HT1.out (same_refl mid b _) (srt_kept (cutd_right_done HCUT.out (by omega)) HS1.out)))
                clear HS1 HT1 HCUT HSR
                have hr2 : ¬ (e : Int) < (b : Int) := by omega
                have hr3 : (mid : Int) < (e : Int) := by omega
                go_wp2
                go_end0
                exact ⟨rfl, _, HG1.out, HF2.out.1, HF2.out.2⟩
          · have hG0 : rot f s m e = f := rot_id (by omega) hbd.2.1 hbd.2.2.1
            rw [hG0] at HCUT
            have HG := HP
            replace HSR := Lib.hid (same_refl a b f)
            clear hG0 HP
            by_cases hr1 : s < m
            · have hr2 : ¬ (m : Int) < (e : Int) := by omega
              have hr3 : (s : Int) < (m : Int) := by omega
              by_cases hl : a < s
              · skip
                have HT1 := Lib.hid (cutd_left_done HCUT.out (by omega))
                have HS1 := Lib.hid (same_refl a mid f)
                have HG1 := HG
                have hl2 : ¬ (s : Int) < (mid : Int) := by omega
                have hl3 : (a : Int) < (s : Int) := by omega
                by_cases hr : e < b
                · have hr1 : (mid : Int) < (e : Int) := by omega
                  have hr2 : (e : Int) < (b : Int) := by omega
                  go_wp2_with fail
                  refine (IH.out mid e b _ _ (by omega) HG1.out (mg_kept (cutd_right HCUT.out (by omega) hr) HS1.out) hb).mono ?_
                  rintro e_ w3 ⟨rfl, g2, hp2, hs2, ht2⟩
                  have HP2 := Lib.hid hp2
                  have HF2 := Lib.hid (And.intro (same_trans HSR.out (same_trans (same_wide HS1.out (Nat.le_refl _) (by omega)) (same_wide hs2 (by omega) (Nat.le_refl b)))) (half_join HCUT.out.cr HS1.out HT1.out hs2 ht2))
                  clear hp2 hs2 ht2 HG1 HS1 HT1 HCUT HSR
                  go_wp2
                  go_end0
                  exact ⟨rfl, g2, HP2.out, HF2.out.1, HF2.out.2⟩
                · skip
                  have HF2 := Lib.hid (And.intro (same_trans HSR.out (same_wide HS1.out (Nat.le_refl a) (by omega : mid ≤ b))) (half_join HCUT.out.cr HS1.out HT1.out (same_refl mid b _) (srt_kept (cutd_right_done HCUT.out (by omega)) HS1.out)))
                  clear HS1 HT1 HCUT HSR
                  have hr2 : ¬ (e : Int) < (b : Int) := by omega
                  have hr3 : (mid : Int) < (e : Int) := by omega
                  go_wp2
                  go_end0
                  exact ⟨rfl, _, HG1.out, HF2.out.1, HF2.out.2⟩
              · skip
                have HT1 := Lib.hid (cutd_left_done HCUT.out (by omega))
                have HS1 := Lib.hid (same_refl a mid f)
                have HG1 := HG
                have hl2 : ¬ (a : Int) < (s : Int) := by omega
                by_cases hr : e < b
                · have hr1 : (mid : Int) < (e : Int) := by omega
                  have hr2 : (e : Int) < (b : Int) := by omega
                  go_wp2_with fail
                  refine (IH.out mid e b _ _ (by omega) HG1.out (mg_kept (cutd_right HCUT.out (by omega) hr) HS1.out) hb).mono ?_
                  rintro e_ w3 ⟨rfl, g2, hp2, hs2, ht2⟩
                  have HP2 := Lib.hid hp2
                  have HF2 := Lib.hid (And.intro (same_trans HSR.out (same_trans (same_wide HS1.out (Nat.le_refl _) (by omega)) (same_wide hs2 (by omega) (Nat.le_refl b)))) (half_join HCUT.out.cr HS1.out HT1.out hs2 ht2))
                  clear hp2 hs2 ht2 HG1 HS1 HT1 HCUT HSR
                  go_wp2
                  go_end0
                  exact ⟨rfl, g2, HP2.out, HF2.out.1, HF2.out.2⟩
                · skip
                  have HF2 := Lib.hid (And.intro (same_trans HSR.out (same_wide HS1.out (Nat.le_refl a) (by omega : mid ≤ b))) (half_join HCUT.out.cr HS1.out HT1.out (same_refl mid b _) (srt_kept (cutd_right_done HCUT.out (by omega)) HS1.out)))
                  clear HS1 HT1 HCUT HSR
                  have hr2 : ¬ (e : Int) < (b : Int) := by omega
                  have hr3 : (mid : Int) < (e : Int) := by omega
                  go_wp2
                  go_end0
                  exact ⟨rfl, _, HG1.out, HF2.out.1, HF2.out.2⟩
            · have hr2 : ¬ (s : Int) < (m : Int) := by omega
              by_cases hl : s < mid
              · skip
                have hl1 : (a : Int) < (s : Int) := by omega
                have hl2 : (s : Int) < (mid : Int) := by omega
                go_wp2_with fail
                refine (IH.out a s mid _ _ (by omega) HG.out (cutd_left HCUT.out (by omega) (by omega)) (by omega)).mono ?_
                rintro e_ w2 ⟨rfl, g1, hp1, hs1, ht1⟩
                have HG1 := Lib.hid hp1
                have HS1 := Lib.hid hs1
                have HT1 := Lib.hid ht1
                clear hp1 hs1 ht1 HG
                have HF2 := Lib.hid (And.intro (same_trans HSR.out (same_wide HS1.out (Nat.le_refl a) (by omega : mid ≤ b))) (half_join HCUT.out.cr HS1.out HT1.out (same_refl mid b _) (srt_kept (cutd_right_done HCUT.out (by omega)) HS1.out)))
                clear HS1 HT1 HCUT HSR
                have hr2 : ¬ (mid : Int) < (e : Int) := by omega
                go_wp2
                go_end0
                exact ⟨rfl, _, HG1.out, HF2.out.1, HF2.out.2⟩
              · skip
                have HT1 := Lib.hid (cutd_left_done HCUT.out (by omega))
                have HS1 := Lib.hid (same_refl a mid f)
                have HG1 := HG
                have hl2 : ¬ (s : Int) < (mid : Int) := by omega
                have hl3 : (a : Int) < (s : Int) := by omega
                have HF2 := Lib.hid (And.intro (same_trans HSR.out (same_wide HS1.out (Nat.le_refl a) (by omega : mid ≤ b))) (half_join HCUT.out.cr HS1.out HT1.out (same_refl mid b _) (srt_kept (cutd_right_done HCUT.out (by omega)) HS1.out)))
                clear HS1 HT1 HCUT HSR
                have hr2 : ¬ (mid : Int) < (e : Int) := by omega
                go_wp2
                go_end0
                exact ⟨rfl, _, HG1.out, HF2.out.1, HF2.out.2⟩
end Go.Proofs.YtofehcpapdlcnabGreatDoor

namespace Go.Proofs.YtofehcpapdlcnabGreatDoor
open Go.RowKit

def idN : Nat → Nat := fun k => k
/-- the places sorted -/
def Sorted (r : Nat → Nat) (bl n0 : Nat) (w0 w' : World) : Prop := ∃ f, PLW bl n0 f w0 w' ∧ Same 0 n0 idN f ∧ Srt r f 0 n0
/-- after the blocks -/
def Blocks (r : Nat → Nat) (bl n0 : Nat) (w0 w' : World) : Prop := ∃ f, PLW bl n0 f w0 w' ∧ Same 0 n0 idN f ∧ (n0 ≤ 20 → Srt r f 0 n0) ∧ (20 < n0 → Mg r f 0 20 n0 20)
theorem blocks_one {r f : Nat → Nat} {bl n0 : Nat} {w0 w' : World} (h : PLW bl n0 f w0 w') (hs : Same 0 n0 idN f) (ht : Srt r f 0 n0) (hn : n0 < 20) : Blocks r bl n0 w0 w' := ⟨f, h, hs, fun _ => ht, fun h => by omega⟩
theorem blocks_two {r f g : Nat → Nat} {bl n0 : Nat} {w0 w' : World} (h : PLW bl n0 g w0 w') (s1 : Same 0 20 idN f) (t1 : Srt r f 0 20) (s2 : Same 20 n0 f g) (t2 : Srt r g 20 n0) (hn : 20 ≤ n0) : Blocks r bl n0 w0 w' := by
  have k1 : ∀ k, k < 20 → g k = f k := fun k hk => s2.1 k (by omega)
  have t3 : Srt r g 0 20 := fun i j h1 h2 h3 => by rw [k1 i (by omega), k1 j h3]; exact t1 i j h1 h2 h3
  refine ⟨g, h, same_trans (same_wide s1 (Nat.le_refl _) hn) (same_wide s2 (by omega) (Nat.le_refl _)), fun h => ?_, fun h => ⟨by omega, h, fun k _ hk => ?_, fun k hk hk2 => ?_, t3, t2⟩⟩
  · have : n0 = 20 := by omega
    rw [this]; exact t3
  · rw [k1 k hk]
    obtain ⟨k', _, h2, e⟩ := (s1.2 (f k)).1 ⟨k, Nat.zero_le _, hk, rfl⟩
    rw [← e]; exact h2
  · obtain ⟨k', h1, h2, e⟩ := (s2.2 (g k)).1 ⟨k, hk, hk2, rfl⟩
    rw [← e, s1.1 k' (by omega)]
    exact h1
set_option maxHeartbeats 8000000 in
set_option maxRecDepth 100000 in
theorem stable_any (g : Nat) (cb : Array Value) (r : Nat → Nat) (bl n0 cap : Nat) (w0 w : World) (hc : CmpAt g cb r bl n0 w0) (hp : PLW bl n0 idN w0 w) (hn0 : n0 ≤ 30) :
    Calls Tryz.prog 129 #[.slice (some ⟨bl, 0, none⟩) n0 cap, .int .i64 n0, .func (.func g) #[] cb] w fun e w' => e = .returned (.tuple #[]) ∧ Sorted r bl n0 w0 w' := by
  have HC := Lib.hid hc
  have HP := Lib.hid hp
  clear hc hp
  go_enter Tryz.func129, Tryz.ntmps129
  go_wp2
  go_loopw [7, 8] (fun va vb wr => ∃ k : Nat, k ≤ 1 ∧ va = .int .i64 (20 * (k : Int)) ∧ vb = .int .i64 (20 * (k : Int) + 20) ∧ Hid (k = 0 → PLW bl n0 idN w0 wr) ∧ Hid (k = 1 → 20 ≤ n0 ∧ ∃ f, PLW bl n0 f w0 wr ∧ Same 0 20 idN f ∧ Srt r f 0 20)) (fun va _ _ => 60 - (intOf va).toNat)
  case atStart => exact ⟨0, by omega, by first | rfl | go_num, by first | rfl | go_num, Lib.hid fun _ => HP.out, Lib.hid fun h => by omega⟩
  case round =>
    clear HP
    obtain ⟨k, hk, rfl, rfl, H0, H1⟩ := hrel
    by_cases hb : 20 * (k : Int) + 20 ≤ (n0 : Int)
    · obtain rfl : k = 0 := by omega
      have HP := Lib.hid (H0.out rfl)
      clear H0 H1
      have hb2 : (20 : Int) ≤ (n0 : Int) := by omega
      clear hb
      go_wp2_with fail
      refine (insertion_any g cb r bl n0 _ 0 20 idN w0 _ HC.out HP.out (by omega) (by omega) hn0 (fun _ _ _ => rfl)).mono ?_
      rintro e w1 ⟨rfl, f, hp, hs, ht⟩
      have HF := Lib.hid (show 20 ≤ n0 ∧ ∃ f, PLW bl n0 f w0 w1 ∧ Same 0 20 idN f ∧ Srt r f 0 20 from ⟨by omega, f, hp, hs, ht⟩)
      clear hp hs ht HP
      go_wp2
      go_roundw
      case rel => exact ⟨1, by omega, by first | rfl | go_num, by first | rfl | go_num, Lib.hid fun h => by omega, Lib.hid fun _ => HF.out⟩
      case measure => simp [intOf]
    · have hb2 : ¬ 20 * (k : Int) + 20 ≤ (n0 : Int) := hb
      have H2 := Lib.hid (show ∃ f, PLW bl n0 f w0 wr ∧ (k = 0 → n0 < 20 ∧ f = idN) ∧ (k = 1 → 20 ≤ n0 ∧ Same 0 20 idN f ∧ Srt r f 0 20) from by
        rcases (by omega : k = 0 ∨ k = 1) with h | h
        · exact ⟨idN, H0.out h, fun _ => ⟨by omega, rfl⟩, fun h2 => by omega⟩
        · obtain ⟨h1, f, h2, h3, h4⟩ := H1.out h
          exact ⟨f, h2, fun h5 => by omega, fun _ => ⟨h1, h3, h4⟩⟩)
      clear H0 H1 hb
      obtain ⟨f, hp, h0, h1⟩ := H2.out
      have HP := Lib.hid hp
      have HA := Lib.hid h0
      have HB := Lib.hid h1
      clear H2 hp h0 h1
      have hak : 20 * k ≤ n0 := by
        rcases (by omega : k = 0 ∨ k = 1) with h | h
        · omega
        · have := (HB.out h).1; omega
      have HX := Lib.hid (show ∀ j, 20 * k ≤ j → j < n0 → f j = j from by
        rcases (by omega : k = 0 ∨ k = 1) with h | h
        · rw [(HA.out h).2]; exact fun _ _ _ => rfl
        · intro j h1 h2; rw [(HB.out h).2.1.1 j (by omega)]; rfl)
      have HINS := Lib.hid (fun W (hW : PLW bl n0 f w0 W) => insertion_any g cb r bl n0 cap (20 * k) n0 f w0 W HC.out hW hak (Nat.le_refl _) hn0 HX.out)
      rw [show (((20 * k : Nat) : Int)) = 20 * (k : Int) by omega] at HINS
      go_wp2_with fail
      refine (HINS.out _ HP.out).mono ?_
      rintro e w1 ⟨rfl, h, hp, hs, ht⟩
      have HBL := Lib.hid (show Blocks r bl n0 w0 w1 from by
        rcases (by omega : k = 0 ∨ k = 1) with h5 | h5
        · subst h5
          have := (HA.out rfl).2
          subst this
          exact blocks_one hp hs ht (HA.out rfl).1
        · subst h5
          exact blocks_two hp (HB.out rfl).2.1 (HB.out rfl).2.2 hs ht (HB.out rfl).1)
      clear hp hs ht HP HINS HX HA HB
      go_wp2
      go_loopw [6] (fun vs wr => ∃ k : Nat, k ≤ 1 ∧ vs = .int .i64 (20 * (k : Int) + 20) ∧ Hid (k = 0 → Blocks r bl n0 w0 wr) ∧ Hid (k = 1 → Sorted r bl n0 w0 wr)) (fun vs _ => 60 - (intOf vs).toNat)
      case atStart => exact ⟨0, by omega, by first | rfl | go_num, Lib.hid fun _ => HBL.out, Lib.hid fun h => by omega⟩
      case round =>
        clear HBL
        obtain ⟨q, hq, rfl, H0, H1⟩ := hrel
        by_cases hlt : 20 * (q : Int) + 20 < (n0 : Int)
        · obtain rfl : q = 0 := by omega
          have hlt2 : (20 : Int) < (n0 : Int) := by omega
          have HBL := Lib.hid (H0.out rfl)
          clear hlt H0 H1
          go_wp2
          go_loopw [7, 8] (fun va vb wr2 => va = .int .i64 0 ∧ vb = .int .i64 40 ∧ Hid (Blocks r bl n0 w0 wr2)) (fun _ _ _ => 0)
          case atStart => exact ⟨by first | rfl | go_num, by first | rfl | go_num, HBL⟩
          case round =>
            clear HBL
            obtain ⟨rfl, rfl, HBL⟩ := hrel
            obtain ⟨f, hp, hs, _, hm⟩ := HBL.out
            have hm2 := hm (by omega)
            have HSA := Lib.hid hs
            have hn40 : ¬ (40 : Int) ≤ (n0 : Int) := by omega
            clear HBL hm hs
            have HM := Lib.hid hm2
            have HPP := Lib.hid hp
            clear hm2 hp
            go_wp2_with fail
            refine (symMerge_any g cb r bl n0 _ 20 w0 HC.out hn0 n0 0 20 n0 f _ (by omega) HPP.out HM.out (Nat.le_refl _)).mono ?_
            rintro e_ w2 ⟨rfl, f2, hp2, hs2, ht2⟩
            have HF := Lib.hid (show Sorted r bl n0 w0 w2 from ⟨f2, hp2, same_trans HSA.out hs2, ht2⟩)
            clear hp2 hs2 ht2 HM HPP HSA
            go_wp2
            go_roundw
            case rel => exact ⟨1, by omega, by first | rfl | go_num, Lib.hid fun h => by omega, Lib.hid fun _ => HF.out⟩
            case measure => simp [intOf]
        · have HF := Lib.hid (show Sorted r bl n0 w0 wr from by
            rcases (by omega : q = 0 ∨ q = 1) with h | h
            · obtain ⟨f, hp, hs, ht, _⟩ := H0.out h
              exact ⟨f, hp, hs, ht (by omega)⟩
            · exact H1.out h)
          go_wp2
          go_end0
          exact ⟨rfl, HF.out⟩
set_option maxHeartbeats 1000000 in
set_option maxRecDepth 100000 in
theorem sortStable_any (g : Nat) (cb : Array Value) (r : Nat → Nat) (bl n0 cap : Nat) (w : World) (hc : CmpAt g cb r bl n0 w) (hp : PLW bl n0 idN w w) (hn0 : n0 ≤ 30) :
    Calls Tryz.prog 97 #[.slice (some ⟨bl, 0, none⟩) n0 cap, .func (.func g) #[] cb] w fun e w' => e = .returned (.tuple #[]) ∧ Sorted r bl n0 w w' := by
  have HC := Lib.hid hc
  have HP := Lib.hid hp
  clear hc hp
  go_enter Tryz.func97, Tryz.ntmps97
  go_wp2_with fail
  refine (stable_any g cb r bl n0 cap w _ HC.out HP.out hn0).mono ?_
  rintro e w1 ⟨rfl, hs⟩
  have HF := Lib.hid hs
  clear hs
  go_wp2
  go_end0
  exact ⟨rfl, HF.out⟩
end Go.Proofs.YtofehcpapdlcnabGreatDoor

namespace Go.Proofs.YtofehcpapdlcnabGreatDoor
open Go.RowKit

/-- a slice that reads as these fractions, their limbs of the call's own -/
def OwnQR (w : World) (v : Value) (l : List QI) : Prop :=
  ∃ A c, v = .slice A l.length c ∧ ∀ (j : Nat) x, l[j]? = some x → ∃ a u d, A = some a ∧ a.block < w.heap.size ∧ w.cell? (a.add (j * 3)) = some (.bool x.1.1) ∧ w.cell? ⟨(a.add (j * 3)).block, (a.add (j * 3)).off + 1, none⟩ = some u ∧ w.cell? ⟨(a.add (j * 3)).block, (a.add (j * 3)).off + 2, none⟩ = some d ∧ OwnQ (.agg #[.bool x.1.1, u, d]) x w
theorem cell_keepQ {w w' : World} {a : Addr} (hb : Below w.heap.size w w') (h : a.block < w.heap.size) (j i : Nat) : w'.cell? ⟨(a.add (j * 3)).block, (a.add (j * 3)).off + i, none⟩ = w.cell? ⟨(a.add (j * 3)).block, (a.add (j * 3)).off + i, none⟩ :=
  hb.cell (by show (a.add (j * 3)).block < _; rw [block_add]; exact h)
theorem cell_keepQ' {w w' : World} {a : Addr} (hb : Below w.heap.size w w') (h : a.block < w.heap.size) (j : Nat) : w'.cell? (a.add (j * 3)) = w.cell? (a.add (j * 3)) := hb.cell (by rw [block_add]; exact h)
theorem OwnQR.below {w w' : World} {v : Value} {l : List QI} (h : OwnQR w v l) (hb : Below w.heap.size w w') : OwnQR w' v l := by
  obtain ⟨A, c, rfl, h⟩ := h
  refine ⟨A, c, rfl, fun j x hj => ?_⟩
  obtain ⟨a, u, d, rfl, h1, h2, h3, h4, h5⟩ := h j x hj
  exact ⟨a, u, d, rfl, Nat.lt_of_lt_of_le h1 hb.size, (cell_keepQ' hb h1 j).trans h2, (cell_keepQ hb h1 j 1).trans h3, (cell_keepQ hb h1 j 2).trans h4, h5.below hb⟩
theorem wrap_sign {a b : Int} (ha : -1 ≤ a ∧ a ≤ 1) (hb : -1 ≤ b ∧ b ≤ 1) : IntKind.i64.wrap (a * b) = a * b := by
  have h : -1 ≤ a * b ∧ a * b ≤ 1 := by
    rcases (by omega : a = -1 ∨ a = 0 ∨ a = 1) with rfl | rfl | rfl <;> omega
  rw [IntKind.wrap_i64]
  omega
theorem cmpQ_small (r s : QI) : -1 ≤ cmpQ r s ∧ cmpQ r s ≤ 1 := by
  unfold cmpQ
  split
  · unfold cmpI
    split
    · omega
    · split <;> omega
  · omega
set_option maxHeartbeats 2000000 in
set_option maxRecDepth 100000 in
theorem sharesCmp_any (sg : Int) (B : Nat) (ur us : Value) (r s : QI) (w : World) (hsg : -1 ≤ sg ∧ sg ≤ 1) (hB : B < w.heap.size) (hc : w.cell? ⟨B, 0, none⟩ = some (.int .i64 sg)) (hzr : szQ r ≤ 1048576) (hzs : szQ s ≤ 1048576) (hr : OwnQ ur r w) (hs : OwnQ us s w) (hsen : Sen w) :
    Calls Tryz.prog 55 #[ur, us, .pointer (some ⟨B, 0, none⟩)] w (Postn (sg * cmpQ s r) w) := by
  have HS := Lib.hid hsen
  clear hsen
  have Hr := Lib.hid hr
  obtain ⟨Ar, cr, Br, dr, rfl⟩ := ownQ_form hr
  have OQr := Lib.hid (show ∀ W, Below w.heap.size w W → OwnQ (.agg #[.bool r.1.1, .slice Ar r.1.2.length cr, .slice Br r.2.length dr]) r W from fun W hb => OwnQ.below Hr.out hb)
  clear hr Hr
  have Hs := Lib.hid hs
  obtain ⟨As, cs, Bs, ds, rfl⟩ := ownQ_form hs
  have OQs := Lib.hid (show ∀ W, Below w.heap.size w W → OwnQ (.agg #[.bool s.1.1, .slice As s.1.2.length cs, .slice Bs s.2.length ds]) s W from fun W hb => OwnQ.below Hs.out hb)
  clear hs Hs
  have bb0 : Below w.heap.size w ((w.alloc (.cells #[.bool r.1.1, .slice Ar r.1.2.length cr, .slice Br r.2.length dr] 63)).alloc (.cells #[.bool s.1.1, .slice As s.1.2.length cs, .slice Bs s.2.length ds] 63)) := below_al (below_al (Below.refl _ _) _) _
  have kr := (box_new w #[.bool r.1.1, .slice Ar r.1.2.length cr, .slice Br r.2.length dr] 63).below (below_al (Below.refl _ _) (.cells #[.bool s.1.1, .slice As s.1.2.length cs, .slice Bs s.2.length ds] 63))
  have ks := (box_new (w.alloc (.cells #[.bool r.1.1, .slice Ar r.1.2.length cr, .slice Br r.2.length dr] 63)) #[.bool s.1.1, .slice As s.1.2.length cs, .slice Bs s.2.length ds] 63)
  rw [show (w.alloc (.cells #[.bool r.1.1, .slice Ar r.1.2.length cr, .slice Br r.2.length dr] 63)).heap.size = w.heap.size + 1 by simp] at ks
  have CWF := Lib.hid (show ∀ W, Below w.heap.size w W → W.cell? ⟨B, 0, none⟩ = some (.int .i64 sg) from fun W hb => (hb.cell (p := ⟨B, 0, none⟩) hB).trans hc)
  clear hc
  have HW := Lib.hid (wrap_sign hsg (cmpQ_small s r))
  go_enter Tryz.func55, Tryz.ntmps55
  have kr_c0 := kr.here.cell 0 _ rfl
  have kr_c1 := kr.here.cell 1 _ rfl
  have kr_c2 := kr.here.cell 2 _ rfl
  have ks_c0 := ks.here.cell 0 _ rfl
  have ks_c1 := ks.here.cell 1 _ rfl
  have ks_c2 := ks.here.cell 2 _ rfl
  go_wp2_with fail
  obtain ⟨w1, hw1⟩ : ∃ W, W = ((w.alloc (.cells #[.bool r.1.1, .slice Ar r.1.2.length cr, .slice Br r.2.length dr] 63)).alloc (.cells #[.bool s.1.1, .slice As s.1.2.length cs, .slice Bs s.2.length ds] 63)) := ⟨_, rfl⟩
  clear kr_c0 kr_c1 kr_c2 ks_c0 ks_c1 ks_c2
  rw [← hw1] at kr ks bb0 ⊢
  clear hw1
  have HC0 := Lib.hid (show Chg [] w1 w1.drew from (Chg.refl _ _).drew1)
  have HCr := Lib.hid (show Chg [] w1 w1 from Chg.refl _ _)
  have KL := Lib.hid (show ∀ W, Chg [] w1 W → W.cell? ⟨w.heap.size, 0, none⟩ = some (.bool r.1.1) ∧ W.cell? ⟨w.heap.size, 1, none⟩ = some (.slice Ar r.1.2.length cr) ∧ W.cell? ⟨w.heap.size, 2, none⟩ = some (.slice Br r.2.length dr) ∧ W.cell? ⟨w.heap.size + 1, 0, none⟩ = some (.bool s.1.1) ∧ W.cell? ⟨w.heap.size + 1, 1, none⟩ = some (.slice As s.1.2.length cs) ∧ W.cell? ⟨w.heap.size + 1, 2, none⟩ = some (.slice Bs s.2.length ds) ∧ W.cell? ⟨B, 0, none⟩ = some (.int .i64 sg) ∧ Hid (Chg [] w1 W) from fun W hc => ⟨(kr.chg hc (fun i hi hm => by simp at hm)).here.cell 0 _ rfl, (kr.chg hc (fun i hi hm => by simp at hm)).here.cell 1 _ rfl, (kr.chg hc (fun i hi hm => by simp at hm)).here.cell 2 _ rfl, (ks.chg hc (fun i hi hm => by simp at hm)).here.cell 0 _ rfl, (ks.chg hc (fun i hi hm => by simp at hm)).here.cell 1 _ rfl, (ks.chg hc (fun i hi hm => by simp at hm)).here.cell 2 _ rfl, CWF.out W (below_chg bb0 hc bb0.size (fun i hi => by simp at hi)), Lib.hid hc⟩)
  have BBF := Lib.hid (show ∀ W, Chg [] w1 W → Below w.heap.size w W from fun W hc => below_chg bb0 hc bb0.size (fun i hi => by simp at hi))
  go_region_held3 (fun W => W.cell? ⟨w.heap.size, 0, none⟩ = some (.bool r.1.1) ∧ W.cell? ⟨w.heap.size, 1, none⟩ = some (.slice Ar r.1.2.length cr) ∧ W.cell? ⟨w.heap.size, 2, none⟩ = some (.slice Br r.2.length dr) ∧ W.cell? ⟨w.heap.size + 1, 0, none⟩ = some (.bool s.1.1) ∧ W.cell? ⟨w.heap.size + 1, 1, none⟩ = some (.slice As s.1.2.length cs) ∧ W.cell? ⟨w.heap.size + 1, 2, none⟩ = some (.slice Bs s.2.length ds) ∧ W.cell? ⟨B, 0, none⟩ = some (.int .i64 sg) ∧ Hid (Chg [] w1 W))
    ((refine KL.out _ ?_; (first | exact HC2.out | exact HCr.out | exact HC0.out | exact HC2.out.drew1 | exact HCr.out.drew1 | exact HC0.out.drew1 | exact HC2.out.trans (Chg.of_below (below_al (Below.refl _ _) _)) | exact HCr.out.trans (Chg.of_below (below_al (Below.refl _ _) _)) | exact HC0.out.trans (Chg.of_below (below_al (Below.refl _ _) _)) | fail)))
    (first
      | (go_at_call 56; (have hBB := (‹_ ∧ _ ∧ _ ∧ _ ∧ _ ∧ _ ∧ _ ∧ Hid (Chg [] w1 _)›).2.2.2.2.2.2.2); (with_reducible refine (implRatCmp_any _ _ s r _ hzs hzr (OQs.out _ (BBF.out _ hBB.out)) (OQr.out _ (BBF.out _ hBB.out)) (HS.out.below (BBF.out _ hBB.out))).mono ?_); rintro e w2 ⟨rfl, b2⟩; have HC2 := Lib.hid (hBB.out.trans (Chg.of_below b2)); have hmul := HW.out; have HBZ2 := Lib.hid hBB.out.size; clear hBB))
  have bb2 := BBF.out _ HC2.out
  replace kr := kr.chg HC2.out (fun i hi hm => by simp at hm)
  replace ks := ks.chg HC2.out (fun i hi hm => by simp at hm)
  have hmul := HW.out
  clear kr ks
  go_wp2
  go_ret
  exact ⟨rfl, bb2⟩
set_option maxHeartbeats 4000000 in
set_option maxRecDepth 100000 in
theorem rankCmp_any (sg : Int) (B C L : Nat) (v : Value) (ys : List QI) (i j : Nat) (x y : QI) (w : World) (hsg : -1 ≤ sg ∧ sg ≤ 1) (hB : B < w.heap.size) (hc : w.cell? ⟨B, 0, none⟩ = some (.int .i64 sg)) (hC : w.cell? ⟨C, 0, none⟩ = some (.func (.func 55) #[] #[.pointer (some ⟨B, 0, none⟩)])) (hL : w.cell? ⟨L, 0, none⟩ = some v) (hCl : C < w.heap.size) (hLl : L < w.heap.size) (_hl : ys.length ≤ 30) (hi : ys[i]? = some x) (hj : ys[j]? = some y) (hzx : szQ x ≤ 1048576) (hzy : szQ y ≤ 1048576) (hv : OwnQR w v ys) (hsen : Sen w) :
    Calls Tryz.prog 98 #[.int .i64 i, .int .i64 j, .pointer (some ⟨C, 0, none⟩), .pointer (some ⟨L, 0, none⟩)] w (Postn (sg * cmpQ y x) w) := by
  have he : ∀ (args : Array Value) (w : World), (callFunc 55 args).run Tryz.prog w = .ok (.enter 55 args) w := Go.Proofs.enters_of Tryz.func55 (by kernel_rfl) rfl
  have hil := (List.getElem?_eq_some_iff.1 hi).1
  have hjl := (List.getElem?_eq_some_iff.1 hj).1
  have q1 : (i : Int) < (ys.length : Int) := by omega
  have q2 : (j : Int) < (ys.length : Int) := by omega
  have q3 : (0 : Int) ≤ (i : Int) := by omega
  have q4 : (0 : Int) ≤ (j : Int) := by omega
  have e1 : ((i : Int)).toNat = i := by omega
  have e2 : ((j : Int)).toNat = j := by omega
  obtain ⟨A, c, rfl, hv⟩ := hv
  obtain ⟨a, ux, dx, rfl, ha, hx0, hx1, hx2, ox⟩ := hv i x hi
  obtain ⟨a', uy, dy, ea, _, hy0, hy1, hy2, oy⟩ := hv j y hj
  cases ea
  have HS := Lib.hid hsen
  have KL := Lib.hid (show ∀ W, Below w.heap.size w W → W.cell? ⟨C, 0, none⟩ = some (.func (.func 55) #[] #[.pointer (some ⟨B, 0, none⟩)]) ∧ W.cell? ⟨L, 0, none⟩ = some (.slice (some a) ys.length c) ∧ W.cell? (a.add (i * 3)) = some (.bool x.1.1) ∧ W.cell? ⟨(a.add (i * 3)).block, (a.add (i * 3)).off + 1, none⟩ = some ux ∧ W.cell? ⟨(a.add (i * 3)).block, (a.add (i * 3)).off + 2, none⟩ = some dx ∧ W.cell? (a.add (j * 3)) = some (.bool y.1.1) ∧ W.cell? ⟨(a.add (j * 3)).block, (a.add (j * 3)).off + 1, none⟩ = some uy ∧ W.cell? ⟨(a.add (j * 3)).block, (a.add (j * 3)).off + 2, none⟩ = some dy ∧ Hid (Below w.heap.size w W) from
    fun W hb => ⟨(hb.cell (p := ⟨C, 0, none⟩) hCl).trans hC, (hb.cell (p := ⟨L, 0, none⟩) hLl).trans hL, (cell_keepQ' hb ha i).trans hx0, (cell_keepQ hb ha i 1).trans hx1, (cell_keepQ hb ha i 2).trans hx2, (cell_keepQ' hb ha j).trans hy0, (cell_keepQ hb ha j 1).trans hy1, (cell_keepQ hb ha j 2).trans hy2, Lib.hid hb⟩)
  have HB0 := Lib.hid (show Below w.heap.size w w.drew from (Below.refl _ _).drew)
  have OX := Lib.hid ox
  have OY := Lib.hid oy
  have HCB := Lib.hid hc
  clear hsen hv hx0 hx1 hx2 hy0 hy1 hy2 ox oy hc hC hL
  go_enter Tryz.func98, Tryz.ntmps98
  go_wp2_with fail
  go_region_held3 (fun W => W.cell? ⟨C, 0, none⟩ = some (.func (.func 55) #[] #[.pointer (some ⟨B, 0, none⟩)]) ∧ W.cell? ⟨L, 0, none⟩ = some (.slice (some a) ys.length c) ∧ W.cell? (a.add (i * 3)) = some (.bool x.1.1) ∧ W.cell? ⟨(a.add (i * 3)).block, (a.add (i * 3)).off + 1, none⟩ = some ux ∧ W.cell? ⟨(a.add (i * 3)).block, (a.add (i * 3)).off + 2, none⟩ = some dx ∧ W.cell? (a.add (j * 3)) = some (.bool y.1.1) ∧ W.cell? ⟨(a.add (j * 3)).block, (a.add (j * 3)).off + 1, none⟩ = some uy ∧ W.cell? ⟨(a.add (j * 3)).block, (a.add (j * 3)).off + 2, none⟩ = some dy ∧ Hid (Below w.heap.size w W))
    ((refine KL.out _ ?_; (first | exact HB1.out | exact HB0.out | fail)))
    (first
      | (go_at_fn 55; (have hBB := (‹_ ∧ _ ∧ _ ∧ _ ∧ _ ∧ _ ∧ _ ∧ _ ∧ Hid (Below w.heap.size w _)›).2.2.2.2.2.2.2.2); refine (sharesCmp_any sg B _ _ x y _ hsg (Nat.lt_of_lt_of_le hB hBB.out.size) ((hBB.out.cell (p := ⟨B, 0, none⟩) hB).trans HCB.out) hzx hzy (OX.out.below hBB.out) (OY.out.below hBB.out) (HS.out.below hBB.out)).mono ?_; rintro e w1 ⟨rfl, b1⟩; have HB1 := Lib.hid (Below.next hBB.out b1); clear hBB))
  go_wp2
  go_ret
  exact ⟨rfl, HB1.out⟩
end Go.Proofs.YtofehcpapdlcnabGreatDoor

namespace Go.Proofs.YtofehcpapdlcnabGreatDoor
open Go.RowKit

theorem own_typesS {w : World} {b1 b2 s1 s2 n m b : Nat} {T1 T2 : TypeId} {v u : Value} {xs ys : List Value} (h1 : w.ownsRow b1 T1 s1 v n xs) (h2 : w.ownsRow b2 T2 s2 u m ys) (hT : ¬ T1 = T2) (e1 : v.ownBlock = some b) (e2 : u.ownBlock = some b) : False := by
  obtain ⟨_, ⟨rfl, _⟩ | ⟨g, cap, cur, rfl, _, hh, _⟩⟩ := h1
  · cases e1
  · obtain ⟨_, ⟨rfl, _⟩ | ⟨g', cap', cur', rfl, _, hh', _⟩⟩ := h2
    · cases e2
    · cases e1
      cases e2
      have hh1 : w.heap[g]? = some (.cells cur T1 (0, 0)) := hh
      have hh2 : w.heap[g]? = some (.cells cur' T2 (0, 0)) := hh'
      rw [hh1] at hh2
      injection hh2 with hh2
      injection hh2 with _ e
      exact hT e
theorem own_lenS {w : World} {base n size : Nat} {e : TypeId} {v : Value} {xs : List Value} (h : w.ownsRow base e size v n xs) : ∃ A c, v = .slice A n c := by
  rcases h.2 with ⟨rfl, rfl⟩ | ⟨g, cap, cur, rfl, _⟩
  · exact ⟨_, _, rfl⟩
  · exact ⟨_, _, rfl⟩
theorem own_lowS {w : World} {base base' n size : Nat} {e : TypeId} {v : Value} {xs : List Value} (h : w.ownsRow base e size v n xs) (hb : base' ≤ base) : w.ownsRow base' e size v n xs := by
  obtain ⟨hl, h | ⟨g, cap, cur, rfl, hg, r⟩⟩ := h
  · exact ⟨hl, .inl h⟩
  · exact ⟨hl, .inr ⟨g, cap, cur, rfl, by omega, r⟩⟩
/-- a slice of signed numbers of the call's own, all of it from B on, no two limbs' slices on one block -/
def RowS (B : Nat) (u : Value) (l : List SI) (W : World) : Prop :=
  ∃ e : List (Bool × Value), W.ownsRow B 29 2 u l.length (flatC e) ∧ e.length = l.length ∧ (∀ (j : Nat) x p, l[j]? = some x → e[j]? = some p → p.1 = x.1 ∧ W.ownsRow B 3 1 p.2 x.2.length (intsV x.2)) ∧ ∀ (i j : Nat) p q b, e[i]? = some p → e[j]? = some q → p.2.ownBlock = some b → q.2.ownBlock = some b → i = j
theorem rowS_nil (B : Nat) (W : World) : RowS B (.slice none 0 0) [] W := ⟨[], World.ownsRow_nil _ _ _ _, rfl, fun j x p hx => by simp at hx, fun i j p q b hp => by simp at hp⟩
theorem RowS.stays {B : Nat} {u : Value} {l : List SI} {w w' : World} (h : RowS B u l w) (hk : ∀ i, B ≤ i → i < w.heap.size → w'.heap[i]? = w.heap[i]?) : RowS B u l w' := by
  obtain ⟨e, h1, h2, h3, h4⟩ := h
  refine ⟨e, own_stays h1 fun g hg => hk g (own_lt h1 hg).1 (own_lt h1 hg).2, h2, fun j x p hx hp => ?_, h4⟩
  obtain ⟨a1, a5⟩ := h3 j x p hx hp
  exact ⟨a1, own_stays a5 fun g hg => hk g (own_lt a5 hg).1 (own_lt a5 hg).2⟩
theorem RowS.below {B : Nat} {u : Value} {l : List SI} {w w' : World} (h : RowS B u l w) (hb : Below w.heap.size w w') : RowS B u l w' := h.stays fun i _ hi => hb.block i hi
theorem RowS.ownR {B : Nat} {v : Value} {l : List SI} {w : World} (h : RowS B v l w) : OwnR w v l := by
  obtain ⟨e, h4, hlen, h5, _⟩ := h
  obtain ⟨A, c, rfl⟩ := own_lenS h4
  refine ⟨A, c, rfl, fun j x hj => ?_⟩
  have hjl := (List.getElem?_eq_some_iff.1 hj).1
  obtain ⟨g, cap, ev, _, hg, _⟩ := own_form h4 (by omega)
  cases ev
  obtain ⟨p, hp⟩ : ∃ p, e[j]? = some p := ⟨_, List.getElem?_eq_getElem (by omega)⟩
  obtain ⟨e0, ho⟩ := h5 j x p hj hp
  have hf := flatC_get hp
  rw [e0] at hf
  refine ⟨⟨g, 0, none⟩, p.2, rfl, hg, ?_, ?_, own_zero ho⟩
  · have := h4.cellAt (j * 2) (by omega)
    rw [hf.1] at this
    rw [add_own]
    exact this
  · have := h4.cellAt (j * 2 + 1) (by omega)
    rw [hf.2] at this
    rw [add_own]
    exact this
/-- behind an append -/
theorem rowS_snoc {B N : Nat} {l : List SI} {e : List (Bool × Value)} {x : SI} {u un v2 : Value} {W1 W2 : World} (hl : e.length = l.length) (h1 : W1.ownsRow B 29 2 u l.length (flatC e)) (h3 : ∀ (j : Nat) y p, l[j]? = some y → e[j]? = some p → p.1 = y.1 ∧ W1.ownsRow B 3 1 p.2 y.2.length (intsV y.2))
    (h4 : ∀ (i j : Nat) p q b, e[i]? = some p → e[j]? = some q → p.2.ownBlock = some b → q.2.ownBlock = some b → i = j) (hN : ∀ p ∈ e, ∀ b, p.2.ownBlock = some b → b < N) (on : W1.ownsRow N 3 1 un x.2.length (intsV x.2)) (hBN : B ≤ N)
    (ho2 : W2.ownsRow B 29 2 v2 (l.length + 1) (flatC e ++ [.bool x.1, un])) (hg : W1.grownBy W2 u.ownBlock) : RowS B v2 (l ++ [x]) W2 := by
  have keep : ∀ {B' n : Nat} {v : Value} {ys : List Value}, W1.ownsRow B' 3 1 v n ys → W2.ownsRow B' 3 1 v n ys := fun o => own_stays o fun g hv => hg.block g (own_lt o hv).2 fun e => own_typesS h1 o (by decide) e.symm hv
  refine ⟨e ++ [(x.1, un)], by rw [List.length_append, flatC_append]; exact ho2, by rw [List.length_append, List.length_append, hl]; rfl, fun j y p hy hp => ?_, fun i j p q b hp hq hpb hqb => ?_⟩
  · by_cases hj : j < l.length
    · rw [List.getElem?_append_left hj] at hy
      rw [List.getElem?_append_left (by omega)] at hp
      obtain ⟨a1, a5⟩ := h3 j y p hy hp
      exact ⟨a1, keep a5⟩
    · rw [List.getElem?_append_right (by omega)] at hy hp
      have hj0 : j - l.length = 0 := by have := (List.getElem?_eq_some_iff.1 hy).1; simp at this; omega
      rw [hj0] at hy
      rw [hl, hj0] at hp
      cases hy
      cases hp
      exact ⟨rfl, own_lowS (keep on) hBN⟩
  · have hin : ∀ (i : Nat) p, (e ++ [(x.1, un)])[i]? = some p → (i < e.length ∧ e[i]? = some p) ∨ (i = e.length ∧ p.2 = un) := fun i p hp => by
      by_cases hi : i < e.length
      · rw [List.getElem?_append_left hi] at hp
        exact .inl ⟨hi, hp⟩
      · rw [List.getElem?_append_right (by omega)] at hp
        have hi0 : i - e.length = 0 := by have := (List.getElem?_eq_some_iff.1 hp).1; simp at this; omega
        rw [hi0] at hp
        cases hp
        exact .inr ⟨by omega, rfl⟩
    rcases hin i p hp with ⟨_, hp⟩ | ⟨hi, ep⟩ <;> rcases hin j q hq with ⟨_, hq⟩ | ⟨hj, eq⟩
    · exact h4 i j p q b hp hq hpb hqb
    · exfalso
      rw [eq] at hqb
      have := hN p (List.mem_of_getElem? hp) b hpb
      have := (own_lt on hqb).1
      omega
    · exfalso
      rw [ep] at hpb
      have := hN q (List.mem_of_getElem? hq) b hqb
      have := (own_lt on hpb).1
      omega
    · omega
/-- a slice as far as it is built, and one more: with its cells in view -/
theorem rowS_open {B : Nat} {u : Value} {l : List SI} {w : World} (h : RowS B u l w) : ∃ e : List (Bool × Value), w.ownsRow B 29 2 u l.length (flatC e) ∧ ∀ (W1 W2 : World) (N : Nat) (x : SI) (un v2 : Value), (∀ i, i < w.heap.size → W1.heap[i]? = w.heap[i]?) → w.heap.size ≤ N → B ≤ N → W1.ownsRow N 3 1 un x.2.length (intsV x.2) →
    W2.ownsRow B 29 2 v2 (l.length + 1) (flatC e ++ [.bool x.1, un]) → W1.grownBy W2 u.ownBlock → RowS B v2 (l ++ [x]) W2 := by
  obtain ⟨e, h1, h2, h3, h4⟩ := h
  refine ⟨e, h1, fun W1 W2 N x un v2 hW hN hBN on ho2 hg => ?_⟩
  refine rowS_snoc h2 (own_stays h1 fun i hi => hW i (own_lt h1 hi).2) (fun j y p hy hp => ?_) h4 (fun p hp b hb => ?_) on hBN ho2 hg
  · obtain ⟨a1, a5⟩ := h3 j y p hy hp
    exact ⟨a1, own_stays a5 fun i hi => hW i (own_lt a5 hi).2⟩
  · obtain ⟨j, hj⟩ := List.mem_iff_getElem?.1 hp
    obtain ⟨y, hy⟩ : ∃ y, l[j]? = some y := ⟨_, List.getElem?_eq_getElem (by have := (List.getElem?_eq_some_iff.1 hj).1; omega)⟩
    have := (own_lt (h3 j y p hy hj).2 hb).2
    omega
theorem rowS_len {B : Nat} {u : Value} {l : List SI} {w : World} (h : RowS B u l w) : ∃ A c, u = .slice A l.length c := by
  obtain ⟨_, h1, _⟩ := h
  exact own_lenS h1
theorem flatC_set2 {e : List (Bool × Value)} {k : Nat} (h : k < e.length) (c : Bool) (u : Value) : ((flatC e).set (k * 2) (.bool c)).set (k * 2 + 1) u = flatC (e.set k (c, u)) := by
  induction e generalizing k with
  | nil => exact absurd h (Nat.not_lt_zero _)
  | cons q e ih =>
    cases k with
    | zero => rfl
    | succ k =>
      have := ih (k := k) (by simpa using h)
      rw [show (k + 1) * 2 = k * 2 + 1 + 1 by omega, List.set_cons_succ]
      show _ = _ :: _ :: flatC (e.set k _)
      rw [← this]
      rfl
/-- another number in place k: its cells are written, its limbs are new -/
theorem rowS_set {B N k g c : Nat} {l : List SI} {x : SI} {un : Value} {W0 W : World} (h : RowS B (.slice (some ⟨g, 0, none⟩) l.length c) l W0) (hk : k < l.length) (hW : ∀ i, i < W0.heap.size → W.heap[i]? = W0.heap[i]?) (hN0 : W0.heap.size ≤ N)
    (on : W.ownsRow N 3 1 un x.2.length (intsV x.2)) (hBN : B ≤ N) :
    RowS B (.slice (some ⟨g, 0, none⟩) l.length c) (l.set k x) ((W.setCell ⟨g, k * 2, none⟩ (.bool x.1)).setCell ⟨g, k * 2 + 1, none⟩ un) := by
  obtain ⟨e, h01, h2, h03, h4⟩ := h
  have hN : ∀ p ∈ e, ∀ b, p.2.ownBlock = some b → b < N := fun p hp b hb => by
    obtain ⟨j, hj⟩ := List.mem_iff_getElem?.1 hp
    obtain ⟨y, hy⟩ : ∃ y, l[j]? = some y := ⟨_, List.getElem?_eq_getElem (by have := (List.getElem?_eq_some_iff.1 hj).1; omega)⟩
    have := (own_lt (h03 j y p hy hj).2 hb).2
    omega
  have h1 := own_stays h01 fun i hi => hW i (own_lt h01 hi).2
  have h3 : ∀ (j : Nat) y p, l[j]? = some y → e[j]? = some p → p.1 = y.1 ∧ W.ownsRow B 3 1 p.2 y.2.length (intsV y.2) := fun j y p hy hp => by
    obtain ⟨a1, a5⟩ := h03 j y p hy hp
    exact ⟨a1, own_stays a5 fun i hi => hW i (own_lt a5 hi).2⟩
  have hc : Chg [g] W ((W.setCell ⟨g, k * 2, none⟩ (.bool x.1)).setCell ⟨g, k * 2 + 1, none⟩ un) := ((Chg.refl _ _).setCell (by simp) _).setCell (by simp) _
  obtain ⟨o1, _⟩ := h1.stored (k * 2) (.bool x.1)
  obtain ⟨o2, _⟩ := o1.stored (k * 2 + 1) un
  rw [flatC_set2 (by omega)] at o2
  have keep : ∀ {B' n : Nat} {v : Value} {ys : List Value}, W.ownsRow B' 3 1 v n ys → ((W.setCell ⟨g, k * 2, none⟩ (.bool x.1)).setCell ⟨g, k * 2 + 1, none⟩ un).ownsRow B' 3 1 v n ys :=
    fun o => own_stays o fun b hv => hc.block b (own_lt o hv).2 fun hm => own_typesS h1 o (by decide) (by rw [List.mem_singleton.1 hm]; rfl) hv
  refine ⟨e.set k (x.1, un), by rw [List.length_set]; exact o2, by rw [List.length_set, List.length_set, h2], fun j y p hy hp => ?_, fun i j p q b hp hq hpb hqb => ?_⟩
  · by_cases hj : k = j
    · subst hj
      rw [List.getElem?_set_self hk] at hy
      rw [List.getElem?_set_self (by omega)] at hp
      cases hy
      cases hp
      exact ⟨rfl, own_lowS (keep on) hBN⟩
    · rw [List.getElem?_set_ne hj] at hy hp
      obtain ⟨a1, a5⟩ := h3 j y p hy hp
      exact ⟨a1, keep a5⟩
  · have hin : ∀ (i : Nat) p, (e.set k (x.1, un))[i]? = some p → (¬ k = i ∧ e[i]? = some p) ∨ (k = i ∧ p.2 = un) := fun i p hp => by
      by_cases hi : k = i
      · subst hi
        rw [List.getElem?_set_self (by omega)] at hp
        cases hp
        exact .inr ⟨rfl, rfl⟩
      · rw [List.getElem?_set_ne hi] at hp
        exact .inl ⟨hi, hp⟩
    rcases hin i p hp with ⟨_, hp⟩ | ⟨hi, ep⟩ <;> rcases hin j q hq with ⟨_, hq⟩ | ⟨hj, eq⟩
    · exact h4 i j p q b hp hq hpb hqb
    · exfalso
      rw [eq] at hqb
      have := hN p (List.mem_of_getElem? hp) b hpb
      have := (own_lt on hqb).1
      omega
    · exfalso
      rw [ep] at hpb
      have := hN q (List.mem_of_getElem? hq) b hqb
      have := (own_lt on hpb).1
      omega
    · omega

/-- the cells of a slice of fractions -/
def flatQ : List (Bool × Value × Value) → List Value
  | [] => []
  | p :: r => .bool p.1 :: p.2.1 :: p.2.2 :: flatQ r
theorem flatQ_length (e : List (Bool × Value × Value)) : (flatQ e).length = e.length * 3 := by
  induction e with
  | nil => rfl
  | cons p r ih => show (flatQ r).length + 1 + 1 + 1 = (r.length + 1) * 3; omega
theorem flatQ_append (e f : List (Bool × Value × Value)) : flatQ (e ++ f) = flatQ e ++ flatQ f := by
  induction e with
  | nil => rfl
  | cons p r ih => show _ :: _ :: _ :: flatQ (r ++ f) = _; rw [ih]; rfl
theorem flatQ_get {e : List (Bool × Value × Value)} {j : Nat} {p : Bool × Value × Value} (h : e[j]? = some p) : (flatQ e)[j * 3]? = some (.bool p.1) ∧ (flatQ e)[j * 3 + 1]? = some p.2.1 ∧ (flatQ e)[j * 3 + 2]? = some p.2.2 := by
  induction e generalizing j with
  | nil => simp at h
  | cons q r ih =>
    cases j with
    | zero =>
      have : q = p := by simpa using h
      subst this
      exact ⟨rfl, rfl, rfl⟩
    | succ j =>
      have := ih (j := j) (by simpa using h)
      rw [show (j + 1) * 3 = j * 3 + 1 + 1 + 1 by omega]
      exact this
/-- a slice of fractions, its cells of the call's own, its limbs whosever they are -/
def RowQ (B : Nat) (u : Value) (l : List QI) (W : World) : Prop :=
  ∃ e : List (Bool × Value × Value), W.ownsRow B 63 3 u l.length (flatQ e) ∧ e.length = l.length ∧ ∀ (j : Nat) x p, l[j]? = some x → e[j]? = some p → p.1 = x.1.1 ∧ OwnQ (.agg #[.bool x.1.1, p.2.1, p.2.2]) x W
theorem rowQ_nil (B : Nat) (W : World) : RowQ B (.slice none 0 0) [] W := ⟨[], World.ownsRow_nil _ _ _ _, rfl, fun j x p hx => by simp at hx⟩
theorem RowQ.below {B : Nat} {u : Value} {l : List QI} {w w' : World} (h : RowQ B u l w) (hb : Below w.heap.size w w') : RowQ B u l w' := by
  obtain ⟨e, h1, h2, h3⟩ := h
  refine ⟨e, own_below h1 hb, h2, fun j x p hx hp => ?_⟩
  obtain ⟨a1, a5⟩ := h3 j x p hx hp
  exact ⟨a1, a5.below hb⟩
theorem rowQ_len {B : Nat} {u : Value} {l : List QI} {w : World} (h : RowQ B u l w) : ∃ A c, u = .slice A l.length c := by
  obtain ⟨_, h1, _⟩ := h
  exact own_lenS h1
theorem RowQ.ownQR {B : Nat} {v : Value} {l : List QI} {w : World} (h : RowQ B v l w) : OwnQR w v l := by
  obtain ⟨e, h4, hlen, h5⟩ := h
  obtain ⟨A, c, rfl⟩ := own_lenS h4
  refine ⟨A, c, rfl, fun j x hj => ?_⟩
  have hjl := (List.getElem?_eq_some_iff.1 hj).1
  obtain ⟨g, cap, ev, _, hg, _⟩ := own_form h4 (by omega)
  cases ev
  obtain ⟨p, hp⟩ : ∃ p, e[j]? = some p := ⟨_, List.getElem?_eq_getElem (by omega)⟩
  obtain ⟨e0, ho⟩ := h5 j x p hj hp
  have hf := flatQ_get hp
  rw [e0] at hf
  refine ⟨⟨g, 0, none⟩, p.2.1, p.2.2, rfl, hg, ?_, ?_, ?_, ho⟩
  · have := h4.cellAt (j * 3) (by omega)
    rw [hf.1] at this
    rw [add_own]
    exact this
  · have := h4.cellAt (j * 3 + 1) (by omega)
    rw [hf.2.1] at this
    rw [add_own]
    exact this
  · have := h4.cellAt (j * 3 + 2) (by omega)
    rw [hf.2.2] at this
    rw [add_own]
    exact this
/-- a fraction's limbs stay where a row of another kind grows -/
theorem ownQ_grown {B n s : Nat} {T : TypeId} {u v : Value} {xs : List Value} {x : QI} {W1 W2 : World} (h1 : W1.ownsRow B T s u n xs) (hT : ¬ T = 3) (hg : W1.grownBy W2 u.ownBlock) (h : OwnQ v x W1) : OwnQ v x W2 := by
  obtain ⟨u1, d1, rfl, o1, o2, ap⟩ := h
  exact ⟨u1, d1, rfl, own_stays o1 fun g hv => hg.block g (own_lt o1 hv).2 (fun e => own_typesS h1 o1 hT e.symm hv), own_stays o2 fun g hv => hg.block g (own_lt o2 hv).2 (fun e => own_typesS h1 o2 hT e.symm hv), ap⟩
/-- a slice of fractions as far as it is built, and one more: with its cells in view -/
theorem rowQ_open {B : Nat} {u : Value} {l : List QI} {w : World} (h : RowQ B u l w) : ∃ e : List (Bool × Value × Value), w.ownsRow B 63 3 u l.length (flatQ e) ∧ ∀ (W1 W2 : World) (x : QI) (un dn v2 : Value), (∀ i, i < w.heap.size → W1.heap[i]? = w.heap[i]?) → w.heap.size ≤ W1.heap.size → OwnQ (.agg #[.bool x.1.1, un, dn]) x W1 →
    W2.ownsRow B 63 3 v2 (l.length + 1) (flatQ e ++ [.bool x.1.1, un, dn]) → W1.grownBy W2 u.ownBlock → RowQ B v2 (l ++ [x]) W2 := by
  obtain ⟨e, h1, h2, h3⟩ := h
  refine ⟨e, h1, fun W1 W2 x un dn v2 hW hz on ho2 hg => ?_⟩
  have h1' := own_stays h1 fun i hi => hW i (own_lt h1 hi).2
  refine ⟨e ++ [(x.1.1, un, dn)], by rw [List.length_append, flatQ_append]; exact ho2, by rw [List.length_append, List.length_append, h2]; rfl, fun j y p hy hp => ?_⟩
  by_cases hj : j < l.length
  · rw [List.getElem?_append_left hj] at hy
    rw [List.getElem?_append_left (by omega)] at hp
    obtain ⟨a1, u1, d1, ev, o1, o2, ap⟩ := h3 j y p hy hp
    refine ⟨a1, ownQ_grown h1' (by decide) hg ⟨u1, d1, ev, own_stays o1 fun i hi => hW i (own_lt o1 hi).2, own_stays o2 fun i hi => hW i (own_lt o2 hi).2, ap⟩⟩
  · rw [List.getElem?_append_right (by omega)] at hy hp
    have hj0 : j - l.length = 0 := by have := (List.getElem?_eq_some_iff.1 hy).1; simp at this; omega
    rw [hj0] at hy
    rw [h2, hj0] at hp
    cases hy
    cases hp
    exact ⟨rfl, ownQ_grown h1' (by decide) hg on⟩
theorem flatQ_set3 {e : List (Bool × Value × Value)} {k : Nat} (h : k < e.length) (c : Bool) (u d : Value) : (((flatQ e).set (k * 3) (.bool c)).set (k * 3 + 1) u).set (k * 3 + 2) d = flatQ (e.set k (c, u, d)) := by
  induction e generalizing k with
  | nil => exact absurd h (Nat.not_lt_zero _)
  | cons q e ih =>
    cases k with
    | zero => rfl
    | succ k =>
      have := ih (k := k) (by simpa using h)
      rw [show (k + 1) * 3 = k * 3 + 1 + 1 + 1 by omega, List.set_cons_succ]
      show _ = _ :: _ :: _ :: flatQ (e.set k _)
      rw [← this]
      rfl
/-- another fraction in place k -/
theorem rowQ_set {B k g c : Nat} {l : List QI} {x : QI} {un dn : Value} {W0 W : World} (h : RowQ B (.slice (some ⟨g, 0, none⟩) l.length c) l W0) (hk : k < l.length) (hW : ∀ i, i < W0.heap.size → W.heap[i]? = W0.heap[i]?) (on : OwnQ (.agg #[.bool x.1.1, un, dn]) x W) :
    RowQ B (.slice (some ⟨g, 0, none⟩) l.length c) (l.set k x) (((W.setCell ⟨g, k * 3, none⟩ (.bool x.1.1)).setCell ⟨g, k * 3 + 1, none⟩ un).setCell ⟨g, k * 3 + 2, none⟩ dn) := by
  obtain ⟨e, h01, h2, h03⟩ := h
  have h1 := own_stays h01 fun i hi => hW i (own_lt h01 hi).2
  have hc : Chg [g] W (((W.setCell ⟨g, k * 3, none⟩ (.bool x.1.1)).setCell ⟨g, k * 3 + 1, none⟩ un).setCell ⟨g, k * 3 + 2, none⟩ dn) := (((Chg.refl _ _).setCell (by simp) _).setCell (by simp) _).setCell (by simp) _
  obtain ⟨o1, _⟩ := h1.stored (k * 3) (.bool x.1.1)
  obtain ⟨o2, _⟩ := o1.stored (k * 3 + 1) un
  obtain ⟨o3, _⟩ := o2.stored (k * 3 + 2) dn
  rw [flatQ_set3 (by omega)] at o3
  have keep : ∀ {v : Value} {y : QI}, OwnQ v y W → OwnQ v y (((W.setCell ⟨g, k * 3, none⟩ (.bool x.1.1)).setCell ⟨g, k * 3 + 1, none⟩ un).setCell ⟨g, k * 3 + 2, none⟩ dn) := fun {v y} h => by
    obtain ⟨u1, d1, rfl, p1, p2, ap⟩ := h
    exact ⟨u1, d1, rfl, own_stays p1 fun b hv => hc.block b (own_lt p1 hv).2 (fun hm => own_typesS h1 p1 (by decide) (by rw [List.mem_singleton.1 hm]; rfl) hv), own_stays p2 fun b hv => hc.block b (own_lt p2 hv).2 (fun hm => own_typesS h1 p2 (by decide) (by rw [List.mem_singleton.1 hm]; rfl) hv), ap⟩
  refine ⟨e.set k (x.1.1, un, dn), by rw [List.length_set]; exact o3, by rw [List.length_set, List.length_set, h2], fun j y p hy hp => ?_⟩
  by_cases hj : k = j
  · subst hj
    rw [List.getElem?_set_self hk] at hy
    rw [List.getElem?_set_self (by omega)] at hp
    cases hy
    cases hp
    exact ⟨rfl, keep on⟩
  · rw [List.getElem?_set_ne hj] at hy hp
    obtain ⟨a1, u1, d1, ev, p1, p2, ap⟩ := h03 j y p hy hp
    exact ⟨a1, keep ⟨u1, d1, ev, own_stays p1 fun i hi => hW i (own_lt p1 hi).2, own_stays p2 fun i hi => hW i (own_lt p2 hi).2, ap⟩⟩
end Go.Proofs.YtofehcpapdlcnabGreatDoor

namespace Go.Proofs.YtofehcpapdlcnabGreatDoor
open Go.RowKit

set_option maxHeartbeats 2000000 in
set_option maxRecDepth 100000 in
theorem specDivBig60_any (va vb : Value) (a b : List Int) (la ha lb hb_ : Nat) (w : World) (hal : a.length ≤ 60) (hbl : b.length ≤ 50) (hb2 : 2 ≤ b.length) (hha : ha ≤ w.heap.size) (hhb : hb_ ≤ w.heap.size) (oa : DigN a) (ob : DigN b ∧ b.getLastD 1 ≠ 0)
    (hra : Row w la ha va (intsV a)) (hrb : Row w lb hb_ vb (intsV b)) :
    Calls Tryz.prog 109 #[va, vb] w (TwoRows (limbs (nval a / nval b).toNat) (limbs (nval a % nval b).toNat) w) := by
  obtain ⟨i0, hi0, hz0, hz1, hz2⟩ := info_parts intInfo
  have hD : 0 < nval b := by
    have h1 := nval_ge b ob.1 ob.2 (by omega)
    have h2 := bp_pos (b.length - 1)
    omega
  have hra0 := hra
  have hrb0 := hrb
  obtain ⟨A, c, rfl, hA⟩ := hra
  obtain ⟨B, d, rfl, hB⟩ := hrb
  rw [intsV_length] at hra0 hrb0 ⊢
  rw [intsV_length]
  have HA := Lib.hid hA
  have OA := Lib.hid oa
  have OB := Lib.hid ob
  have HDP := Lib.hid hD
  have hmk := make_ints a.length (by omega)
  have hb1 : ((b.length : Int) == 1) = false := by rw [beq_eq_false_iff_ne]; omega
  clear hA hB oa ob hD
  go_enter Tryz.func109, Tryz.ntmps109
  go_wp2
  go_loopw [9, 10] (fun v i wr => ∃ k : Nat, k ≤ a.length ∧ i = .int .i64 ((k : Int) - 1) ∧ DivS w a (nval b) k v wr) (fun _ i _ => (intOf i + 1).toNat)
  case atStart =>
    refine ⟨a.length, Nat.le_refl _, rfl, 0, [], DivR.start a (nval b), ?_, ?_, ((Below.refl _ _).alloc (Nat.le_refl _) _).alloc (by simp) _⟩
    · have h := World.ownsRow_lit (e := 3) (size := 1) (base := w.heap.size) w (madeCells #[.int .i64 0] a.length) a.length (Nat.le_refl _) (by unfold maxLen; omega) (by rw [size_madeCells, Nat.mul_one])
      rw [toList_madeCells_one] at h
      exact own_alloc (by simpa [intsV] using h) _
    · rw [show limbs (0 : Int).toNat = [] from limbs_none]
      have h := World.ownsRow_made (w.alloc (.cells (madeCells #[.int .i64 0] a.length) 3)) (e := 3) (size := 1) (base := w.heap.size + 1) #[] 0 (by simp) (Nat.zero_le _) rfl
      simpa [intsV] using h
  case round =>
    obtain ⟨k, hk, rfl, R, qs, hR, hout, hrest, hb⟩ := hrel
    have hRb := hR.bound HDP.out
    have hR0 := hRb.1
    have HR := Lib.hid hR
    have HRB := Lib.hid hRb
    clear hR hRb
    have hsz := hb.size
    have hsz2 : w.heap.size < wr.heap.size := (own_lt hout (g := w.heap.size) rfl).2
    by_cases hz : 0 < k
    · obtain ⟨j, rfl⟩ : ∃ j, k = j + 1 := ⟨k - 1, by omega⟩
      have hlt : j < a.length := by omega
      obtain ⟨p, rfl, _, hpb, hca⟩ := HA.out j _ (intsV_at a j hlt)
      have hca' : wr.cell? (p.add j) = some (.int .i64 a[j]) := (hb.cell (by rw [block_add]; omega)).trans hca
      have hda := OA.out.at_ j hlt
      have hm1 : ((j + 1 : Nat) : Int) - 1 = (j : Int) := by omega
      rw [hm1]
      have HDN := Lib.hid (down_limb hda.1 hda.2 hR0)
      have hrl : (limbs R.toNat).length ≤ 50 := limbs_length_le _ 50 (by
        have h1 := nval_lt b OB.out.1
        have h2 := bp_mono hbl
        have := HRB.out
        omega)
      have hown0 : (wr.alloc (.cells #[.int .i64 a[j]] 3)).ownsRow (w.heap.size + 1) 3 1 (.slice (some ⟨wr.heap.size, 0, none⟩) 1 1) 1 [.int .i64 a[j]] :=
        ⟨rfl, .inr ⟨wr.heap.size, 1, _, rfl, by omega, heap_alloc_new wr _, Nat.le_refl _, by unfold maxLen; omega, rfl, rfl⟩⟩
      clear hm1 hz hca
      go_wp2_with (at_builtin; refine append_owned rfl _ _ 22 rfl (w.heap.size + 1) 3 i0 (.int .i64 0) 8 Tryz.underlying22 hi0 hz0 hz1 hz2 rfl (.slice (some ⟨wr.heap.size, 0, none⟩) 1 1) 1 [.int .i64 a[j]] rfl hown0 _ _ _ _ _ rfl (own_alloc hrest _) ?c2 ?c3 ?c4 ?c5 ?_)
      case c2 => intro u hu; obtain ⟨x, _, rfl⟩ := List.mem_map.1 hu; rfl
      case c3 => unfold maxLen; omega
      case c4 => omega
      case c5 => simp; omega
      intro v1 w1 hown1 hg1
      have hown2 : w1.ownsRow (w.heap.size + 1) 3 1 v1 (a[j] :: limbs R.toNat).length (intsV (a[j] :: limbs R.toNat)) := by
        rw [List.length_cons, Nat.add_comm (limbs R.toNat).length]
        exact hown1
      have hout1 := own_apart (own_alloc hout _) hg1 (fun g k hg hk => by simp [Value.ownBlock] at hg hk; omega)
      have hbb1 : Below w.heap.size w w1 := (hb.alloc hsz _).grown hg1 (by simp; omega) (fun k hk => by cases hk; exact hsz)
      clear hown0 hown1 hg1 hout hrest
      go_wp2_with fail
      refine (specTrim_any v1 (a[j] :: limbs R.toNat) (w.heap.size + 1) _ (by simp; omega) hown2).mono ?_
      rintro e w2 ⟨rfl, v2, rfl, ho2⟩
      rw [HDN.out] at ho2
      clear hown2
      have hda0 := hda.1
      have hda1 := hda.2
      have HN := Lib.hid (HR.out.next HDP.out OA.out hlt)
      have HDG := Lib.hid (HR.out.digit HDP.out OA.out hlt)
      have hqsl := Lib.hid HR.out.2.2.2
      have HBD : Hid (R * 1000000000 + a[j] < 1000000000 * nval b) := Lib.hid (by have := HRB.out.2; omega)
      obtain ⟨N, HNE⟩ : ∃ N, Hid (N = R * 1000000000 + a[j]) := ⟨_, Lib.hid rfl⟩
      rw [← HNE.out] at ho2 HN HDG HBD
      have hN0 : 0 ≤ N := by rw [HNE.out]; omega
      have HNV := Lib.hid (limbs_toNat N hN0)
      have hnl : (limbs N.toNat).length ≤ 51 := limbs_length_le _ 51 (by
        have h1 := nval_lt b OB.out.1
        have h2 := bp_mono hbl
        have h3 : bp 51 = 1000000000 * bp 50 := rfl
        have := HBD.out
        omega)
      have hsz1 := hbb1.size
      have r2 := Row.of_own ho2
      go_wp2_with fail
      refine (specCmp_any v2 _ (limbs N.toNat) b _ _ lb hb_ _ (by omega) (by omega) ⟨limbs_digN _, limbs_lastN _⟩ OB.out r2 (hrb0.below hbb1 hhb)).mono ?_
      rintro e w3 ⟨rfl, q3, rfl⟩
      rw [HNV.out]
      have hout3 := own_drew hout1 q3
      have ho3 := own_drew ho2 q3
      have hbb3 := below_drewN hbb1 q3
      clear r2 hout1 ho2
      by_cases hless : N < nval b
      · have HC := Lib.hid (cmp_lt hless)
        have HS : Hid (DivS w a (nval b) j v2 (w1.drewN q3)) := Lib.hid (by
          have h := HN.out
          rw [Int.emod_eq_of_lt hN0 hless, Int.ediv_eq_zero_of_lt hN0 hless] at h
          refine ⟨N, 0 :: qs, h, ?_, ho3, hbb3⟩
          rw [show List.replicate j (0 : Int) ++ 0 :: qs = List.replicate (j + 1) 0 ++ qs by rw [List.replicate_succ', List.append_assoc]; rfl]
          exact hout3)
        clear hless
        rw [HC.out]
        go_wp2
        exact ⟨⟨j, by omega, rfl, HS.out⟩, by simp [intOf]⟩
      · have hcd : ¬ cmpI N (nval b) < 0 := by unfold cmpI; rw [if_neg hless]; split <;> omega
        have HG := Lib.hid (show nval b ≤ N by omega)
        clear hless
        go_wp2_with fail
        refine (specDigit_any v2 _ (limbs N.toNat) b _ _ lb hb_ _ (by omega) hbl (Nat.le_refl _) (by have := hbb3.size; omega) ⟨limbs_digN _, limbs_lastN _⟩ OB.out HDP.out (by rw [HNV.out]; exact HBD.out) (Row.of_own ho3) (hrb0.below hbb3 hhb)).mono ?_
        rintro e w4 ⟨rfl, b4⟩
        rw [HNV.out]
        have hout4 := own_below hout3 b4
        have ho4 := own_below ho3 b4
        have hbb4 : Below w.heap.size w w4 := Below.next hbb3 b4
        have hq0 := HDG.out.1
        have hq1 := HDG.out.2
        obtain ⟨q, HQE⟩ : ∃ q, Hid (q = N / nval b) := ⟨_, Lib.hid rfl⟩
        rw [← HQE.out] at hq0 hq1 HN ⊢
        have hlen : (List.replicate (j + 1) (0 : Int) ++ qs).length = a.length := by have := hqsl.out; simp; omega
        obtain ⟨cu, hcell⟩ : ∃ u, w4.cell? ⟨w.heap.size, j, none⟩ = some u := ⟨_, (hout4.cellAt j (by omega)).trans (List.getElem?_eq_getElem (by rw [intsV_length, hlen]; exact hlt))⟩
        have hfr := hout4.frozenAt j
        obtain ⟨hout5, hg5⟩ := hout4.stored j (.int .i64 q)
        rw [intsV_set, zeros_set] at hout5
        have ho5 := own_apart ho4 hg5 (fun g k hg hk => by cases hk; have := (own_lt ho4 hg).1; omega)
        have hbb5 := hbb4.grown hg5 hbb4.size (fun g hg => by cases hg; exact Nat.le_refl _)
        clear hout3 ho3 hbb3 hout4 ho4 hg5 hlen hcd hb hbb1
        go_wp2_with fail
        refine (specNatOf_any q _ (by omega)).mono ?_
        rintro e w6 ⟨v6, rfl, o6, b6⟩
        have hbb6 : Below w.heap.size w w6 := Below.next hbb5 b6
        have hout6 := own_below hout5 b6
        have ho6 := own_below ho5 b6
        clear hout5 ho5 hbb5 hbb4
        go_wp2_with fail
        refine (specMulV_any _ v6 b (limbs q.toNat) lb hb_ _ _ _ hbl (Nat.le_trans (limbs_length_le _ 1 (by show ((q.toNat : Nat) : Int) < 1000000000 * 1; omega)) (by decide)) (by have := hbb6.size; omega) (Nat.le_refl _) OB.out.1 (limbs_digN _) (hrb0.below hbb6 hhb) (Row.of_own o6)).mono ?_
        rintro e w7 ⟨v7, rfl, o7, b7⟩
        rw [limbs_toNat q hq0] at o7
        have hbb7 : Below w.heap.size w w7 := Below.next hbb6 b7
        have hout7 := own_below hout6 b7
        have ho7 := own_below ho6 b7
        clear hout6 ho6 hbb6 o6
        have HP : Hid (0 ≤ nval b * q ∧ nval b * q ≤ N ∧ N - nval b * q = N % nval b) := Lib.hid (by
          have h1 := Int.emod_add_mul_ediv N (nval b)
          have h2 := Int.emod_nonneg N (show nval b ≠ 0 by have := HDP.out; omega)
          rw [← HQE.out] at h1
          exact ⟨Int.mul_nonneg (by have := HDP.out; omega) hq0, by omega, by omega⟩)
        go_wp2_with fail
        refine (specSubV_any v2 v7 (limbs N.toNat) (limbs (nval b * q).toNat) _ _ _ _ _ (by omega) (limbs_mono HP.out.1 HP.out.2.1) (Nat.le_refl _) (Nat.le_refl _) (limbs_digN _) (limbs_digN _) (by rw [HNV.out, limbs_toNat _ HP.out.1]; exact HP.out.2.1) (Row.of_own ho7) (Row.of_own o7)).mono ?_
        rintro e w8 ⟨v8, rfl, o8, b8⟩
        rw [HNV.out, limbs_toNat _ HP.out.1, HP.out.2.2] at o8
        have HS : Hid (DivS w a (nval b) j v8 w8) := Lib.hid ⟨_, _, HN.out, own_below hout7 b8, own_base o8 (by have := (own_lt hout7 (g := w.heap.size) rfl).2; omega), Below.next hbb7 b8⟩
        clear hout7 ho7 o7 o8
        go_wp2
        exact ⟨⟨j, by omega, rfl, HS.out⟩, by simp [intOf]⟩
    · obtain rfl : k = 0 := by omega
      have HF := Lib.hid HR.out.done
      have hql : qs.length = a.length := by have := HR.out.2.2.2; omega
      have hqb : qs.length ≤ 60 := by omega
      have HT := Lib.hid (fun W : World => specTrim_at (some ⟨w.heap.size, 0, none⟩) a.length qs w.heap.size W (by omega))
      have HO : Hid (wr.ownsRow w.heap.size 3 1 (.slice (some ⟨w.heap.size, 0, none⟩) a.length a.length) a.length (intsV qs)) := Lib.hid (by simpa using hout)
      rw [hql] at HT
      clear hql hout hqb
      go_wp2_with fail
      refine (HT.out _ HO.out).mono ?_
      rintro e w2 ⟨rfl, rfl, ho2⟩
      rw [HF.out.1] at ho2 ⊢
      go_wp2
      go_ret2
      refine ⟨_, _, rfl, ho2, ?_, ?_, hb⟩
      · rw [← HF.out.2]
        exact own_base hrest (by omega)
      · intro x y hx hy
        have h1 := (own_lt hrest hy).1
        have h2 : w.heap.size = x := by simpa [Value.ownBlock] using hx
        omega
theorem specDiv60_any (va vb : Value) (a b : List Int) (la ha lb hb_ : Nat) (w : World) (hal : a.length ≤ 60) (hbl : b.length ≤ 50) (hb0 : 0 < b.length) (hha : ha ≤ w.heap.size) (hhb : hb_ ≤ w.heap.size) (oa : DigN a) (ob : DigN b ∧ b.getLastD 1 ≠ 0)
    (hra : Row w la ha va (intsV a)) (hrb : Row w lb hb_ vb (intsV b)) :
    Calls Tryz.prog 109 #[va, vb] w (TwoRows (limbs (nval a / nval b).toNat) (limbs (nval a % nval b).toNat) w) := by
  by_cases h1 : b.length = 1
  · have hv : nval b = b[0] := by
      conv => lhs; rw [one_of_len h1]
      show b[0] + 1000000000 * 0 = _
      omega
    have hd := ob.1.at_ 0 hb0
    have hne : b[0] ≠ 0 := by
      have := ob.2
      rw [one_of_len h1] at this
      simpa using this
    rw [hv]
    exact specDivOne_any va vb a b[0] la ha lb hb_ w (by omega) hha oa (by omega) hd.2 hra (by rw [← one_of_len h1]; exact hrb)
  · exact specDivBig60_any va vb a b la ha lb hb_ w hal hbl (by omega) hha hhb oa ob hra hrb
/-- the state of l05Gcd's loop -/
def GcdR60 (w : World) (G : Nat) (n : Nat) (x y : Value) (wr : World) : Prop :=
  ∃ X Y : Nat, n = Y ∧ Nat.gcd X Y = G ∧ (limbs X).length ≤ 60 ∧ (limbs Y).length ≤ 50 ∧ wr.ownsRow 0 3 1 x (limbs X).length (intsV (limbs X)) ∧ wr.ownsRow 0 3 1 y (limbs Y).length (intsV (limbs Y)) ∧ Below w.heap.size w wr
set_option maxHeartbeats 1000000 in
set_option maxRecDepth 100000 in
theorem l05Gcd60_any (va vb : Value) (X0 Y0 : Nat) (w : World) (hX0 : (limbs X0).length ≤ 60) (hY0 : (limbs Y0).length ≤ 50) (oa : OwnI va (limbs X0) w) (ob : OwnI vb (limbs Y0) w) :
    Calls Tryz.prog 108 #[va, vb] w fun e w' => ∃ v, e = .returned v ∧ OwnI v (limbs (Nat.gcd X0 Y0)) w' ∧ Below w.heap.size w w' := by
  have HS : Hid (GcdR60 w (Nat.gcd X0 Y0) Y0 va vb w) := Lib.hid ⟨X0, Y0, rfl, rfl, hX0, hY0, oa, ob, Below.refl _ _⟩
  clear oa ob
  go_enter Tryz.func108, Tryz.ntmps108
  go_wp2
  go_loopg [5, 6] Y0 (fun n x y wr => GcdR60 w (Nat.gcd X0 Y0) n x y wr)
  case atStart => exact HS.out
  case round =>
    clear HS hX0 hY0
    obtain ⟨X, Y, hn, hG, hX, hY, ox, oy, hb⟩ := hrel
    have HNE := Lib.hid hn
    have HG := Lib.hid hG
    clear hn hG
    have oy0 := oy
    obtain ⟨B, c, rfl⟩ := own_len oy
    by_cases hpos : 0 < (limbs Y).length
    · have hY0 := limbs_some hpos
      go_wp2_with fail
      refine (specDiv60_any _ _ (limbs X) (limbs Y) _ _ _ _ _ hX hY hpos (Nat.le_refl _) (Nat.le_refl _) (limbs_digN _) ⟨limbs_digN _, limbs_lastN _⟩ (Row.of_own ox) (Row.of_own oy0)).mono ?_
      rintro e w3 ⟨v3, v4, rfl, o3, o4, _, b3⟩
      rw [limbs_val, limbs_val, show ((X : Int) % (Y : Int)).toNat = X % Y by omega] at o4
      have HS2 : Hid (GcdR60 w (Nat.gcd X0 Y0) (X % Y) (.slice B (limbs Y).length c) v4 w3) := Lib.hid ⟨Y, X % Y, rfl, by rw [gcd_step]; exact HG.out, Nat.le_trans hY (by decide), limbs_mod_len X Y hY hY0, own_below oy0 b3, own_zero o4, Below.next hb b3⟩
      clear ox oy oy0 o3 o4
      go_wp2
      go_roundg (X % Y)
      case measure => rw [HNE.out]; exact Nat.mod_lt X hY0
      case rel => exact HS2.out
    · have hY0 := Lib.hid (limbs_empty hpos)
      have HF : Hid (X = Nat.gcd X0 Y0) := Lib.hid (by have := HG.out; rw [hY0.out, Nat.gcd_zero_right] at this; exact this)
      go_wp2
      go_ret
      exact ⟨_, rfl, by rw [← HF.out]; exact ox, hb⟩
set_option maxHeartbeats 1000000 in
set_option maxRecDepth 100000 in
theorem l05Low60_any (n : Bool) (va vb : Value) (X Y : Nat) (w : World) (hX : (limbs X).length ≤ 60) (hY : (limbs Y).length ≤ 50) (oa : OwnI va (limbs X) w) (ob : OwnI vb (limbs Y) w) :
    Calls Tryz.prog 71 #[.bool n, va, vb] w (PostQb (lowQ n X Y).1 (lowQ n X Y).2 w) := by
  obtain ⟨i0, hi0, hz0, hz1, hz2⟩ := info_parts intInfo
  have bb0 := below_al (Below.refl w.heap.size w) (.cells #[.bool false, .slice none 0 0, .slice none 0 0] 63)
  have kr := box_new w #[.bool false, .slice none 0 0, .slice none 0 0] 63
  have oa1 := own_up oa bb0
  have ob1 := own_up ob bb0
  clear oa ob
  go_enter Tryz.func71, Tryz.ntmps71
  go_wp2_with fail
  refine (specTrim_any _ _ _ _ (by omega) oa1).mono ?_
  rintro e w1 ⟨rfl, v1, rfl, o1⟩
  rw [trim_ok] at o1
  go_wp2_with fail
  refine (specTrim_any _ _ _ _ (by omega) ob1).mono ?_
  rintro e w1 ⟨rfl, v2, rfl, o2⟩
  rw [trim_ok] at o2
  obtain ⟨A1, c1, rfl⟩ := own_len o1
  obtain ⟨A2, c2, rfl⟩ := own_len o2
  clear oa1 ob1
  by_cases hy : 0 < (limbs Y).length
  · have h1 : (((limbs Y).length : Int) == 0) = false := by rw [beq_eq_false_iff_ne]; omega
    have hY0 := limbs_some hy
    go_wp2_with fail
    refine (l05Gcd60_any _ _ X Y _ hX hY o1 o2).mono ?_
    rintro e w3 ⟨v3, rfl, o3, b3⟩
    have bb3 := Below.next bb0 b3
    replace kr := kr.below b3
    replace o1 := own_up o1 b3
    replace o2 := own_up o2 b3
    have HG := Lib.hid (Nat.gcd_pos_of_pos_right X hY0)
    have hgl : (limbs (Nat.gcd X Y)).length ≤ 50 := by
      have := limbs_mono (m := ((Nat.gcd X Y : Nat) : Int)) (n := (Y : Int)) (by omega) (by have := Nat.gcd_le_right X hY0; omega)
      rw [Int.toNat_natCast, Int.toNat_natCast] at this
      omega
    have hg0 : 0 < (limbs (Nat.gcd X Y)).length := by
      rcases Nat.eq_zero_or_pos (limbs (Nat.gcd X Y)).length with h | h
      · have := (limbs_zero_iff _).1 h
        have := HG.out
        omega
      · exact h
    have HLOW := Lib.hid (show lowQ n X Y = if (limbs (X / Nat.gcd X Y)).length ≤ 18 ∧ (limbs (Y / Nat.gcd X Y)).length ≤ 18 then ((mkS n (limbs (X / Nat.gcd X Y)), limbs (Y / Nat.gcd X Y)), true) else (zeroQ, false) by unfold lowQ; simp [show Y ≠ 0 by omega])
    clear hy hY0
    go_wp2_with fail
    refine (specDiv60_any _ _ (limbs X) (limbs (Nat.gcd X Y)) _ _ _ _ _ hX hgl hg0 (Nat.le_refl _) (Nat.le_refl _) (limbs_digN _) ⟨limbs_digN _, limbs_lastN _⟩ (Row.of_own o1) (Row.of_own o3)).mono ?_
    rintro e w4 ⟨v4, v5, rfl, o4, o5, _, b4⟩
    rw [limbs_val, limbs_val, div_toNat] at o4
    have bb4 := Below.next bb3 b4
    replace kr := kr.below b4
    replace o2 := own_up o2 b4
    replace o3 := own_up o3 b4
    clear o1 o5
    go_wp2_with fail
    refine (specDiv60_any _ _ (limbs Y) (limbs (Nat.gcd X Y)) _ _ _ _ _ (Nat.le_trans hY (by decide)) hgl hg0 (Nat.le_refl _) (Nat.le_refl _) (limbs_digN _) ⟨limbs_digN _, limbs_lastN _⟩ (Row.of_own o2) (Row.of_own o3)).mono ?_
    rintro e w5 ⟨v6, v7, rfl, o6, o7, _, b5⟩
    rw [limbs_val, limbs_val, div_toNat] at o6
    have bb5 := Below.next bb4 b5
    replace kr := kr.below b5
    replace o4 := own_up o4 b5
    obtain ⟨A4, c4, rfl⟩ := own_len o4
    obtain ⟨A6, c6, rfl⟩ := own_len o6
    clear o2 o3 o7 hg0 hgl
    have hz5 := b5.size
    have hz4 := b4.size
    have hz3 := b3.size
    by_cases hp : (limbs (X / Nat.gcd X Y)).length ≤ 18
    · have h2 : decide ((18 : Int) < ((limbs (X / Nat.gcd X Y)).length : Int)) = false := decide_eq_false (by omega)
      by_cases hq : (limbs (Y / Nat.gcd X Y)).length ≤ 18
      · have h3 : decide ((18 : Int) < ((limbs (Y / Nat.gcd X Y)).length : Int)) = false := decide_eq_false (by omega)
        have HV := Lib.hid (show lowQ n X Y = ((mkS n (limbs (X / Nat.gcd X Y)), limbs (Y / Nat.gcd X Y)), true) by rw [HLOW.out, if_pos ⟨hp, hq⟩])
        go_wp2_with fail
        refine (l04Make_any n _ (limbs (X / Nat.gcd X Y)) _ _ (by omega) o4).mono ?_
        rintro e w6 ⟨u6, rfl, o8, b6⟩
        rw [trim_ok] at o8 ⊢
        have bb6 := Below.next bb5 b6
        replace kr := kr.below b6
        replace o6 := own_up o6 b6
        obtain ⟨A8, c8, rfl⟩ := own_len o8
        clear hp h2 h3 o4
        have HONE := Lib.hid oneCells
        go_wp2_with (at_builtin; refine append_row rfl _ _ 22 rfl w6.heap.size 3 i0 (.int .i64 0) 8 Tryz.underlying22 hi0 hz0 hz1 hz2 rfl _ 0 [] rfl (World.ownsRow_made w6 #[] 0 (Nat.le_refl _) (Nat.zero_le _) rfl) _ _ _ (intsV (limbs (Y / Nat.gcd X Y))) rfl ((Row.of_own o6).below (below_al (Below.refl _ _) _) (Nat.le_refl _)) (own_noCap o6) (HONE.out _) ?c3 ?c4 ?c5 ?_)
        case c3 => rw [intsV_length]; unfold maxLen; omega
        case c4 => rw [intsV_length]; omega
        case c5 => simp
        intro v9 w7 o9 g9
        have b7 : Below w6.heap.size w6 w7 := ((Below.refl _ w6).alloc (Nat.le_refl _) _).grown g9 (by simp) (fun k hk => by cases hk; exact Nat.le_refl _)
        have bb7 := Below.next bb6 b7
        have hz6 := b6.size
        replace kr := kr.below b7
        have hap : ∀ g, (Value.slice A8 (mkS n (limbs (X / Nat.gcd X Y))).2.length c8).ownBlock = some g → v9.ownBlock ≠ some g := fun g h1 h2 => by
          have := (own_lt o8 h1).2
          have := (own_lt o9 h2).1
          omega
        replace o8 := own_up o8 b7
        replace o9 : w7.ownsRow w6.heap.size 3 1 v9 (limbs (Y / Nat.gcd X Y)).length (intsV (limbs (Y / Nat.gcd X Y))) := by simpa [intsV_length] using o9
        obtain ⟨A9, c9, rfl⟩ := own_len o9
        have cz0 := kr.here.cell 0 _ rfl
        have cz1 := kr.here.cell 1 _ rfl
        have cz2 := kr.here.cell 2 _ rfl
        have fz0 := Lib.frozen_of_heap kr.here 0
        have fz1 := Lib.frozen_of_heap kr.here 1
        have fz2 := Lib.frozen_of_heap kr.here 2
        have HR := Lib.hid (newQb_ret (x := (mkS n (limbs (X / Nat.gcd X Y)), limbs (Y / Nat.gcd X Y))) (b := true) kr.here o8 o9 hap bb5.size bb6.size (Nat.le_refl _) bb7)
        clear g9 b7 hap o8 o9 o6 kr HONE hq
        go_wp2
        refine bodyPost_ret (v := .tuple #[.agg #[.bool _, .slice A8 _ c8, .slice A9 _ c9], .bool true]) (by simp [results, Tryz.results71, go_sem, cz0, cz1, cz2]; exact ⟨rfl, rfl, rfl⟩) rfl ?_
        rw [HV.out]
        exact HR.out
      · have h3 : decide ((18 : Int) < ((limbs (Y / Nat.gcd X Y)).length : Int)) = true := decide_eq_true (by omega)
        have HV := Lib.hid (show lowQ n X Y = (zeroQ, false) by rw [HLOW.out, if_neg (fun h => hq h.2)])
        have cz0 := kr.here.cell 0 _ rfl
        have cz1 := kr.here.cell 1 _ rfl
        have cz2 := kr.here.cell 2 _ rfl
        have fz0 := Lib.frozen_of_heap kr.here 0
        have fz1 := Lib.frozen_of_heap kr.here 1
        have fz2 := Lib.frozen_of_heap kr.here 2
        clear hp hq o4 o6 kr
        go_wp2
        refine bodyPost_ret (v := .tuple #[.agg #[.bool false, .slice none 0 0, .slice none 0 0], .bool false]) (by simp [results, Tryz.results71, go_sem, cz0, cz1, cz2]) rfl ?_
        rw [HV.out]
        exact newQb_zero _ (below_set3 bb5 (Nat.le_refl _))
    · have h2 : decide ((18 : Int) < ((limbs (X / Nat.gcd X Y)).length : Int)) = true := decide_eq_true (by omega)
      have HV := Lib.hid (show lowQ n X Y = (zeroQ, false) by rw [HLOW.out, if_neg (fun h => hp h.1)])
      have cz0 := kr.here.cell 0 _ rfl
      have cz1 := kr.here.cell 1 _ rfl
      have cz2 := kr.here.cell 2 _ rfl
      have fz0 := Lib.frozen_of_heap kr.here 0
      have fz1 := Lib.frozen_of_heap kr.here 1
      have fz2 := Lib.frozen_of_heap kr.here 2
      clear hp o4 o6 kr
      go_wp2
      refine bodyPost_ret (v := .tuple #[.agg #[.bool false, .slice none 0 0, .slice none 0 0], .bool false]) (by simp [results, Tryz.results71, go_sem, cz0, cz1, cz2]) rfl ?_
      rw [HV.out]
      exact newQb_zero _ (below_set3 bb5 (Nat.le_refl _))
  · have h1 : (((limbs Y).length : Int) == 0) = true := by rw [beq_iff_eq]; omega
    have HV := Lib.hid (show lowQ n X Y = (zeroQ, false) by unfold lowQ; simp [limbs_empty hy])
    have cz0 := kr.here.cell 0 _ rfl
    have cz1 := kr.here.cell 1 _ rfl
    have cz2 := kr.here.cell 2 _ rfl
    have fz0 := Lib.frozen_of_heap kr.here 0
    have fz1 := Lib.frozen_of_heap kr.here 1
    have fz2 := Lib.frozen_of_heap kr.here 2
    clear hy o1 o2 kr
    go_wp2
    refine bodyPost_ret (v := .tuple #[.agg #[.bool false, .slice none 0 0, .slice none 0 0], .bool false]) (by simp [results, Tryz.results71, go_sem, cz0, cz1, cz2]) rfl ?_
    rw [HV.out]
    exact newQb_zero _ bb0
end Go.Proofs.YtofehcpapdlcnabGreatDoor

namespace Go.Proofs.YtofehcpapdlcnabGreatDoor
open Go.RowKit

set_option maxHeartbeats 4000000 in
set_option maxRecDepth 100000 in
theorem specFairShare_any (v vw : Value) (x : SI) (ws : List Int) (i : Int) (lo hi : Nat) (w : World) (hlx : x.2.length ≤ 1048576) (hlw : ws.length ≤ 1048576) (hhi : hi ≤ w.heap.size) (h : OwnS v x w) (hr : Row w lo hi vw (intsV ws)) :
    Calls Tryz.prog 39 #[v, vw, .int .i64 i] w (PostQb (fairR x ws i).1 (fairR x ws i).2 w) := by
  have Hx := Lib.hid h
  obtain ⟨Ax, cx, rfl⟩ := ownS_form h
  have OSx := Lib.hid (show ∀ W, Below w.heap.size w W → OwnS (.agg #[.bool x.1, .slice Ax x.2.length cx]) x W from fun W hb => OwnS.below Hx.out hb)
  have OUx := Lib.hid (show ∀ W, Below w.heap.size w W → OwnI (.slice Ax x.2.length cx) x.2 W from fun W hb => ownS_open (OSx.out W hb))
  clear h Hx
  have HR0 := Lib.hid hr
  obtain ⟨Aw, cw, rfl, hA⟩ := hr
  rw [intsV_length] at HR0 ⊢
  have HRW := Lib.hid (show ∀ W, Below w.heap.size w W → Row W lo hi (.slice Aw ws.length cw) (intsV ws) from fun W hb => Row.below HR0.out hb hhi)
  have HA := Lib.hid hA
  clear hA HR0
  have bb0 : Below w.heap.size w ((w.alloc (.cells #[.bool x.1, .slice Ax x.2.length cx] 29)).alloc (.cells #[.bool false, .slice none 0 0, .slice none 0 0] 63)) := below_al (below_al (Below.refl _ _) _) _
  have kx := (box_new w #[.bool x.1, .slice Ax x.2.length cx] 29).below (below_al (Below.refl _ _) (.cells #[.bool false, .slice none 0 0, .slice none 0 0] 63))
  have ko := (box_new (w.alloc (.cells #[.bool x.1, .slice Ax x.2.length cx] 29)) #[.bool false, .slice none 0 0, .slice none 0 0] 63)
  rw [show (w.alloc (.cells #[.bool x.1, .slice Ax x.2.length cx] 29)).heap.size = w.heap.size + 1 by simp] at ko
  obtain ⟨⟨R, r⟩, hHR⟩ : ∃ q, fairR x ws i = q := ⟨_, rfl⟩
  have EN := Lib.hid (show ¬ (okW ws = true ∧ (0 ≤ i ∧ i < ws.length) ∧ okS x = true) → (R, r) = (zeroQ, false) from fun h => by rw [← hHR]; exact fair_no h)
  rw [hHR]
  go_enter Tryz.func39, Tryz.ntmps39
  go_wp2_with fail
  refine ((specWeightsOk_any _ ws lo hi _ (by omega) (HRW.out _ bb0)).mono fun _ _ h => same_below h).mono ?_
  rintro e w1 ⟨rfl, b1⟩
  have bb1 := Below.next bb0 b1
  replace kx := kx.below b1
  replace ko := ko.below b1
  obtain ⟨ow, how⟩ : ∃ b, okW ws = b := ⟨_, rfl⟩
  rw [how]
  have HOW := Lib.hid how
  clear how
  cases ow with
  | false =>
    clear hHR
    obtain ⟨rfl, rfl⟩ : R = zeroQ ∧ r = false := by have h := EN.out (fun hh => by have := hh.1; rw [HOW.out] at this; cases this); injection h with h1 h2; exact ⟨h1, h2⟩
    have HW := Lib.hid (newQb_zeroS (T := [w.heap.size + 1]) (fun i hi => by simp at hi; omega) bb1)
    have cz0 := ko.here.cell 0 _ rfl
    have fz0 := Lib.frozen_of_heap ko.here 0
    have cz1 := ko.here.cell 1 _ rfl
    have fz1 := Lib.frozen_of_heap ko.here 1
    have cz2 := ko.here.cell 2 _ rfl
    have fz2 := Lib.frozen_of_heap ko.here 2
    clear ko kx
    go_wp2
    refine bodyPost_ret (v := .tuple #[.agg #[.bool false, .slice none 0 0, .slice none 0 0], .bool false]) (by simp [results, Tryz.results39, go_sem, cz0, cz1, cz2]) rfl ?_
    refine HW.out _ ?_
    repeat (first | with_reducible exact Chg.refl _ _ | with_reducible refine Chg.setCell ?_ (by simp) _ | with_reducible refine Chg.drew1 ?_ | with_reducible refine Chg.trans ?_ (Chg.of_below (below_al (Below.refl _ _) _)))
  | true =>
    by_cases hin : 0 ≤ i ∧ i < ws.length
    · have hin2 : decide ((0 : Int) ≤ i ∧ i ≤ (ws.length : Int) - 1) = true := decide_eq_true (by omega)
      obtain ⟨k, rfl⟩ : ∃ k : Nat, i = (k : Int) := ⟨i.toNat, by omega⟩
      have hk : k < ws.length := by omega
      have hPW := okW_parts HOW.out
      have HPW := Lib.hid hPW
      have hl30 := hPW.l2
      have hall := HPW.out.all
      have hwk := hall _ (List.getElem_mem hk)
      have hat := (HPW.out.at_ hk).1
      have hsum := HPW.out.sum
      have HALL := Lib.hid (show ws.all wtB = true from List.all_eq_true.2 fun y hy => decide_eq_true (HPW.out.all y hy))
      clear hPW hall
      obtain ⟨aw, rfl, _, hab, hca⟩ := HA.out k _ (intsV_at ws k hk)
      have CWF := Lib.hid (show ∀ W, Below w.heap.size w W → W.cell? (aw.add k) = some (.int .i64 ws[k]) from fun W hb => (hb.cell (by rw [block_add]; omega)).trans hca)
      clear hca
      go_wp2_with fail
      refine ((specIn_any _ _ _ true _ hin2).mono fun _ _ h => same_below h).mono ?_
      rintro e w2 ⟨rfl, b2⟩
      have bb2 := Below.next bb1 b2
      replace kx := kx.below b2
      replace ko := ko.below b2
      have kx_c0 := kx.here.cell 0 _ rfl
      have kx_c1 := kx.here.cell 1 _ rfl
      go_wp2_with fail
      clear kx_c0 kx_c1
      refine (specIntOk_any _ x _ hlx (OwnS.rd (OSx.out _ bb2))).mono ?_
      rintro e w3 ⟨rfl, b3⟩
      have bb3 := Below.next bb2 b3
      replace kx := kx.below b3
      replace ko := ko.below b3
      obtain ⟨ok, hok⟩ : ∃ b, okS x = b := ⟨_, rfl⟩
      rw [hok]
      have HOK := Lib.hid hok
      clear hok
      cases ok with
      | false =>
        clear hHR
        obtain ⟨rfl, rfl⟩ : R = zeroQ ∧ r = false := by have h := EN.out (fun hh => by have := hh.2.2; rw [HOK.out] at this; cases this); injection h with h1 h2; exact ⟨h1, h2⟩
        have HW := Lib.hid (newQb_zeroS (T := [w.heap.size + 1]) (fun i hi => by simp at hi; omega) bb3)
        have cz0 := ko.here.cell 0 _ rfl
        have fz0 := Lib.frozen_of_heap ko.here 0
        have cz1 := ko.here.cell 1 _ rfl
        have fz1 := Lib.frozen_of_heap ko.here 1
        have cz2 := ko.here.cell 2 _ rfl
        have fz2 := Lib.frozen_of_heap ko.here 2
        clear ko kx
        go_wp2
        refine bodyPost_ret (v := .tuple #[.agg #[.bool false, .slice none 0 0, .slice none 0 0], .bool false]) (by simp [results, Tryz.results39, go_sem, cz0, cz1, cz2]) rfl ?_
        refine HW.out _ ?_
        repeat (first | with_reducible exact Chg.refl _ _ | with_reducible refine Chg.setCell ?_ (by simp) _ | with_reducible refine Chg.drew1 ?_ | with_reducible refine Chg.trans ?_ (Chg.of_below (below_al (Below.refl _ _) _)))
      | true =>
        have EV := Lib.hid (show lowQ x.1 ((nval x.2).toNat * (natW ws)[k]!) (natW ws).sum = (R, r) by rw [← hHR, fair_yes HOW.out hk HOK.out])
        clear hHR EN
        have hp := okS_parts HOK.out
        have hl50 := (natOk_parts hp.1).2.1
        have HDG := Lib.hid (natOk_parts hp.1).1
        have HX1 := Lib.hid (show (nval x.2 * nval (limbs ws[k].toNat)).toNat = (nval x.2).toNat * (natW ws)[k]! by rw [limbs_val, Int.toNat_mul (nval_ok hp.1) (by omega)]; congr 1; omega)
        have hlk : (limbs ws[k].toNat).length ≤ 2 := limbs_length_le _ 2 (by have e : bp 2 = 1000000000000000000 := rfl; omega)
        have HL1 := Lib.hid (show (limbs ((nval x.2).toNat * (natW ws)[k]!)).length ≤ 60 from limbs_length_le _ 60 (by have h1 := nval_lt _ HDG.out; have h2 := bp_mono hl50; have h3 := mul_lt (a := (nval x.2).toNat) (b := (natW ws)[k]!) (i := 50) (j := 2) (by have := nval_ok hp.1; omega) (by have e : bp 2 = 1000000000000000000 := rfl; have := (HPW.out.at_ hk).2; omega); have h4 : bp (50 + 2) ≤ bp 60 := bp_mono (by omega); omega))
        have HLT := Lib.hid (show (limbs (natW ws).sum).length ≤ 50 from Nat.le_trans (natW_len2 HPW.out) (by decide))
        have HTS := Lib.hid (show ws.sum.toNat = (natW ws).sum by have := HPW.out.sum; omega)
        clear hp
        obtain ⟨X1, hX1⟩ : ∃ X, X = (nval x.2).toNat * (natW ws)[k]! := ⟨_, rfl⟩
        rw [← hX1] at EV HX1 HL1
        clear hX1
        have hko := ko.lt (w.heap.size + 1) (by simp)
        have kx_c0 := kx.here.cell 0 _ rfl
        have kx_c1 := kx.here.cell 1 _ rfl
        have hca := CWF.out _ bb3
        go_wp2_with fail
        clear hca
        have HC0 := Lib.hid (show Chg [w.heap.size + 1] w3 w3.drew from (Chg.refl _ _).drew1)
        have HCr := Lib.hid (show Chg [w.heap.size + 1] w3 w3 from Chg.refl _ _)
        have KL := Lib.hid (show ∀ W, Chg [w.heap.size + 1] w3 W → W.cell? ⟨w.heap.size, 0, none⟩ = some (.bool x.1) ∧ W.cell? ⟨w.heap.size, 1, none⟩ = some (.slice Ax x.2.length cx) ∧ W.cell? (aw.add k) = some (.int .i64 ws[k]) ∧ Hid (Chg [w.heap.size + 1] w3 W) from fun W hc => ⟨(kx.chg hc (fun i hi hm => by simp at hi hm; omega)).here.cell 0 _ rfl, (kx.chg hc (fun i hi hm => by simp at hi hm; omega)).here.cell 1 _ rfl, CWF.out W (below_chg bb3 hc bb3.size (fun i hi => by simp at hi; omega)), Lib.hid hc⟩)
        have BBF := Lib.hid (show ∀ W, Chg [w.heap.size + 1] w3 W → Below w.heap.size w W from fun W hc => below_chg bb3 hc bb3.size (fun i hi => by simp at hi; omega))
        clear kx_c0 kx_c1
        go_region_held3 (fun W => W.cell? ⟨w.heap.size, 0, none⟩ = some (.bool x.1) ∧ W.cell? ⟨w.heap.size, 1, none⟩ = some (.slice Ax x.2.length cx) ∧ W.cell? (aw.add k) = some (.int .i64 ws[k]) ∧ Hid (Chg [w.heap.size + 1] w3 W))
          ((refine KL.out _ ?_; (first | exact HC8.out | exact HC7.out | exact HC6.out | exact HC5.out | exact HC4.out | exact HCr.out | exact HC0.out | exact HC8.out.drew1 | exact HC7.out.drew1 | exact HC6.out.drew1 | exact HC5.out.drew1 | exact HC4.out.drew1 | exact HCr.out.drew1 | exact HC0.out.drew1 | exact HC8.out.trans (Chg.of_below (below_al (Below.refl _ _) _)) | exact HC7.out.trans (Chg.of_below (below_al (Below.refl _ _) _)) | exact HC6.out.trans (Chg.of_below (below_al (Below.refl _ _) _)) | exact HC5.out.trans (Chg.of_below (below_al (Below.refl _ _) _)) | exact HC4.out.trans (Chg.of_below (below_al (Below.refl _ _) _)) | exact HCr.out.trans (Chg.of_below (below_al (Below.refl _ _) _)) | exact HC0.out.trans (Chg.of_below (below_al (Below.refl _ _) _)) | exact (Chg.setCell HC8.out (by simp) _) | exact (Chg.setCell (Chg.setCell HC8.out (by simp) _) (by simp) _) | exact (Chg.setCell (Chg.setCell (Chg.setCell HC8.out (by simp) _) (by simp) _) (by simp) _) | fail)))
          (first
            | (go_at_call 73; (have hBB := (‹_ ∧ _ ∧ _ ∧ Hid (Chg [w.heap.size + 1] w3 _)›).2.2.2); (with_reducible refine ((specNatOf_any ws[k] _ (by omega)).mono fun _ _ h => h.newV).mono ?_); rintro e w4 ⟨u1, S1, rfl, o1, l1, b4⟩; have HC4 := Lib.hid (hBB.out.trans (Chg.of_below b4)); (have ko_4 := At.below (by first | exact ko | exact At.below ko (below_al (Below.refl _ _) _) | exact At.below (At.below ko (below_al (Below.refl _ _) _)) (below_al (Below.refl _ _) _) | exact At.move ko (fun _ _ => rfl) (Nat.le_refl _) | exact At.below (At.move (w' := w3.drew) ko (fun _ _ => rfl) (Nat.le_refl _)) (below_al (Below.refl _ _) _)) b4); obtain ⟨A1, c1, rfl⟩ := own_len o1.here; have HBZ4 := Lib.hid hBB.out.size; clear hBB)
            | (go_at_call 72; (have hBB := (‹_ ∧ _ ∧ _ ∧ Hid (Chg [w.heap.size + 1] w3 _)›).2.2.2); (with_reducible refine ((specMulV_any _ _ x.2 (limbs ws[k].toNat) 0 _ 0 _ _ hl50 (by omega) (Nat.le_refl _) (Nat.le_refl _) HDG.out (limbs_digN _) (OUx.out _ (BBF.out _ hBB.out)).row (OwnI.row (At.here (by first | exact o1 | exact At.below o1 (below_al (Below.refl _ _) _) | exact At.below (At.below o1 (below_al (Below.refl _ _) _)) (below_al (Below.refl _ _) _) | exact At.move o1 (fun _ _ => rfl) (Nat.le_refl _) | exact At.below (At.move (w' := w3.drew) o1 (fun _ _ => rfl) (Nat.le_refl _)) (below_al (Below.refl _ _) _))))).mono fun _ _ h => newV_ints h HX1.out).mono ?_); rintro e w5 ⟨u2, S2, rfl, o2, l2, b5⟩; have HC5 := Lib.hid (hBB.out.trans (Chg.of_below b5)); (have ko_5 := At.below (by first | exact ko_4 | exact At.below ko_4 (below_al (Below.refl _ _) _) | exact At.below (At.below ko_4 (below_al (Below.refl _ _) _)) (below_al (Below.refl _ _) _) | exact At.move ko_4 (fun _ _ => rfl) (Nat.le_refl _) | exact At.below (At.move (w' := w3.drew) ko_4 (fun _ _ => rfl) (Nat.le_refl _)) (below_al (Below.refl _ _) _)) b5); (have o1_5 := At.below (by first | exact o1 | exact At.below o1 (below_al (Below.refl _ _) _) | exact At.below (At.below o1 (below_al (Below.refl _ _) _)) (below_al (Below.refl _ _) _) | exact At.move o1 (fun _ _ => rfl) (Nat.le_refl _) | exact At.below (At.move (w' := w3.drew) o1 (fun _ _ => rfl) (Nat.le_refl _)) (below_al (Below.refl _ _) _)) b5); obtain ⟨A2, c2, rfl⟩ := own_len o2.here; have HBZ5 := Lib.hid hBB.out.size; clear hBB)
            | (go_at_call 74; (have hBB := (‹_ ∧ _ ∧ _ ∧ Hid (Chg [w.heap.size + 1] w3 _)›).2.2.2); (with_reducible refine ((specSumW_any _ ws lo hi _ hl30 HALL.out (HRW.out _ (BBF.out _ hBB.out))).mono fun _ _ h => same_below h).mono ?_); rintro e w6 ⟨rfl, b6⟩; have HC6 := Lib.hid (hBB.out.trans (Chg.of_below b6)); (have ko_6 := At.below (by first | exact ko_5 | exact At.below ko_5 (below_al (Below.refl _ _) _) | exact At.below (At.below ko_5 (below_al (Below.refl _ _) _)) (below_al (Below.refl _ _) _) | exact At.move ko_5 (fun _ _ => rfl) (Nat.le_refl _) | exact At.below (At.move (w' := w3.drew) ko_5 (fun _ _ => rfl) (Nat.le_refl _)) (below_al (Below.refl _ _) _)) b6); (have o1_6 := At.below (by first | exact o1_5 | exact At.below o1_5 (below_al (Below.refl _ _) _) | exact At.below (At.below o1_5 (below_al (Below.refl _ _) _)) (below_al (Below.refl _ _) _) | exact At.move o1_5 (fun _ _ => rfl) (Nat.le_refl _) | exact At.below (At.move (w' := w3.drew) o1_5 (fun _ _ => rfl) (Nat.le_refl _)) (below_al (Below.refl _ _) _)) b6); (have o2_6 := At.below (by first | exact o2 | exact At.below o2 (below_al (Below.refl _ _) _) | exact At.below (At.below o2 (below_al (Below.refl _ _) _)) (below_al (Below.refl _ _) _) | exact At.move o2 (fun _ _ => rfl) (Nat.le_refl _) | exact At.below (At.move (w' := w3.drew) o2 (fun _ _ => rfl) (Nat.le_refl _)) (below_al (Below.refl _ _) _)) b6); have HBZ6 := Lib.hid hBB.out.size; clear hBB)
            | (go_at_call 73; (have hBB := (‹_ ∧ _ ∧ _ ∧ Hid (Chg [w.heap.size + 1] w3 _)›).2.2.2); (with_reducible refine ((specNatOf_any ws.sum _ (by omega)).mono fun _ _ h => newV_limbs h HTS.out).mono ?_); rintro e w7 ⟨u4, S4, rfl, o4, l4, b7⟩; have HC7 := Lib.hid (hBB.out.trans (Chg.of_below b7)); (have ko_7 := At.below (by first | exact ko_6 | exact At.below ko_6 (below_al (Below.refl _ _) _) | exact At.below (At.below ko_6 (below_al (Below.refl _ _) _)) (below_al (Below.refl _ _) _) | exact At.move ko_6 (fun _ _ => rfl) (Nat.le_refl _) | exact At.below (At.move (w' := w3.drew) ko_6 (fun _ _ => rfl) (Nat.le_refl _)) (below_al (Below.refl _ _) _)) b7); (have o1_7 := At.below (by first | exact o1_6 | exact At.below o1_6 (below_al (Below.refl _ _) _) | exact At.below (At.below o1_6 (below_al (Below.refl _ _) _)) (below_al (Below.refl _ _) _) | exact At.move o1_6 (fun _ _ => rfl) (Nat.le_refl _) | exact At.below (At.move (w' := w3.drew) o1_6 (fun _ _ => rfl) (Nat.le_refl _)) (below_al (Below.refl _ _) _)) b7); (have o2_7 := At.below (by first | exact o2_6 | exact At.below o2_6 (below_al (Below.refl _ _) _) | exact At.below (At.below o2_6 (below_al (Below.refl _ _) _)) (below_al (Below.refl _ _) _) | exact At.move o2_6 (fun _ _ => rfl) (Nat.le_refl _) | exact At.below (At.move (w' := w3.drew) o2_6 (fun _ _ => rfl) (Nat.le_refl _)) (below_al (Below.refl _ _) _)) b7); obtain ⟨A4, c4, rfl⟩ := own_len o4.here; have HBZ7 := Lib.hid hBB.out.size; clear hBB)
            | (go_at_call 71; (have hBB := (‹_ ∧ _ ∧ _ ∧ Hid (Chg [w.heap.size + 1] w3 _)›).2.2.2); (with_reducible refine ((l05Low60_any x.1 _ _ X1 (natW ws).sum _ HL1.out HLT.out (At.here (by first | exact o2_7 | exact At.below o2_7 (below_al (Below.refl _ _) _) | exact At.below (At.below o2_7 (below_al (Below.refl _ _) _)) (below_al (Below.refl _ _) _) | exact At.move o2_7 (fun _ _ => rfl) (Nat.le_refl _) | exact At.below (At.move (w' := w3.drew) o2_7 (fun _ _ => rfl) (Nat.le_refl _)) (below_al (Below.refl _ _) _))) (At.here (by first | exact o4 | exact At.below o4 (below_al (Below.refl _ _) _) | exact At.below (At.below o4 (below_al (Below.refl _ _) _)) (below_al (Below.refl _ _) _) | exact At.move o4 (fun _ _ => rfl) (Nat.le_refl _) | exact At.below (At.move (w' := w3.drew) o4 (fun _ _ => rfl) (Nat.le_refl _)) (below_al (Below.refl _ _) _)))).mono fun _ _ h => postQb_isS EV.out h).mono ?_); rintro e w8 ⟨u5, S5, rfl, o5, l5, b8⟩; have HC8 := Lib.hid (hBB.out.trans (Chg.of_below b8)); (have ko_8 := At.below (by first | exact ko_7 | exact At.below ko_7 (below_al (Below.refl _ _) _) | exact At.below (At.below ko_7 (below_al (Below.refl _ _) _)) (below_al (Below.refl _ _) _) | exact At.move ko_7 (fun _ _ => rfl) (Nat.le_refl _) | exact At.below (At.move (w' := w3.drew) ko_7 (fun _ _ => rfl) (Nat.le_refl _)) (below_al (Below.refl _ _) _)) b8); (have o1_8 := At.below (by first | exact o1_7 | exact At.below o1_7 (below_al (Below.refl _ _) _) | exact At.below (At.below o1_7 (below_al (Below.refl _ _) _)) (below_al (Below.refl _ _) _) | exact At.move o1_7 (fun _ _ => rfl) (Nat.le_refl _) | exact At.below (At.move (w' := w3.drew) o1_7 (fun _ _ => rfl) (Nat.le_refl _)) (below_al (Below.refl _ _) _)) b8); (have o2_8 := At.below (by first | exact o2_7 | exact At.below o2_7 (below_al (Below.refl _ _) _) | exact At.below (At.below o2_7 (below_al (Below.refl _ _) _)) (below_al (Below.refl _ _) _) | exact At.move o2_7 (fun _ _ => rfl) (Nat.le_refl _) | exact At.below (At.move (w' := w3.drew) o2_7 (fun _ _ => rfl) (Nat.le_refl _)) (below_al (Below.refl _ _) _)) b8); (have o4_8 := At.below (by first | exact o4 | exact At.below o4 (below_al (Below.refl _ _) _) | exact At.below (At.below o4 (below_al (Below.refl _ _) _)) (below_al (Below.refl _ _) _) | exact At.move o4 (fun _ _ => rfl) (Nat.le_refl _) | exact At.below (At.move (w' := w3.drew) o4 (fun _ _ => rfl) (Nat.le_refl _)) (below_al (Below.refl _ _) _)) b8); obtain ⟨A5, c5, B5, d5, rfl⟩ := ownQ_form o5.here; have cz0 := ko_8.here.cell 0 _ rfl; have fz0 := Lib.frozen_of_heap ko_8.here 0; have cz1 := ko_8.here.cell 1 _ rfl; have fz1 := Lib.frozen_of_heap ko_8.here 1; have cz2 := ko_8.here.cell 2 _ rfl; have fz2 := Lib.frozen_of_heap ko_8.here 2; have HBZ8 := Lib.hid hBB.out.size; clear hBB))
        have bb8 := BBF.out _ HC8.out
        replace kx := kx.chg HC8.out (fun i hi hm => by simp at hi hm; omega)
        replace ko := ko_8
        have o1 := o1_8
        have o2 := o2_8
        have o4 := o4_8
        have HW := Lib.hid (newQb_at (r := w.heap.size + 1) (b := r) o5 l5 (by have := HBZ8.out; omega) (by omega) bb8)
        clear o1 o2 o4 o5 l1 l2 l4 l5 ko kx
        go_wp2
        refine bodyPost_ret (v := .tuple #[.agg #[.bool R.1.1, .slice A5 R.1.2.length c5, .slice B5 R.2.length d5], .bool r]) (by simp [results, Tryz.results39, go_sem, cz0, cz1, cz2]) rfl ?_
        exact HW.out
    · have hin2 : decide ((0 : Int) ≤ i ∧ i ≤ (ws.length : Int) - 1) = false := decide_eq_false (by omega)
      have HIN := Lib.hid hin
      clear hHR hin
      go_wp2_with fail
      refine ((specIn_any _ _ _ false _ hin2).mono fun _ _ h => same_below h).mono ?_
      rintro e w2 ⟨rfl, b2⟩
      have bb2 := Below.next bb1 b2
      replace kx := kx.below b2
      replace ko := ko.below b2
      obtain ⟨rfl, rfl⟩ : R = zeroQ ∧ r = false := by have h := EN.out (fun hh => HIN.out hh.2.1); injection h with h1 h2; exact ⟨h1, h2⟩
      have HW := Lib.hid (newQb_zeroS (T := [w.heap.size + 1]) (fun i hi => by simp at hi; omega) bb2)
      have cz0 := ko.here.cell 0 _ rfl
      have fz0 := Lib.frozen_of_heap ko.here 0
      have cz1 := ko.here.cell 1 _ rfl
      have fz1 := Lib.frozen_of_heap ko.here 1
      have cz2 := ko.here.cell 2 _ rfl
      have fz2 := Lib.frozen_of_heap ko.here 2
      clear ko kx
      go_wp2
      refine bodyPost_ret (v := .tuple #[.agg #[.bool false, .slice none 0 0, .slice none 0 0], .bool false]) (by simp [results, Tryz.results39, go_sem, cz0, cz1, cz2]) rfl ?_
      refine HW.out _ ?_
      repeat (first | with_reducible exact Chg.refl _ _ | with_reducible refine Chg.setCell ?_ (by simp) _ | with_reducible refine Chg.drew1 ?_ | with_reducible refine Chg.trans ?_ (Chg.of_below (below_al (Below.refl _ _) _)))
end Go.Proofs.YtofehcpapdlcnabGreatDoor
