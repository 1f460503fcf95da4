/-
  What spec.CutAt and impl.CutAt return: the same pieces, in a row of new memory.
-/
import Derived.Test.YtbpfabicampdkaaGreatDoorJB11
namespace Go.Proofs.YtbpfabicampdkaaGreatDoor
open Go.RowKit


theorem strInfo : (Tryz.prog.info? 9).map (fun i => (i.zero, i.size, i.bytes)) = some (some (.string ⟨#[]⟩), 1, 16) := by kernel_rfl

/-- the pieces, as cells -/
def strsV (l : List ByteArray) : List Value := l.map Value.string

/-- what the loop of CutAt knows at its head -/
def CutRel (s by_ : ByteArray) (w : World) (v st i : Value) (wr : World) : Prop :=
  ∃ k : Nat, k ≤ s.size ∧ i = .int .i64 k ∧ st = .int .i64 (cutsTo s by_ k).2 ∧ wr.ownsRow w.heap.size 9 1 v (cutsTo s by_ k).1.length (strsV (cutsTo s by_ k).1) ∧ Below w.heap.size w wr
theorem cut_step {s by_ : ByteArray} {k : Nat} {w w1 : World} {v1 : Value} (hc : cutsTo s by_ (k + 1) = ((cutsTo s by_ k).1 ++ [s.extract (cutsTo s by_ k).2 k], k + 1)) (hk : k + 1 ≤ s.size)
    (hown : w1.ownsRow w.heap.size 9 1 v1 ((cutsTo s by_ k).1.length + 1) (strsV (cutsTo s by_ k).1 ++ [Value.string (s.extract (cutsTo s by_ k).2 k)])) (hb : Below w.heap.size w w1) :
    CutRel s by_ w v1 (.int .i64 ((k : Int) + 1)) (.int .i64 ((k : Int) + 1)) w1 := by
  refine ⟨k + 1, hk, by go_num, by rw [hc]; go_num, ?_, hb⟩
  rw [hc]
  simpa [strsV] using hown


/-- whether the byte occurs in by from place j on -/
def hitFrom (by_ : ByteArray) (c : UInt8) (j : Nat) : Bool := (by_.data.toList.drop j).contains c
theorem hitFrom_step (by_ : ByteArray) (c : UInt8) (j : Nat) (h : j < by_.size) (hne : ¬ c = by_[j]) : hitFrom by_ c (j + 1) = hitFrom by_ c j := by
  have hd := List.drop_eq_getElem_cons (l := by_.data.toList) (i := j) (by simpa using h)
  have : (c == by_.data.toList[j]'(by simpa using h)) = false := by
    rw [beq_eq_false_iff_ne]
    exact hne
  rw [hitFrom, hitFrom, hd, List.contains_cons, this, Bool.false_or]
theorem hitFrom_here (by_ : ByteArray) (c : UInt8) (j : Nat) (h : j < by_.size) (he : c = by_[j]) : hitFrom by_ c j = true := by
  unfold hitFrom
  rw [List.drop_eq_getElem_cons (by simpa using h), List.contains_cons]
  have : (c == by_.data.toList[j]'(by simpa using h)) = true := by
    rw [beq_iff_eq]
    exact he
  rw [this, Bool.true_or]
theorem hitFrom_end (by_ : ByteArray) (c : UInt8) (j : Nat) (h : ¬ j < by_.size) : hitFrom by_ c j = false := by
  unfold hitFrom
  rw [List.drop_eq_nil_of_le (by simp; omega)]
  rfl
theorem byte_ne {a b : UInt8} (h : ¬ a = b) : ((a.toNat : Int) == (b.toNat : Int)) = false := by
  rw [beq_eq_false_iff_ne]
  intro e
  exact h (UInt8.toNat_inj.1 (by omega))
theorem byte_eq {a b : UInt8} (h : a = b) : ((a.toNat : Int) == (b.toNat : Int)) = true := by rw [h]; simp
theorem own_drewN {w : World} {base size n : Nat} {e : TypeId} {v : Value} {xs : List Value} (h : w.ownsRow base e size v n xs) (q : Nat) : (w.drewN q).ownsRow base e size v n xs := h

set_option maxHeartbeats 800000 in
set_option maxRecDepth 100000 in
theorem specCutAt_any (s by_ : ByteArray) (w : World) (hs : s.size ≤ 1048576) (hy : by_.size ≤ 1048576) :
    Calls Tryz.prog 142 #[.string s, .string by_] w fun e w' => ∃ v, e = .returned v ∧ w'.ownsRow w.heap.size 9 1 v (cutAtB s by_).length (strsV (cutAtB s by_)) ∧ Below w.heap.size w w' := by
  obtain ⟨i0, hi, hz0, hz1, hz2⟩ := info_parts strInfo
  go_enter Tryz.func142, Tryz.ntmps142
  go_wp2
  go_loopw [5, 6, 7] (fun v st i wr => CutRel s by_ w v st i wr) (fun _ _ i _ => s.size - (intOf i).toNat)
  case atStart => exact ⟨0, Nat.zero_le _, rfl, rfl, ⟨rfl, .inr ⟨w.heap.size, 0, #[], rfl, Nat.le_refl _, heap_alloc_new w _, Nat.le_refl _, Nat.zero_le _, rfl, rfl⟩⟩, (Below.refl _ _).alloc (Nat.le_refl _) _⟩
  case round =>
    obtain ⟨k, hk, rfl, rfl, hown, hb⟩ := hrel
    obtain ⟨wo, rfl⟩ : ∃ wo : World, wo = wr := ⟨_, rfl⟩
    have hcl := cutsTo_le s by_ k
    by_cases hlt : k < s.size
    · go_wp2
      go_loopw [5, 6, 8] (fun v1 st1 j wi => ∃ m q : Nat, m ≤ by_.size ∧ j = .int .i64 m ∧ v1 = u5 ∧ st1 = .int .i64 (cutsTo s by_ k).2 ∧ wi = wo.drewN q ∧ Hid (hitFrom by_ s[k] m = hitB by_ s[k])) (fun _ _ j _ => by_.size - (intOf j).toNat)
      case atStart => exact ⟨0, 0, Nat.zero_le _, rfl, rfl, rfl, rfl, Lib.hid rfl⟩
      case round =>
        obtain ⟨m, q, hm, rfl, rfl, rfl, rfl, HH⟩ := hrel
        by_cases hlm : m < by_.size
        · by_cases he : s[k] = by_[m]
          · have heq := byte_eq he
            have HC := Lib.hid (cutsTo_hit s by_ k hlt (by rw [← HH.out]; exact hitFrom_here by_ s[k] m hlm he))
            clear he
            go_wp2
            go_quiet (fail)
            go_wp2_with (at_builtin; refine wpList_append_own _ rfl (.tmp 29) (.tmp 34) 36 rfl w.heap.size 9 i0 (.string ⟨#[]⟩) 1 16 Tryz.underlying36 hi hz0 hz1 hz2 rfl (by decide) _ _ _ rfl (own_alloc (own_drewN hown _) _) ⟨wo.heap.size, 0, none⟩ 1 1 [.string (s.extract (cutsTo s by_ k).2 k)] rfl rfl (one_new _ _ _) ?c2 ?c3 ?c4 ?c5 ?_)
            case c2 => intro u hu; simp at hu; subst hu; rfl
            case c3 => unfold maxLen; omega
            case c4 => omega
            case c5 => have := hb.size; simp; omega
            intro v1 w1 hown1 hg1 _
            have hb1 := below_push (below_drewN hb (q + nq)) (Nat.le_refl _) (own_drewN hown (q + nq)) hg1
            go_wp2
            exact ⟨cut_step HC.out (by omega) hown1 hb1, by simp [intOf]; omega⟩
          · have hne := byte_ne he
            have HS := Lib.hid ((hitFrom_step by_ s[k] m hlm he).trans HH.out)
            clear he
            go_wp2
            go_quiet (fail)
            go_wp2
            exact ⟨⟨m + 1, _, by omega, by go_num, rfl, rfl, rfl, HS⟩, by simp [intOf]; omega⟩
        · have HC := Lib.hid (cutsTo_miss s by_ k hlt (by rw [← HH.out]; exact hitFrom_end by_ s[k] m hlm))
          go_wp2
          exact ⟨⟨k + 1, by omega, by go_num, by rw [HC.out], by rw [HC.out]; exact own_drewN hown q, below_drewN hb q⟩, by simp [intOf]; omega⟩
    · obtain rfl : k = s.size := by omega
      go_wp2_with (at_builtin; refine wpList_append_own _ rfl (.tmp 38) (.tmp 42) 36 rfl w.heap.size 9 i0 (.string ⟨#[]⟩) 1 16 Tryz.underlying36 hi hz0 hz1 hz2 rfl (by decide) _ _ _ rfl (own_alloc hown _) ⟨wo.heap.size, 0, none⟩ 1 1 [.string (s.extract (cutsTo s by_ s.size).2 s.size)] rfl rfl (one_new _ _ _) ?c2 ?c3 ?c4 ?c5 ?_)
      case c2 => intro u hu; simp at hu; subst hu; rfl
      case c3 => unfold maxLen; omega
      case c4 => omega
      case c5 => have := hb.size; simp; omega
      intro v1 w1 hown1 hg1 _
      have hb1 := below_push hb (Nat.le_refl _) hown hg1
      go_wp2
      go_ret
      exact ⟨v1, rfl, by simpa [cutAtB, strsV] using hown1, hb1⟩
/-- the pieces that a contract hands back -/
def Pieces (P : List ByteArray) (w : World) (e : Ending) (w' : World) : Prop := ∃ v, e = .returned v ∧ w'.ownsRow w.heap.size 9 1 v P.length (strsV P) ∧ Below w.heap.size w w'

theorem cutAt_length (s b : ByteArray) (h : s.size ≤ 1048576) : (cutAtB s b).length ≤ 1048577 := by
  have := cutsTo_le s b s.size
  simp [cutAtB]
  omega

set_option maxHeartbeats 400000 in
set_option maxRecDepth 100000 in
theorem specCut_any (s : ByteArray) (w : World) (hs : s.size ≤ 1048576) : Calls Tryz.prog 89 #[.string s] w (Pieces (cutAtB s ⟨#[32]⟩) w) := by
  go_enter Tryz.func89, Tryz.ntmps89
  go_wp2_with fail
  refine (specCutAt_any s ⟨#[32]⟩ _ hs (by decide)).mono ?_
  rintro e w1 ⟨v, rfl, ho, hb⟩
  go_wp2
  go_ret
  exact ⟨v, rfl, ho, hb⟩


/-- the last piece, and those ahead of it -/
def lastB (s : ByteArray) : ByteArray := s.extract (cutsTo s ⟨#[10]⟩ s.size).2 s.size
def firstB (s : ByteArray) : List ByteArray := (cutsTo s ⟨#[10]⟩ s.size).1
/-- the lines of a text -/
def linesB (s : ByteArray) : List ByteArray := if (lastB s).toList.isEmpty = true then firstB s else firstB s ++ [lastB s]
theorem lines_length (s : ByteArray) (h : s.size ≤ 1048576) : (linesB s).length ≤ 1048577 := by
  have := cutsTo_le s ⟨#[10]⟩ s.size
  unfold linesB firstB
  split
  · omega
  · simp; omega
/-- a row of the call's own, its last element left out -/
theorem own_short {w : World} {base g cap n : Nat} {e : TypeId} {xs : List Value} {x : Value} (h : w.ownsRow base e 1 (.slice (some ⟨g, 0, none⟩) (n + 1) cap) (n + 1) (xs ++ [x])) : w.ownsRow base e 1 (.slice (some ⟨g, 0, none⟩) n cap) n xs := by
  obtain ⟨hl, h | ⟨g', cap', cur, e1, hb, hh, hn, hc, hs, ht⟩⟩ := h
  · cases h.1
  · cases e1
    have hxl : xs.length = n := by simp at hl; omega
    refine ⟨by omega, .inr ⟨g, cap, cur, rfl, hb, hh, by omega, hc, hs, ?_⟩⟩
    have h2 := congrArg (List.take n) ht
    rw [List.take_take, List.take_append_of_le_length (by omega), List.take_of_length_le (l := xs) (by omega)] at h2
    rw [← h2]
    congr 1
    omega



end Go.Proofs.YtbpfabicampdkaaGreatDoor
