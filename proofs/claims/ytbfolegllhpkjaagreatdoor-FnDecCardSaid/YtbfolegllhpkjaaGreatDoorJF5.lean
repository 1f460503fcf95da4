/-
  What NatZeros of package spec returns: how many zeros stand at the end of the numeral.
  The laws of chapter 4, walked: they return true wherever both packages answer alike.
  The laws of chapter 4, for arguments of any size; impl's contracts are handed in.
  What NatEven of package impl returns.
  What NatTen of package impl returns.
  What limbAt, NatTen, NatScale, NatZeros and NatEven of package impl return.
  A quotient that is rounded: its limbs, whatever the sizes.
  Decimal numbers as package impl reckons them: a rounded quotient, a scale by rounding and comparing, the smallest scale by counting zeros.
  Chapter 8 of package spec: what its functions return that need no fractions.
  Chapter 6 of package spec: what its functions on fractions return.
  What calls of chapter 7 answer.
  Chapter 7: the modes, their names and impl's table of them.
  Chapter 7: results that lie in their boxes; quotient and rest of a fraction; sums of limbs.
  Chapter 8 of package spec: DecAdd, DecSub, DecMul, DecCmp.
  Chapter 8 of package both: words of DecRat, RatDec, DecDiv.
  Chapter 5 of package impl: the number of a signed one, its order and its sign.
  Chapter 8 of package impl: what its functions return that need no fractions.
-/
import Derived.Deep.RegionHeld3
import Derived.Laws.EntriesVeiled
import Derived.IntWalk
import Derived.Test.YtbfolegllhpkjaaGreatDoorJF4
namespace Go.Proofs.YtbfolegllhpkjaaGreatDoor
open Go.RowKit

/-- how many zeros stand at the end -/
def zerosL (l : List UInt8) : Nat := (l.reverse.takeWhile (fun c => c == 48)).length
theorem tw_at {α : Type} (p : α → Bool) (l : List α) : ∀ k, k < (l.takeWhile p).length → ∃ h2 : k < l.length, p l[k] = true := by
  induction l with
  | nil => intro k h; simp at h
  | cons x r ih =>
    intro k h
    by_cases hx : p x = true
    · rw [List.takeWhile_cons_of_pos hx] at h
      cases k with
      | zero => exact ⟨by simp, hx⟩
      | succ k => obtain ⟨h1, h2⟩ := ih k (by simpa using h); exact ⟨by simpa using h1, h2⟩
    · rw [List.takeWhile_cons_of_neg hx] at h
      simp at h
theorem tw_end {α : Type} (p : α → Bool) (l : List α) (h : (l.takeWhile p).length < l.length) : p l[(l.takeWhile p).length] = false := by
  induction l with
  | nil => simp at h
  | cons x r ih =>
    by_cases hx : p x = true
    · have e : (x :: r).takeWhile p = x :: r.takeWhile p := List.takeWhile_cons_of_pos hx
      have h2 : (r.takeWhile p).length < r.length := by rw [e] at h; simpa using h
      have := ih h2
      simp only [e, List.length_cons, List.getElem_cons_succ]
      exact this
    · have e : (x :: r).takeWhile p = [] := List.takeWhile_cons_of_neg hx
      simp only [e, List.length_nil, List.getElem_cons_zero]
      simpa using hx
theorem zeros_le (l : List UInt8) : zerosL l ≤ l.length := by
  unfold zerosL
  have := (List.takeWhile_sublist (fun c : UInt8 => c == 48) (l := l.reverse)).length_le
  simpa using this
theorem zeros_at (s : ByteArray) (k : Nat) (h : k < zerosL s.data.toList) : ∃ hi : s.size - 1 - k < s.size, (s[s.size - 1 - k].toNat : Int) = 48 := by
  have hl := zeros_le s.data.toList
  have hsz : s.data.toList.length = s.size := rfl
  obtain ⟨h2, h3⟩ := tw_at _ _ k h
  refine ⟨by omega, ?_⟩
  rw [List.getElem_reverse, beq_iff_eq] at h3
  have e : s[s.size - 1 - k]'(by omega) = s.data.toList[s.data.toList.length - 1 - k]'(by omega) := by simp only [hsz]; rfl
  rw [e, h3]
  rfl
theorem zeros_end (s : ByteArray) (k : Nat) (hk : k = zerosL s.data.toList) (h : k < s.size) : ((s[s.size - 1 - k]'(by omega)).toNat : Int) ≠ 48 := by
  have hsz : s.data.toList.length = s.size := rfl
  have hlen : (s.data.toList.reverse.takeWhile (fun c : UInt8 => c == 48)).length < s.data.toList.reverse.length := by
    rw [List.length_reverse, hsz]
    have : (s.data.toList.reverse.takeWhile (fun c : UInt8 => c == 48)).length = k := hk.symm
    omega
  have h3 := tw_end (fun c : UInt8 => c == 48) s.data.toList.reverse hlen
  rw [List.getElem_reverse, beq_eq_false_iff_ne] at h3
  have e : s[s.size - 1 - k]'(by omega) = s.data.toList[s.data.toList.length - 1 - (s.data.toList.reverse.takeWhile (fun c : UInt8 => c == 48)).length]'(by omega) := by
    have hk2 : (s.data.toList.reverse.takeWhile (fun c : UInt8 => c == 48)).length = k := hk.symm
    simp only [hk2, hsz]
    rfl
  rw [e]
  intro e2
  exact h3 (UInt8.toNat_inj.1 (by have h48 : (48 : UInt8).toNat = 48 := rfl; omega))
theorem val_zeros (l : List UInt8) (h : ∀ c ∈ l, c = 48) : valL l = 0 := by
  have : ∀ a : Int, List.foldl (fun a (c : UInt8) => a * 10 + ((c.toNat : Int) - 48)) a l = a * 10 ^ l.length := by
    induction l with
    | nil => intro a; simp
    | cons c r ih =>
      intro a
      have hc : (c.toNat : Int) = 48 := by rw [h c (by simp)]; rfl
      rw [List.foldl_cons, ih (fun x hx => h x (by simp [hx])), hc, List.length_cons, Int.pow_succ, Int.mul_comm (10 ^ r.length) 10, ← Int.mul_assoc]
      congr 1
      omega
  have h2 := this 0
  rw [Int.zero_mul] at h2
  exact h2
theorem zeros_lt (l : List UInt8) (h : 0 < valL l) : zerosL l < l.length := by
  have hl := zeros_le l
  rcases Nat.lt_or_ge (zerosL l) l.length with hlt | hge
  · exact hlt
  · exfalso
    have : ∀ c ∈ l, c = 48 := by
      intro c hc
      obtain ⟨i, hi, rfl⟩ := List.getElem_of_mem hc
      have hr : l.length - 1 - i < zerosL l := by omega
      obtain ⟨h2, h3⟩ := tw_at _ _ _ hr
      rw [List.getElem_reverse, beq_iff_eq] at h3
      rw [← h3]
      congr 1
      omega
    rw [val_zeros l this] at h
    omega
/-- what NatZeros answers -/
def zerosN (a : List Int) : Int := if natOkB a = true ∧ 0 < a.length then zerosL (natT a).data.toList else 0
theorem zerosN_ok {a : List Int} (h : natOkB a = true) (h0 : 0 < a.length) : zerosN a = zerosL (natT a).data.toList ∧ zerosL (natT a).data.toList < (natT a).size := by
  refine ⟨by unfold zerosN; rw [if_pos ⟨h, h0⟩], ?_⟩
  apply zeros_lt
  have e : (natT a).data.toList = Lib.decDigits (nval a).toNat := by conv => lhs; rw [natOk_limbs h, natT_dec]
  have h1 := ok_ge h h0
  have h2 := bp_pos (a.length - 1)
  rw [e, valL_dec]
  omega

end Go.Proofs.YtbfolegllhpkjaaGreatDoor

namespace Go.Proofs.YtbfolegllhpkjaaGreatDoor
open Go.RowKit




end Go.Proofs.YtbfolegllhpkjaaGreatDoor

namespace Go.Proofs.YtbfolegllhpkjaaGreatDoor
open Go.RowKit

theorem limbs_short {N : Int} (h0 : 0 ≤ N) (h : N < bp 50) : (limbs N.toNat).length ≤ 1048576 := Nat.le_trans (limbs_length_le _ 50 (by omega)) (by decide)
theorem ok_lt {a : List Int} (h : natOkB a = true) : 0 ≤ nval a ∧ nval a < bp 50 := by
  have h1 := natOk_parts h
  have h2 := nval_lt a h1.1
  have h3 := bp_mono h1.2.1
  exact ⟨nval_nonneg a h1.1, by omega⟩
theorem divN_len (a b : List Int) : (divN a b).1.length ≤ 1048576 ∧ (divN a b).2.length ≤ 1048576 := by
  unfold divN
  split
  · rename_i h
    have ha := ok_lt h.1
    have hb := ok_lt h.2.1
    have hb0 : 0 < nval b := by
      have h1 := ok_ge h.2.1 h.2.2
      have h2 := bp_pos (b.length - 1)
      omega
    refine ⟨limbs_short (Int.ediv_nonneg ha.1 (by omega)) ?_, limbs_short (Int.emod_nonneg _ (by omega)) ?_⟩
    · have := Int.ediv_le_self (nval b) ha.1
      omega
    · have := Int.emod_lt_of_pos (nval a) hb0
      omega
  · exact ⟨by simp, by simp⟩
theorem gcdN_len (a b : List Int) : (gcdN a b).length ≤ 1048576 := by
  unfold gcdN
  split
  · rename_i h
    have ha := ok_lt h.1
    have hb := ok_lt h.2
    refine Nat.le_trans (limbs_length_le _ 50 ?_) (by decide)
    by_cases h0 : 0 < (nval a).toNat
    · have := Nat.gcd_le_left (nval b).toNat h0
      omega
    · rw [show (nval a).toNat = 0 by omega, Nat.gcd_zero_left]
      omega
  · simp
theorem scaleN_len (a : List Int) (k : Int) : (scaleN a k).length ≤ 1048576 := by
  unfold scaleN
  split
  · simp
  · unfold mulN
    split
    · unfold natRes capL
      split
      · simp
      · omega
    · simp
theorem cutN_len (a : List Int) (k : Int) : (cutN a k).1.length ≤ 1048576 ∧ (cutN a k).2.length ≤ 1048576 := by
  unfold cutN
  split
  · exact divN_len _ _
  · exact ⟨by simp, by simp⟩









end Go.Proofs.YtbfolegllhpkjaaGreatDoor

namespace Go.Proofs.YtbfolegllhpkjaaGreatDoor
open Go.RowKit

set_option maxHeartbeats 400000 in
set_option maxRecDepth 100000 in
theorem implNatEven_any (v : Value) (a : List Int) (lo hi : Nat) (w : World) (hl : a.length ≤ 1048576) (hr : Row w lo hi v (intsV a)) :
    Calls Tryz.prog 133 #[v] w fun e w' => e = .returned (.bool (evenB a)) ∧ w = w' := by
  by_cases oa : natOkB a = true
  · have hd := (natOk_parts oa).1
    have hg : a.getD 0 0 = a.headD 0 := by cases a <;> rfl
    have hx : 0 ≤ a.headD 0 ∧ a.headD 0 ≤ 999999999 := by
      cases a with
      | nil => exact ⟨Int.le_refl _, by decide⟩
      | cons x r => exact hd.head
    have HV := Lib.hid (show evenB a = (a.headD 0 % 2 == 0) by unfold evenB; rw [oa, Bool.true_and, Bool.eq_iff_iff, decide_eq_true_eq, beq_iff_eq])
    have hx0 := hx.1
    have hx1 := hx.2
    clear hd hx
    go_enter Tryz.func133, Tryz.ntmps133
    go_wp2_with fail
    refine (implNatOk_same v a lo hi _ (by omega) hr).mono ?_
    rintro e w' ⟨rfl, rfl⟩
    rw [oa]
    go_wp2_with fail
    refine (limbAt_any v a 0 lo hi _ hl hr).mono ?_
    rintro e w' ⟨rfl, rfl⟩
    rw [if_neg (by decide), show (0 : Int).toNat = 0 from rfl, hg]
    generalize a.headD 0 = x at *
    go_wp2
    go_ret
    exact ⟨ret_bool HV.out.symm, rfl⟩
  · have oa' : natOkB a = false := by simpa using oa
    have HV := Lib.hid (show evenB a = false by unfold evenB; rw [oa', Bool.false_and])
    clear oa
    go_enter Tryz.func133, Tryz.ntmps133
    go_wp2_with fail
    refine (implNatOk_same v a lo hi _ (by omega) hr).mono ?_
    rintro e w' ⟨rfl, rfl⟩
    rw [oa']
    go_wp2
    go_ret
    exact ⟨ret_bool HV.out.symm, rfl⟩
end Go.Proofs.YtbfolegllhpkjaaGreatDoor

namespace Go.Proofs.YtbfolegllhpkjaaGreatDoor
open Go.RowKit

set_option maxHeartbeats 1000000 in
set_option maxRecDepth 100000 in
theorem implNatTen_any (k : Int) (w : World) : Calls Tryz.prog 75 #[.int .i64 k] w (NewInts (tenN k) w) := by
  obtain ⟨i0, hi0, hz0, hz1, hz2⟩ := info_parts intInfo
  by_cases h0 : k < 0
  · have HV : Hid (tenN k = []) := Lib.hid (by unfold tenN; rw [if_neg (by omega)])
    go_enter Tryz.func75, Tryz.ntmps75
    go_wp2
    go_ret
    rw [HV.out]
    exact new_nil (Below.refl _ _)
  · by_cases h1 : 450 ≤ k
    · have HV : Hid (tenN k = []) := Lib.hid (by unfold tenN; rw [if_neg (by omega)])
      go_enter Tryz.func75, Tryz.ntmps75
      go_wp2
      go_ret
      rw [HV.out]
      exact new_nil (Below.refl _ _)
    · obtain ⟨n, rfl⟩ := Int.eq_ofNat_of_zero_le (show 0 ≤ k by omega)
      have hn : n ≤ 449 := by omega
      have HV : Hid (tenN n = List.replicate (n / 9) 0 ++ [(10 : Int) ^ (n % 9)]) := Lib.hid (by unfold tenN; rw [if_pos (by omega), Int.toNat_natCast, ten_limbs])
      have hmk := make_ints (n / 9) (by omega)
      rw [show ((n / 9 : Nat) : Int) = (n : Int) / 9 by omega] at hmk
      clear h0 h1
      go_enter Tryz.func75, Tryz.ntmps75
      go_wp2
      go_loop [3, 12] (fun f i => ∃ (j : Nat) (p : Int), j ≤ n % 9 ∧ i = .int .i64 j ∧ f = .int .i64 p ∧ 0 < p ∧ p ≤ 100000000 ∧ Hid (p = 10 ^ j)) (fun _ i => n % 9 - (intOf i).toNat)
      case atStart => exact ⟨0, 1, Nat.zero_le _, rfl, rfl, by omega, by omega, Lib.hid rfl⟩
      case round =>
        obtain ⟨j, p, hj, rfl, rfl, hp0, hp1, HP⟩ := hrel
        by_cases hlt : (j : Int) < (n : Int) % 9
        · have HN : Hid (p * 10 = 10 ^ (j + 1) ∧ p * 10 ≤ 100000000) := Lib.hid (by
            have h1 : p * 10 = (10 : Int) ^ (j + 1) := by rw [HP.out, Int.pow_succ]
            exact ⟨h1, by rw [h1]; exact ten_eight (j + 1) (by omega)⟩)
          go_wp2
          go_round
          case rel => exact ⟨j + 1, p * 10, by omega, by go_num, rfl, by omega, HN.out.2, Lib.hid HN.out.1⟩
          case measure => simp [intOf]; omega
        · have HJ := Lib.hid (show j = n % 9 by omega)
          have hown : (w.alloc (.cells (madeCells #[.int .i64 0] (n / 9)) 3)).ownsRow w.heap.size 3 1 (.slice (some ⟨w.heap.size, 0, none⟩) (n / 9) (n / 9)) (n / 9) (intsV (List.replicate (n / 9) 0)) := by
            have h := World.ownsRow_lit (e := 3) (size := 1) (base := w.heap.size) w (madeCells #[.int .i64 0] (n / 9)) (n / 9) (Nat.le_refl _) (by unfold maxLen; omega) (by rw [size_madeCells, Nat.mul_one])
            rw [toList_madeCells_one] at h
            simpa [intsV] using h
          go_wp2_with (at_builtin; refine wpList_append_own _ rfl _ _ 23 rfl w.heap.size 3 i0 (.int .i64 0) 1 8 Tryz.underlying23 hi0 hz0 hz1 hz2 rfl (by decide) _ _ _ rfl (own_alloc hown _) ⟨w.heap.size + 1, 0, none⟩ 1 1 [.int .i64 p] rfl rfl ?c1 ?c2 ?c3 ?c4 ?c5 ?_)
          case c2 => first | (intro u hu; simp at hu; subst hu; rfl) | rfl
          case c3 => unfold maxLen; omega
          case c4 => omega
          case c5 => first | omega | (simp; omega)
          intro v1 w1 hown1 hg1 _
          have hb2 : Below w.heap.size w w1 := (((Below.refl _ w).alloc (Nat.le_refl _) _).alloc (by simp) _).grown hg1 (by simp; omega) (fun k hk => by cases hk; exact Nat.le_refl _)
          go_wp2
          go_ret
          refine ⟨_, rfl, ?_, hb2⟩
          rw [HV.out, ← HJ.out, ← HP.out]
          simpa [intsV] using hown1
theorem implNatTen_at (k : Int) : ∀ (W : World), Calls Tryz.prog 75 #[(.int .i64 k)] W (PostI (tenN k) W) :=
  fun W => (implNatTen_any k W).mono fun _ _ h => h.newV
end Go.Proofs.YtbfolegllhpkjaaGreatDoor

namespace Go.Proofs.YtbfolegllhpkjaaGreatDoor
open Go.RowKit

/-! ### zeros at the end of a number -/
def zN (n : Nat) : Nat := zerosL (Lib.decDigits n)
theorem zerosL_snoc (l : List UInt8) (c : UInt8) : zerosL (l ++ [c]) = if c = 48 then zerosL l + 1 else 0 := by
  unfold zerosL
  rw [List.reverse_append, List.reverse_singleton, List.singleton_append]
  by_cases h : c = 48
  · rw [List.takeWhile_cons_of_pos (by simpa using h), if_pos h]; rfl
  · rw [List.takeWhile_cons_of_neg (by simpa using h), if_neg h]; rfl
theorem chr_eq {k : Nat} (h : k < 10) : (UInt8.ofNat (48 + k) = 48) ↔ k = 0 := by
  constructor
  · intro e
    have e2 := congrArg UInt8.toNat e
    rw [UInt8.toNat_ofNat'] at e2
    have : (48 : UInt8).toNat = 48 := rfl
    omega
  · rintro rfl; rfl
theorem zN_end (n : Nat) (h : n % 10 ≠ 0) : zN n = 0 := by
  unfold zN
  by_cases hs : n < 10
  · rw [dec_small n hs]
    have := zerosL_snoc [] (UInt8.ofNat (48 + n))
    rw [List.nil_append] at this
    rw [this, if_neg (by rw [chr_eq hs]; omega)]
  · rw [dec_big n hs, zerosL_snoc, if_neg (by rw [chr_eq (by omega)]; exact h)]
theorem zN_ten (n : Nat) (h : 0 < n) : zN (10 * n) = zN n + 1 := by
  unfold zN
  rw [dec_big (10 * n) (by omega), zerosL_snoc, show 10 * n / 10 = n by omega, show 10 * n % 10 = 0 by omega, if_pos (show UInt8.ofNat (48 + 0) = 48 from rfl)]
theorem zN_pow (k n : Nat) (h : 0 < n) : zN (10 ^ k * n) = zN n + k := by
  induction k with
  | zero => simp
  | succ k ih =>
    have hp : 0 < 10 ^ k * n := Nat.mul_pos (Nat.pow_pos (by omega)) h
    rw [Nat.pow_succ, Nat.mul_comm (10 ^ k) 10, Nat.mul_assoc, zN_ten _ hp, ih]
    omega
theorem zerosN_zN {a : List Int} (h : natOkB a = true) (h0 : 0 < a.length) : zerosN a = zN (nval a).toNat := by
  rw [(zerosN_ok h h0).1]
  unfold zN
  rw [show (natT a).data.toList = Lib.decDigits (nval a).toNat by conv => lhs; rw [natOk_limbs h, natT_dec]]
/-- the first loop of NatZeros: limbs that are zero have been passed -/
def ZerosR (a : List Int) (k : Nat) : Prop := 0 < nval (a.drop k) ∧ zN (nval a).toNat = 9 * k + zN (nval (a.drop k)).toNat
theorem ZerosR.start {a : List Int} (h : natOkB a = true) (h0 : 0 < a.length) : ZerosR a 0 := by
  have h1 := ok_ge h h0
  have h2 := bp_pos (a.length - 1)
  rw [ZerosR, List.drop_zero]
  exact ⟨by omega, by simp⟩
theorem ZerosR.lt {a : List Int} {k : Nat} (h : ZerosR a k) : k < a.length := by
  rcases Nat.lt_or_ge k a.length with hk | hk
  · exact hk
  · have := h.1
    rw [List.drop_of_length_le hk] at this
    exact absurd this (by decide)
theorem ZerosR.next {a : List Int} {k : Nat} (h : ZerosR a k) (hk : k < a.length) (hz : a[k] = 0) : ZerosR a (k + 1) := by
  obtain ⟨h1, h2⟩ := h
  rw [nval_drop a k hk, hz] at h1 h2
  refine ⟨by omega, ?_⟩
  rw [h2]
  have e : (0 + 1000000000 * nval (a.drop (k + 1))).toNat = 10 ^ 9 * (nval (a.drop (k + 1))).toNat := by omega
  rw [e, zN_pow 9 _ (by omega)]
  omega
/-- the second loop: the limb m, with f places left in it, ahead of R -/
def ZeroD (Z : Nat) (z : Int) (m : Int) (f : Nat) (R : Nat) : Prop := m < 10 ^ (f + 1) ∧ (Z : Int) = z + zN (m.toNat + 10 ^ (f + 1) * R)
theorem ZerosR.digits {a : List Int} {k : Nat} (h : ZerosR a k) (hk : k < a.length) (hd : DigN a) : ZeroD (zN (nval a).toNat) (k * 9) a[k] 8 (nval (a.drop (k + 1))).toNat := by
  obtain ⟨h1, h2⟩ := h
  have := hd.at_ k hk
  have h3 := nval_nonneg (a.drop (k + 1)) (hd.drop _)
  rw [nval_drop a k hk] at h1 h2
  refine ⟨by omega, ?_⟩
  rw [h2, show (a[k] + 1000000000 * nval (a.drop (k + 1))).toNat = a[k].toNat + 10 ^ (8 + 1) * (nval (a.drop (k + 1))).toNat by omega]
  simp
  omega
theorem ZeroD.next {Z : Nat} {z m : Int} {f R : Nat} (h : ZeroD Z z m f R) (hm : 0 < m) (h0 : m % 10 = 0) : ∃ g, f = g + 1 ∧ 0 < m / 10 ∧ ZeroD Z (z + 1) (m / 10) g R := by
  obtain ⟨h1, h2⟩ := h
  cases f with
  | zero => exfalso; omega
  | succ g =>
    refine ⟨g, rfl, by omega, ?_, ?_⟩
    · rw [Int.pow_succ] at h1; omega
    · rw [h2]
      have e : m.toNat + 10 ^ (g + 1 + 1) * R = 10 * ((m / 10).toNat + 10 ^ (g + 1) * R) := by
        rw [Nat.mul_add, ← Nat.mul_assoc, Nat.pow_succ 10 (g + 1), Nat.mul_comm (10 ^ (g + 1)) 10]
        omega
      rw [e, zN_ten _ (by omega)]
      omega
theorem ZeroD.done {Z : Nat} {z m : Int} {f R : Nat} (h : ZeroD Z z m f R) (hm : 0 < m) (h0 : m % 10 ≠ 0) : (Z : Int) = z := by
  obtain ⟨h1, h2⟩ := h
  rw [h2, zN_end]
  · simp
  · rw [Nat.pow_succ, Nat.mul_comm (10 ^ f) 10, Nat.mul_assoc]
    omega


theorem implNatEven_at (a : List Int) (hl : a.length ≤ 1048576) : ∀ (ua : Value) (W : World), OwnI ua a W → Calls Tryz.prog 133 #[ua] W (Postb (evenB a) W) :=
  fun ua W ha => (implNatEven_any ua a _ _ W hl ha.row).mono fun _ _ h => ⟨h.1, h.2 ▸ Below.refl _ _⟩

theorem mulN_empty (a : List Int) : mulN a [] = [] := by
  by_cases oa : natOkB a = true
  · rw [mulN_ok oa rfl]
    show natRes (nval a * 0) = []
    rw [Int.mul_zero]
    unfold natRes
    rw [show (0 : Int).toNat = 0 from rfl, limbs_none]
    rfl
  · unfold mulN
    rw [if_neg (fun h => oa h.1)]


set_option maxHeartbeats 1000000 in
set_option maxRecDepth 100000 in
theorem implNatZeros_any (v : Value) (a : List Int) (lo hi : Nat) (w : World) (hl : a.length ≤ 1048576) (hr : Row w lo hi v (intsV a)) :
    Calls Tryz.prog 29 #[v] w fun e w' => e = .returned (.int .i64 (zerosN a)) ∧ w = w' := by
  have hr0 := hr
  obtain ⟨A, c, rfl, hA⟩ := hr
  rw [intsV_length] at hr0 ⊢
  have HA := Lib.hid hA
  clear hA
  by_cases oa : natOkB a = true
  · by_cases h0 : a.length = 0
    · have HV := Lib.hid (show zerosN a = 0 by unfold zerosN; rw [if_neg (fun h => by have := h.2; omega)])
      have hz : ((a.length : Int) == 0) = true := by simp [h0]
      clear h0
      go_enter Tryz.func29, Tryz.ntmps29
      go_wp2_with fail
      refine (implNatOk_same _ a lo hi _ (by omega) hr0).mono ?_
      rintro e w' ⟨rfl, rfl⟩
      rw [oa]
      go_wp2
      go_ret
      exact ⟨ret_int HV.out.symm, rfl⟩
    · have hpos : 0 < a.length := by omega
      have hz : ((a.length : Int) == 0) = false := by rw [beq_eq_false_iff_ne]; omega
      have HV := Lib.hid (zerosN_zN oa hpos)
      have HD := Lib.hid (natOk_parts oa).1
      have hl50 := (natOk_parts oa).2.1
      have HS := Lib.hid (ZerosR.start oa hpos)
      clear h0
      go_enter Tryz.func29, Tryz.ntmps29
      go_wp2_with fail
      refine (implNatOk_same _ a lo hi _ (by omega) hr0).mono ?_
      rintro e w' ⟨rfl, rfl⟩
      rw [oa]
      go_wp2
      go_loop [3] (fun i => ∃ k : Nat, k < a.length ∧ i = .int .i64 k ∧ Hid (ZerosR a k)) (fun i => a.length - (intOf i).toNat)
      case atStart => exact ⟨0, hpos, rfl, HS⟩
      case round =>
        obtain ⟨k, hk, rfl, HR⟩ := hrel
        obtain ⟨p, rfl, _, _, hca⟩ := HA.out k _ (intsV_at a k hk)
        by_cases hx : a[k] = 0
        · have HN := Lib.hid (HR.out.next hk hx)
          have hk2 := HN.out.lt
          rw [hx] at hca
          clear hx
          go_wp2
          go_round
          case rel => exact ⟨k + 1, hk2, by go_num, HN⟩
          case measure => simp [intOf]; omega
        · have hxb : (a[k] == 0) = false := by rw [beq_eq_false_iff_ne]; exact hx
          have HZ := Lib.hid (HR.out.digits hk HD.out)
          have hd := HD.out.at_ k hk
          have hx0 : 0 < a[k] := by omega
          have hx1 := hd.2
          clear hx hd HR
          generalize a[k] = x at *
          generalize (nval (a.drop (k + 1))).toNat = R at *
          generalize zN (nval a).toNat = Z at *
          go_wp2
          go_loop [4, 5] (fun z m => ∃ (f : Nat) (zz mm : Int), f ≤ 8 ∧ z = .int .i64 zz ∧ m = .int .i64 mm ∧ 0 ≤ zz ∧ zz + f ≤ 458 ∧ 0 < mm ∧ mm ≤ 999999999 ∧ Hid (ZeroD Z zz mm f R)) (fun _ m => (intOf m).toNat)
          case atStart => exact ⟨8, _, _, Nat.le_refl _, rfl, rfl, by omega, by omega, hx0, hx1, HZ⟩
          case round =>
            obtain ⟨f, zz, mm, hf, rfl, rfl, hz0, hz1, hm0, hm1, HM⟩ := hrel
            by_cases hm : mm % 10 = 0
            · obtain ⟨g, rfl, hg1, hg2⟩ := HM.out.next hm0 hm
              have HG := Lib.hid hg2
              have hmb : (mm % 10 == 0) = true := by rw [beq_iff_eq]; exact hm
              clear hm hg2
              go_wp2
              go_round
              case rel => exact ⟨g, zz + 1, mm / 10, by omega, rfl, rfl, by omega, by omega, hg1, by omega, HG⟩
              case measure => simp [intOf]; omega
            · have hmb : (mm % 10 == 0) = false := by rw [beq_eq_false_iff_ne]; exact hm
              have HE := Lib.hid (HM.out.done hm0 hm)
              clear hm
              go_wp2
              go_ret
              exact ⟨ret_int (by rw [HV.out]; exact HE.out.symm), rfl⟩
  · have oa' : natOkB a = false := by simpa using oa
    have HV := Lib.hid (show zerosN a = 0 by unfold zerosN; rw [if_neg (fun h => oa h.1)])
    clear oa
    go_enter Tryz.func29, Tryz.ntmps29
    go_wp2_with fail
    refine (implNatOk_same _ a lo hi _ (by omega) hr0).mono ?_
    rintro e w' ⟨rfl, rfl⟩
    rw [oa']
    go_wp2
    go_ret
    exact ⟨ret_int HV.out.symm, rfl⟩
theorem implNatZeros_at (a : List Int) (hla : a.length ≤ 1048576) : ∀ (ua : Value) (W : World), OwnI ua a W → Calls Tryz.prog 29 #[ua] W (Postn (zerosN a) W) :=
  fun ua W ha => (implNatZeros_any ua a _ _ W hla ha.row).mono fun _ _ h => ⟨h.1, h.2 ▸ Below.refl _ _⟩
end Go.Proofs.YtbfolegllhpkjaaGreatDoor

namespace Go.Proofs.YtbfolegllhpkjaaGreatDoor
open Go.RowKit

theorem addN_small {X Y : Nat} (h : ((X + Y : Nat) : Int) < bp 50) : addN (limbs X) (limbs Y) = limbs (X + Y) := by
  have hx : (limbs X).length ≤ 50 := limbs_length_le _ 50 (by omega)
  have hy : (limbs Y).length ≤ 50 := limbs_length_le _ 50 (by omega)
  have hs : (limbs (X + Y)).length ≤ 50 := limbs_length_le _ 50 h
  unfold addN
  rw [if_pos ⟨limbs_okL _ hx, limbs_okL _ hy⟩, limbs_val, limbs_val]
  unfold natRes
  rw [show ((X : Int) + (Y : Int)).toNat = X + Y by omega]
  unfold capL
  rw [if_neg (by omega)]
theorem addN_len50 (a b : List Int) : (addN a b).length ≤ 50 := by
  unfold addN
  split
  · unfold natRes capL
    split
    · simp
    · omega
  · simp
/-- the limbs of a rounded quotient -/
def quoL (neg : Bool) (A D : Nat) (m : Int) : List Int := if A % D ≠ 0 ∧ awayB neg (A / D) (A % D) D m = true then addN (limbs (A / D)) (limbs 1) else limbs (A / D)
theorem quoL_is {neg : Bool} {A D : Nat} {m : Int} (h : ((A / D : Nat) : Int) + 1 < bp 50) : quoL neg A D m = limbs (roundN neg A D m) := by
  unfold quoL roundN
  split
  · exact addN_small (by omega)
  · rw [Nat.add_zero]
theorem quoL_len {neg : Bool} {A D : Nat} {m : Int} (h : (limbs (A / D)).length ≤ 50) : (quoL neg A D m).length ≤ 50 := by
  unfold quoL
  split
  · exact addN_len50 _ _
  · exact h
theorem quoL_plain {neg : Bool} {A D Q R : Nat} {m : Int} (hq : A / D = Q) (hr : A % D = R) (h : R = 0 ∨ awayB neg Q R D m = false) : quoL neg A D m = limbs Q := by
  unfold quoL
  rw [hq, hr, if_neg (fun e => by rcases h with h | h; exact e.1 h; rw [h] at e; exact absurd e.2 (by decide))]
theorem quoL_more {neg : Bool} {A D Q R : Nat} {m : Int} (hq : A / D = Q) (hr : A % D = R) (h : R ≠ 0) (ha : awayB neg Q R D m = true) : quoL neg A D m = addN (limbs Q) (limbs 1) := by
  unfold quoL
  rw [hq, hr, if_pos ⟨h, ha⟩]
theorem mkS_quo {neg : Bool} {xs : List Int} {sg : Bool} (h : xs.length ≤ 50) (hs : (neg && decide (0 < xs.length)) = sg) : mkS neg xs = (sg, xs) := by
  unfold mkS capL
  rw [if_neg (by omega), hs]
end Go.Proofs.YtbfolegllhpkjaaGreatDoor

namespace Go.Proofs.YtbfolegllhpkjaaGreatDoor
open Go.RowKit

/-- a rounded quotient comes as this signed number -/
theorem tenS_fine (k : Int) : okS (tenS k) = true ∧ (tenS k).2.length ≤ 50 := by
  by_cases h : 0 ≤ k ∧ k ≤ 449
  · have hl := tenN_len k
    have e : tenN k = limbs (10 ^ k.toNat) := by unfold tenN; rw [if_pos h]
    refine ⟨?_, hl⟩
    unfold okS tenS
    show (natOkB (tenN k) && (!false || _)) = true
    rw [e, limbs_okL _ (by rw [← e]; exact hl)]
    rfl
  · have e : tenN k = [] := by unfold tenN; rw [if_neg h]
    unfold tenS
    rw [e]
    decide
theorem mulS_ofZ {x : SI} (h : okS x = true) (k : Int) : mulS x (tenS k) = ofZ (valS x * valS (tenS k)) := by
  unfold mulS
  rw [if_pos ⟨h, (tenS_fine k).1⟩]
theorem impl_ratDec {r : QI} {k m : Int} (h : okQ r = true) (hm : modeB m = true) :
    decD (mkS (mulS r.1 (tenS k)).1 (quoL (mulS r.1 (tenS k)).1 (nval (mulS r.1 (tenS k)).2).toNat (denQ r) m)) k = ratDecD r k m := by
  by_cases hk : 0 ≤ k ∧ k ≤ 30
  · have p := parts_of h
    have t := tenS_ok hk.1 hk.2
    have e := mulS_ofZ p.okn k
    have hlt := scaled_lt h hk.2
    have hP := pt_pos k
    have hpn := pt_nat k
    have hab : (valS r.1 * valS (tenS k)).natAbs = topN r * 10 ^ k.toNat := by
      rw [Int.natAbs_mul, t.2.1, ← hpn, Int.natAbs_natCast, ← (valS_abs r.1 (okS_parts p.okn).1).symm]
      rfl
    have h22 : bp 22 ≤ bp 50 := bp_mono (by omega)
    have f := ofZ_few (z := valS r.1 * valS (tenS k)) (k := 50) (by omega) (by omega)
    have hn : (nval (mulS r.1 (tenS k)).2).toNat = topN r * 10 ^ k.toNat := by
      rw [e, ← valS_abs _ (okS_parts f.1).1, f.2, hab]
    have hs : (mulS r.1 (tenS k)).1 = r.1.1 := by
      rw [e, okS_sign f.1, f.2, okS_sign p.okn, t.2.1, decide_eq_decide]
      constructor
      · intro h1
        rcases (by omega : valS r.1 < 0 ∨ 0 ≤ valS r.1) with h2 | h2
        · exact h2
        · have := Int.mul_nonneg h2 (Int.le_of_lt hP); omega
      · intro h1
        exact Int.mul_neg_of_neg_of_pos h1 hP
    rw [hn, hs]
    have h3 := scaledN_lt h m hk.2
    have h4 : ((topN r * 10 ^ k.toNat / denQ r : Nat) : Int) < bp 22 := by
      have := Nat.div_le_self (topN r * 10 ^ k.toNat) (denQ r)
      omega
    have h5 : bp 22 < bp 23 := bp_step 22
    have h6 : bp 23 ≤ bp 50 := bp_mono (by omega)
    rw [quoL_is (by omega)]
    exact ratDec_is h hk.1 hk.2 hm
  · unfold ratDecD
    rw [if_neg (fun e => hk e.2.1)]
    unfold decD
    rw [if_neg]
    intro ho
    have q := partsD ho
    exact hk ⟨q.lo, q.hi⟩
theorem divQ_none {r s : QI} (h : (divQ r s).2 = false) : (divQ r s).1 = zeroQ := by
  unfold divQ at h ⊢
  split at h
  · rename_i hc
    rw [if_pos hc]
    unfold lowQ at h ⊢
    split at h
    · exact absurd (show true = false from h) (by decide)
    · rename_i hd
      rw [if_neg hd]
  · rename_i hc
    rw [if_neg hc]
theorem zeroQ_bad : okQ zeroQ = false := by decide
theorem ratDecD_bad {r : QI} {k m : Int} (h : ¬ okQ r = true) : ratDecD r k m = (zeroD, false) := by
  unfold ratDecD
  rw [if_neg (fun e => h e.1)]
theorem divD_impl (d e : DI) (k m : Int) : ratDecD (divQ (ratD d) (ratD e)).1 k m = divD d e k m := by
  unfold divD
  by_cases h : (divQ (ratD d) (ratD e)).2 = true
  · rw [if_pos h]
  · rw [if_neg h, divQ_none (by simpa using h), ratDecD_bad (by rw [zeroQ_bad]; decide)]

/-! ### another scale, by rounding and comparing -/
theorem rat_cross {d : DI} (hd : okD d = true) : numQ (ratD d) * pt d.2 = numD d * denQ (ratD d) := by
  have b := ten_bd hd
  have v := b.2.2
  have n1 := rat_ne (pt_pos d.2)
  have n2 := rat_ne b.2.1.pos
  unfold ratV at v
  have : (numQ (ratD d) : Rat) * (pt d.2 : Rat) = (numD d : Rat) * ((denQ (ratD d) : Int) : Rat) := by grind
  exact_mod_cast this
theorem num_sign {r : QI} (h : okQ r = true) : (r.1.1 = true → numQ r = -(topN r : Int)) ∧ (r.1.1 = false → numQ r = topN r) := by
  have t := (parts_of h).top
  constructor
  · intro e; rw [t, if_pos e]
  · intro e; rw [t, if_neg (by rw [e]; decide)]
/-- cut off towards zero -/
theorem scaled_cut {d : DI} (hd : okD d = true) {k : Int} : scaledN (ratD d) k 0 = (numD d).natAbs * 10 ^ k.toNat / 10 ^ d.2.toNat := by
  have ok := (ten_bd hd).2.1.ok
  have hD := denQ_pos ok
  have hc := rat_cross hd
  have ht := abs_top ok
  have hp : 0 < 10 ^ d.2.toNat := Nat.pow_pos (by omega)
  have hA : topN (ratD d) * 10 ^ d.2.toNat = (numD d).natAbs * denQ (ratD d) := by
    have := congrArg Int.natAbs hc
    rw [Int.natAbs_mul, Int.natAbs_mul, ← ht, ← pt_nat, Int.natAbs_natCast, Int.natAbs_natCast] at this
    exact this
  have e0 : scaledN (ratD d) k 0 = topN (ratD d) * 10 ^ k.toNat / denQ (ratD d) := by
    unfold scaledN roundN
    rw [if_neg (fun h => absurd (show false = true from h.2) (by decide)), Nat.add_zero]
  rw [e0, ← Nat.mul_div_mul_right _ (denQ (ratD d)) hp]
  have e1 : topN (ratD d) * 10 ^ k.toNat * 10 ^ d.2.toNat = (numD d).natAbs * 10 ^ k.toNat * denQ (ratD d) := by
    rw [Nat.mul_right_comm, hA]
    exact Nat.mul_right_comm ..
  rw [e1, Nat.mul_comm (denQ (ratD d)) (10 ^ d.2.toNat)]
  exact Nat.mul_div_mul_right _ _ hD
theorem neg_num {d : DI} (hd : okD d = true) : ((ratD d).1.1 = true → numD d ≤ 0) ∧ ((ratD d).1.1 = false → 0 ≤ numD d) := by
  have ok := (ten_bd hd).2.1.ok
  have hD : (0 : Int) < denQ (ratD d) := by have := denQ_pos ok; omega
  have hc := rat_cross hd
  have hs := num_sign ok
  have hP := pt_pos d.2
  constructor
  · intro e
    rw [hs.1 e] at hc
    rcases (by omega : 0 < numD d ∨ numD d ≤ 0) with h | h
    · have h1 := Int.mul_pos h hD
      have h2 : -(topN (ratD d) : Int) * pt d.2 ≤ 0 := by
        rw [Int.neg_mul]
        have := Int.mul_nonneg (Int.natCast_nonneg (topN (ratD d))) (Int.le_of_lt hP)
        omega
      omega
    · exact h
  · intro e
    rw [hs.2 e] at hc
    rcases (by omega : numD d < 0 ∨ 0 ≤ numD d) with h | h
    · have h1 := Int.mul_neg_of_neg_of_pos h hD
      have h2 := Int.mul_nonneg (Int.natCast_nonneg (topN (ratD d))) (Int.le_of_lt hP)
      omega
    · exact h
theorem pow_split {j k : Int} (h0 : 0 ≤ j) (h1 : j ≤ k) : 10 ^ k.toNat = 10 ^ j.toNat * 10 ^ (k - j).toNat := by
  rw [← Nat.pow_add]
  congr 1
  omega
/-- the way up -/
theorem scaled_up {d : DI} (hd : okD d = true) {k : Int} (hk : d.2 ≤ k) : scaledZ (ratD d) k 0 = liftD d k := by
  have hp := partsD hd
  have hlo := hp.lo
  have e := scaled_cut hd (k := k)
  have hpp : 0 < 10 ^ d.2.toNat := Nat.pow_pos (by omega)
  rw [pow_split hlo hk, Nat.mul_left_comm, Nat.mul_div_cancel_left _ hpp] at e
  have hn := neg_num hd
  unfold scaledZ
  have hc : (((numD d).natAbs * 10 ^ (k - d.2).toNat : Nat) : Int) = ((numD d).natAbs : Int) * pt (k - d.2) := by rw [Int.natCast_mul, pt_nat]
  rw [e, hc]
  unfold liftD
  cases hs : (ratD d).1.1 with
  | true =>
    have h0 := hn.1 hs
    rw [if_pos rfl, show ((numD d).natAbs : Int) = -(numD d) by omega, Int.neg_mul, Int.neg_neg]
  | false =>
    have h0 := hn.2 hs
    rw [if_neg (by decide), show ((numD d).natAbs : Int) = numD d by omega]
/-- and down -/
theorem scaled_down {d : DI} (hd : okD d = true) {k : Int} (h0 : 0 ≤ k) (hk : k < d.2) :
    ((scaledZ (ratD d) k 0).natAbs : Int) < bp 6 ∧ (numD d % pt (d.2 - k) = 0 → scaledZ (ratD d) k 0 = numD d / pt (d.2 - k)) ∧ (scaledZ (ratD d) k 0 * pt (d.2 - k) = numD d → numD d % pt (d.2 - k) = 0) := by
  have hp := partsD hd
  have e := scaled_cut hd (k := k)
  have hpp : 0 < 10 ^ k.toNat := Nat.pow_pos (by omega)
  have hT := pt_pos (d.2 - k)
  rw [pow_split h0 (Int.le_of_lt hk), Nat.mul_comm, Nat.mul_div_mul_left _ _ hpp] at e
  have hn := neg_num hd
  have hle := Nat.div_le_self (numD d).natAbs (10 ^ (d.2 - k).toNat)
  have hlt := num_lt hp
  have hz : scaledZ (ratD d) k 0 = if (ratD d).1.1 = true then -((((numD d).natAbs / 10 ^ (d.2 - k).toNat : Nat)) : Int) else (((numD d).natAbs / 10 ^ (d.2 - k).toNat : Nat) : Int) := by
    unfold scaledZ
    rw [e]
  have hdiv : (((numD d).natAbs / 10 ^ (d.2 - k).toNat : Nat) : Int) = ((numD d).natAbs : Int) / pt (d.2 - k) := by rw [Int.natCast_ediv, pt_nat]
  refine ⟨by rw [hz]; split <;> omega, fun hm => ?_, fun hm => by rw [← hm]; exact Int.mul_emod_left _ _⟩
  have hdv : pt (d.2 - k) ∣ numD d := Int.dvd_of_emod_eq_zero hm
  rw [hz, hdiv]
  cases hs : (ratD d).1.1 with
  | true =>
    have h1 := hn.1 hs
    rw [if_pos rfl, show ((numD d).natAbs : Int) = -(numD d) by omega, Int.neg_ediv_of_dvd hdv, Int.neg_neg]
  | false =>
    have h1 := hn.2 hs
    rw [if_neg (by decide), show ((numD d).natAbs : Int) = numD d by omega]
theorem mode_zero : modeB 0 = true := by decide
theorem cmpI_zero_iff (x y : Int) : cmpI x y = 0 ↔ x = y := by unfold cmpI; split <;> (try split) <;> omega
/-- DecAt as package impl reckons it -/
theorem at_rat (d : DI) (k : Int) : (if (ratDecD (ratD d) k 0).2 = true ∧ cmpD (ratDecD (ratD d) k 0).1 d = 0 then ((ratDecD (ratD d) k 0).1, true) else (zeroD, false)) = atD d k := by
  by_cases hd : okD d = true
  · by_cases hk : 0 ≤ k ∧ k ≤ 30
    · have ok := (ten_bd hd).2.1.ok
      have hp := partsD hd
      have e : ratDecD (ratD d) k 0 = decZ (scaledZ (ratD d) k 0) k := by unfold ratDecD; rw [if_pos ⟨ok, hk, mode_zero⟩]
      have ea : atD d k = if d.2 ≤ k then decZ (liftD d k) k else if numD d % pt (d.2 - k) = 0 then decZ (numD d / pt (d.2 - k)) k else (zeroD, false) := by unfold atD; rw [if_pos ⟨hd, hk.1, hk.2⟩]
      rw [e]
      by_cases hs : d.2 ≤ k
      · rw [if_pos hs] at ea
        rw [ea, scaled_up hd hs]
        by_cases hz : (decZ (liftD d k) k).2 = true
        · have b := decZ_parts hz
          have y := decZ_yes b.1 b.2.1 b.2.2
          have hc : cmpD (ofZ (liftD d k), k) d = 0 := by
            unfold cmpD
            rw [if_pos ⟨y.2.1, hd⟩, cmpI_zero_iff]
            have et : topD (ofZ (liftD d k), k) d = k := by unfold topD; rw [if_neg (by show ¬ k < d.2; omega)]
            rw [et]
            show numD (ofZ (liftD d k), k) * pt (k - k) = _
            rw [y.2.2, Int.sub_self, pt_zero, Int.mul_one]
          rw [y.1]
          exact if_pos ⟨rfl, hc⟩
        · have ef : decZ (liftD d k) k = (zeroD, false) := by
            unfold decZ at hz ⊢
            split at hz
            · exact absurd rfl hz
            · rename_i hn; rw [if_neg hn]
          rw [ef]
          exact if_neg (fun h => absurd h.1 (by decide))
      · rw [if_neg hs] at ea
        rw [ea]
        clear ea
        have sd := scaled_down hd hk.1 (by omega)
        have y := decZ_yes sd.1 hk.1 hk.2
        have et : topD (ofZ (scaledZ (ratD d) k 0), k) d = d.2 := by unfold topD; rw [if_pos (by show k < d.2; omega)]
        have hc : cmpD (ofZ (scaledZ (ratD d) k 0), k) d = 0 ↔ scaledZ (ratD d) k 0 * pt (d.2 - k) = numD d := by
          unfold cmpD
          rw [if_pos ⟨y.2.1, hd⟩, cmpI_zero_iff, et]
          show numD (ofZ (scaledZ (ratD d) k 0), k) * pt (d.2 - k) = numD d * pt (d.2 - d.2) ↔ _
          rw [y.2.2, Int.sub_self, pt_zero, Int.mul_one]
        by_cases hm : numD d % pt (d.2 - k) = 0
        · have e3 := sd.2.1 hm
          have hc0 := hc.2 (by rw [e3]; exact Int.ediv_mul_cancel (Int.dvd_of_emod_eq_zero hm))
          rw [if_pos hm, ← e3, y.1]
          exact if_pos ⟨rfl, hc0⟩
        · rw [if_neg hm, y.1]
          exact if_neg (fun h => hm (sd.2.2 (hc.1 h.2)))
    · have e : ratDecD (ratD d) k 0 = (zeroD, false) := by unfold ratDecD; rw [if_neg (fun h => hk h.2.1)]
      have a1 : ¬ ((zeroD, false).2 = true ∧ cmpD (zeroD, false).1 d = 0) := fun h => absurd h.1 (by decide)
      rw [e, if_neg a1]
      unfold atD
      rw [if_neg (fun h => hk h.2)]
  · have e : ratDecD (ratD d) k 0 = (zeroD, false) := by rw [rat_bad hd]; exact ratDecD_bad (by rw [zeroQ_bad]; decide)
    have a1 : ¬ ((zeroD, false).2 = true ∧ cmpD (zeroD, false).1 d = 0) := fun h => absurd h.1 (by decide)
    rw [e, if_neg a1]
    unfold atD
    rw [if_neg (fun h => hd h.1)]

/-! ### the smallest scale, by counting zeros -/
theorem ten_split (n : Nat) (h : 0 < n) : ∃ X, n = 10 ^ zN n * X ∧ X % 10 ≠ 0 := by
  induction n using Nat.strongRecOn with
  | _ n ih =>
    by_cases h10 : n % 10 = 0
    · have hm : n = 10 * (n / 10) := by omega
      have hm0 : 0 < n / 10 := by omega
      obtain ⟨X, h1, h2⟩ := ih (n / 10) (by omega) hm0
      refine ⟨X, ?_, h2⟩
      have hz := zN_ten (n / 10) hm0
      rw [← hm] at hz
      rw [hz, Nat.pow_succ, Nat.mul_right_comm, ← h1]
      omega
    · refine ⟨n, ?_, h10⟩
      rw [zN_end n h10, Nat.pow_zero, Nat.one_mul]
theorem ten_dvd {n : Nat} (h : 0 < n) (j : Nat) : 10 ^ j ∣ n ↔ j ≤ zN n := by
  obtain ⟨X, h1, h2⟩ := ten_split n h
  constructor
  · intro hd
    rcases Nat.lt_or_ge (zN n) j with hlt | hge
    · exfalso
      have h3 : 10 ^ (zN n + 1) ∣ n := Nat.dvd_trans (Nat.pow_dvd_pow 10 hlt) hd
      have h4 : 10 ^ zN n * 10 ∣ 10 ^ zN n * X := by rw [← Nat.pow_succ, ← h1]; exact h3
      have h5 := Nat.dvd_of_mul_dvd_mul_left (Nat.pow_pos (by omega)) h4
      omega
    · exact hge
  · intro hj
    rw [h1]
    exact Nat.dvd_trans (Nat.pow_dvd_pow 10 hj) (Nat.dvd_mul_right _ _)
theorem at_iff {d : DI} (hd : okD d = true) {j : Int} (h0 : 0 ≤ j) (h1 : j ≤ d.2) : (atD d j).2 = true ↔ numD d % pt (d.2 - j) = 0 := by
  have p := partsD hd
  have hi := p.hi
  by_cases hj : d.2 ≤ j
  · obtain rfl : j = d.2 := by omega
    rw [at_self hd, Int.sub_self, pt_zero, Int.emod_one]
    simp
  · unfold atD
    rw [if_pos ⟨hd, h0, by omega⟩, if_neg hj]
    have hlt := num_lt p
    constructor
    · intro h
      by_cases hm : numD d % pt (d.2 - j) = 0
      · exact hm
      · rw [if_neg hm] at h
        exact absurd (show false = true from h) (by decide)
    · intro hm
      rw [if_pos hm]
      have sd := scaled_down hd h0 (by omega)
      rw [sd.2.1 hm] at sd
      rw [(decZ_yes sd.1 h0 (by omega)).1]
/-- the scale that package impl asks for -/
def lowK (d : DI) : Int := if cmpS d.1 zeroS = 0 then 0 else if d.2 < zerosN d.1.2 then 0 else d.2 - zerosN d.1.2
theorem low_impl (d : DI) : (atD d (lowK d)).1 = lowD d := by
  by_cases hd : okD d = true
  · obtain ⟨j, j0, j1, j2, j3, j4⟩ := low_is_at hd
    have p := partsD hd
    have hp := okS_parts p.ok
    rw [j3]
    congr 1
    rw [show lowK d = j from ?_]
    have hj := (at_iff hd j0 j1).1 j2
    have hmin : ∀ i, 0 ≤ i → i ≤ d.2 → numD d % pt (d.2 - i) = 0 → j ≤ i := fun i i0 i1 hi => by
      rcases (by omega : i < j ∨ j ≤ i) with h | h
      · have := j4 i i0 h
        rw [(at_iff hd i0 i1).2 hi] at this
        exact absurd this (by decide)
      · exact h
    have hc : cmpS d.1 zeroS = 0 ↔ numD d = 0 := by
      unfold cmpS
      rw [if_pos ⟨p.ok, zeroS_ok⟩, cmpI_zero_iff, zeroS_val]
      exact Iff.rfl
    unfold lowK
    by_cases h0 : numD d = 0
    · rw [if_pos (hc.2 h0)]
      have := hmin 0 (Int.le_refl _) p.lo (by rw [h0]; exact Int.zero_emod _)
      omega
    · rw [if_neg (fun h => h0 (hc.1 h))]
      have hab := valS_abs d.1 hp.1
      have hn0 : 0 < (nval d.1.2).toNat := by
        have : (numD d).natAbs = (nval d.1.2).toNat := hab
        omega
      have hl : 0 < d.1.2.length := by
        rcases Nat.eq_zero_or_pos d.1.2.length with h | h
        · have e : d.1.2 = [] := List.eq_nil_of_length_eq_zero h
          rw [e] at hn0
          exact absurd hn0 (by decide)
        · exact h
      rw [zerosN_zN hp.1 hl]
      have key : ∀ t : Int, 0 ≤ t → (numD d % pt t = 0 ↔ t ≤ zN (nval d.1.2).toNat) := fun t ht => by
        have h1 := ten_dvd hn0 t.toNat
        have h2 : numD d % pt t = 0 ↔ 10 ^ t.toNat ∣ (nval d.1.2).toNat := by
          rw [← pt_nat, ← hab]
          constructor
          · intro h
            exact Int.ofNat_dvd_left.1 (Int.dvd_of_emod_eq_zero h)
          · intro h
            exact Int.emod_eq_zero_of_dvd (Int.ofNat_dvd_left.2 h)
        rw [h2, h1]
        omega
      have k1 := (key (d.2 - j) (by omega)).1 hj
      split
      · rename_i hs
        have := hmin 0 (Int.le_refl _) p.lo ((key _ (by have := p.lo; omega)).2 (by omega))
        omega
      · rename_i hs
        have := hmin (d.2 - zN (nval d.1.2).toNat) (by omega) (by omega) ((key _ (by omega)).2 (by omega))
        omega
  · have e : ∀ k, (atD d k).1 = zeroD := fun k => by unfold atD; rw [if_neg (fun h => hd h.1)]
    rw [e]
    unfold lowD
    rw [low_bad hd]
end Go.Proofs.YtbfolegllhpkjaaGreatDoor

namespace Go.Proofs.YtbfolegllhpkjaaGreatDoor
open Go.RowKit

/-- what a call answers that keeps the memory of its argument: a decimal number that leans on no other blocks, and a bool -/
def KeptD (S : List Nat) (R0 : DI) (R1 : Bool) (w : World) (e : Ending) (w' : World) : Prop :=
  ∃ (v : Value) (T : List Nat), e = .returned (.tuple #[v, .bool R1]) ∧ At T (OwnD v R0) w' ∧ (∀ i ∈ T, i ∈ S) ∧ Below w.heap.size w w'
theorem keptD_at {r : Nat} {S : List Nat} {c0 c1 c2 : Value} {x : DI} {b : Bool} {w W : World} (o : At S (OwnD (.agg #[c0, c1, c2]) x) W) (hS : ∀ i ∈ S, i < w.heap.size) (hr : w.heap.size ≤ r) (hW : Below w.heap.size w W) :
    KeptD S x b w (.returned (.tuple #[.agg #[c0, c1, c2], .bool b])) (((W.setCell ⟨r, 0, none⟩ c0).setCell ⟨r, 1, none⟩ c1).setCell ⟨r, 2, none⟩ c2) :=
  ⟨_, S, rfl, o.chg chg_set3 (fun i hi hm => by have := hS i hi; simp at hm; omega), fun i hi => hi, below_set3 hW hr⟩
theorem keptD_zero {S : List Nat} {w W : World} (hW : Below w.heap.size w W) : KeptD S zeroD false w (.returned (.tuple #[.agg #[.bool false, .slice none 0 0, .int .i64 0], .bool false])) W :=
  ⟨_, [], rfl, atD_zero _, fun _ hi => absurd hi List.not_mem_nil, hW⟩
theorem keptD_eq {S : List Nat} {q p : DI × Bool} (e : q = p) {w w' : World} {n : Ending} (h : KeptD S q.1 q.2 w n w') : KeptD S p.1 p.2 w n w' := e ▸ h
end Go.Proofs.YtbfolegllhpkjaaGreatDoor

namespace Go.Proofs.YtbfolegllhpkjaaGreatDoor
open Go.RowKit

theorem ownS_open {u c : Value} {x : SI} {w : World} (h : OwnS (.agg #[c, u]) x w) : OwnI u x.2 w := by
  obtain ⟨u', e, hu⟩ := h
  injection e with e
  simp at e
  obtain ⟨_, e2⟩ := e
  subst e2
  exact hu
theorem OwnS.below {w W : World} {v : Value} {x : SI} (h : OwnS v x w) (hb : Below w.heap.size w W) : OwnS v x W := by
  obtain ⟨u, rfl, o⟩ := h
  exact ⟨u, rfl, own_below o hb⟩
theorem one_szS : szS (ofZ 1) ≤ 1048576 := by have := ofZ_len 1; unfold szS szI; omega
theorem postQb_eq {q Q : QI × Bool} (e : q = Q) {w w' : World} {n : Ending} (h : PostQb q.1 q.2 w n w') : PostQb Q.1 Q.2 w n w' := by rw [← e]; exact h
theorem postn_eq {z z' : Int} (e : z = z') {w w' : World} {n : Ending} (h : Postn z w n w') : Postn z' w n w' := by rw [← e]; exact h
theorem newQ_ret {r : Nat} {u d c0 c1 c2 : Value} {x : QI} {w W : World} {B C : Nat} (hb : BoxAt r #[c0, c1, c2] 37 W) (o : W.ownsRow B 3 1 u x.1.2.length (intsV x.1.2)) (p : W.ownsRow C 3 1 d x.2.length (intsV x.2))
    (hap : ∀ g, u.ownBlock = some g → d.ownBlock ≠ some g) (hB : w.heap.size ≤ B) (hC : w.heap.size ≤ C) (hr : w.heap.size ≤ r) (hW : Below w.heap.size w W) :
    NewV (fun v => OwnQ v x) w (.returned (.agg #[.bool x.1.1, u, d])) (((W.setCell ⟨r, 0, none⟩ (.bool x.1.1)).setCell ⟨r, 1, none⟩ u).setCell ⟨r, 2, none⟩ d) := by
  obtain ⟨v, S, e, k1, k2, k3⟩ := newQb_ret (b := true) hb o p hap hB hC hr hW
  refine ⟨v, S, ?_, k1, k2, k3⟩
  injection e with e
  injection e with e
  simp at e
  rw [e]
theorem OwnQ.below {w W : World} {v : Value} {x : QI} (h : OwnQ v x w) (hb : Below w.heap.size w W) : OwnQ v x W := by
  obtain ⟨u, d, rfl, o, p, hap⟩ := h
  exact ⟨u, d, rfl, own_below o hb, own_below p hb, hap⟩
end Go.Proofs.YtbfolegllhpkjaaGreatDoor

namespace Go.Proofs.YtbfolegllhpkjaaGreatDoor
open Go.RowKit

/-- what a call answers: a new signed number and a bool; a new signed number, a new fraction and a bool -/
def PostSb (R0 : SI) (R1 : Bool) (w : World) (e : Ending) (w' : World) : Prop :=
  ∃ (v : Value) (S : List Nat), e = .returned (.tuple #[v, .bool R1]) ∧ At S (OwnS v R0) w' ∧ Within S w.heap.size w'.heap.size ∧ Below w.heap.size w w'
def PostSQb (R0 : SI) (R1 : QI) (R2 : Bool) (w : World) (e : Ending) (w' : World) : Prop :=
  ∃ (v u : Value) (S T : List Nat), e = .returned (.tuple #[v, u, .bool R2]) ∧ At S (OwnS v R0) w' ∧ At T (OwnQ u R1) w' ∧ (∀ g ∈ S, g ∉ T) ∧ Within S w.heap.size w'.heap.size ∧ Within T w.heap.size w'.heap.size ∧ Below w.heap.size w w'
theorem postSb_eq {a r : SI} {b k : Bool} {w w' : World} {e : Ending} (h : PostSb a b w e w') (ha : a = r) (hb : b = k) : PostSb r k w e w' := by subst ha hb; exact h
end Go.Proofs.YtbfolegllhpkjaaGreatDoor

namespace Go.Proofs.YtbfolegllhpkjaaGreatDoor
open Go.RowKit

theorem modeB_in (m : Int) : inB m 0 6 = modeB m := rfl
/-- what a call answers that gives a string -/
def PostN (s : ByteArray) (w : World) (e : Ending) (w' : World) : Prop := e = .returned (.string s) ∧ Below w.heap.size w w'
theorem bytes_neM {a b : ByteArray} (h : ¬ a = b) : (a.toList == b.toList) = false := by
  rw [beq_eq_false_iff_ne]
  rw [ByteArray.toList_eq, ByteArray.toList_eq]
  exact fun e => h (WideShapes.bytes_inj e)
theorem bytes_eqM {a b : ByteArray} (h : a = b) : (a.toList == b.toList) = true := by subst h; exact beq_self_eq_true _
/-- impl's table of the modes -/
def modeCells : Array Value := #[.string ⟨#[100, 111, 119, 110]⟩, .func (.func 125) #[] #[], .string ⟨#[117, 112]⟩, .func (.func 126) #[] #[], .string ⟨#[102, 108, 111, 111, 114]⟩, .func (.func 127) #[] #[], .string ⟨#[99, 101, 105, 108]⟩, .func (.func 128) #[] #[], .string ⟨#[104, 97, 108, 102, 100, 111, 119, 110]⟩, .func (.func 129) #[] #[], .string ⟨#[104, 97, 108, 102, 117, 112]⟩, .func (.func 131) #[] #[], .string ⟨#[104, 97, 108, 102, 101, 118, 101, 110]⟩, .func (.func 132) #[] #[]]
set_option maxHeartbeats 1000000 in
set_option maxRecDepth 100000 in
theorem roundings_any (w : World) : Calls Tryz.prog 98 #[] w fun e w' => ∃ b : Nat, e = .returned (.slice (some ⟨b, 0, none⟩) 7 7) ∧ At [b] (BoxAt b modeCells 106) w' ∧ w.heap.size ≤ b ∧ Below w.heap.size w w' := by
  go_enter Tryz.func98, Tryz.ntmps98
  go_wp2
  go_ret
  exact ⟨_, rfl, box_new _ _ _, Nat.le_refl _, below_al (Below.refl _ _) _⟩
theorem below_set2M {W0 W : World} {g : Nat} {a b : Value} (h : Below W0.heap.size W0 W) (hg : W0.heap.size ≤ g) : Below W0.heap.size W0 ((W.setCell ⟨g, 0, none⟩ a).setCell ⟨g, 1, none⟩ b) := (h.setCell (p := ⟨g, 0, none⟩) hg _).setCell (p := ⟨g, 1, none⟩) hg _
/-- the function that impl's table holds for a mode -/
def fnOf (m : Int) : FuncId := if m = 0 then 125 else if m = 1 then 126 else if m = 2 then 127 else if m = 3 then 128 else if m = 4 then 129 else if m = 5 then 131 else 132
def PostRM (s : ByteArray) (f : Value) (b : Bool) (w : World) (e : Ending) (w' : World) : Prop := e = .returned (.tuple #[.agg #[.string s, f], .bool b]) ∧ Below w.heap.size w w'
set_option maxHeartbeats 4000000 in
set_option maxRecDepth 100000 in
theorem roundingOf_mode (m : Int) (hm : modeB m = true) (w : World) : Calls Tryz.prog 66 #[.int .i64 m] w (PostRM (nameB m) (.func (.func (fnOf m)) #[] #[]) true w) := by
  have bb0 : Below w.heap.size w (w.alloc (.cells #[.string ⟨#[]⟩, .nilFunc] 106)) := below_al (Below.refl _ _) _
  have ko := box_new w #[.string ⟨#[]⟩, .nilFunc] 106
  rcases modeB_cases hm with rfl | rfl | rfl | rfl | rfl | rfl | rfl
  · clear hm
    go_enter Tryz.func66, Tryz.ntmps66
    go_wp2_with fail
    refine (roundings_any _).mono ?_
    rintro e w1 ⟨b, rfl, kb, hb, b1⟩
    have bb1 := Below.next bb0 b1
    replace ko := ko.below b1
    have cb0 : w1.cell? ⟨b, 0, none⟩ = some (.string ⟨#[100, 111, 119, 110]⟩) := kb.here.cell 0 _ rfl
    have cb1 : w1.cell? ⟨b, 1, none⟩ = some (.func (.func 125) #[] #[]) := kb.here.cell 1 _ rfl
    have cz0 := ko.here.cell 0 _ rfl
    have cz1 := ko.here.cell 1 _ rfl
    have fz0 := Lib.frozen_of_heap ko.here 0
    have fz1 := Lib.frozen_of_heap ko.here 1
    go_wp2
    refine bodyPost_ret (v := .tuple #[.agg #[.string ⟨#[100, 111, 119, 110]⟩, .func (.func 125) #[] #[]], .bool true]) (by simp [results, Tryz.results66, go_sem, cz0, cz1]) rfl ?_
    exact ⟨rfl, below_set2M bb1 (Nat.le_refl _)⟩
  · clear hm
    go_enter Tryz.func66, Tryz.ntmps66
    go_wp2_with fail
    refine (roundings_any _).mono ?_
    rintro e w1 ⟨b, rfl, kb, hb, b1⟩
    have bb1 := Below.next bb0 b1
    replace ko := ko.below b1
    have cb0 : w1.cell? ⟨b, 2, none⟩ = some (.string ⟨#[117, 112]⟩) := kb.here.cell 2 _ rfl
    have cb1 : w1.cell? ⟨b, 3, none⟩ = some (.func (.func 126) #[] #[]) := kb.here.cell 3 _ rfl
    have cz0 := ko.here.cell 0 _ rfl
    have cz1 := ko.here.cell 1 _ rfl
    have fz0 := Lib.frozen_of_heap ko.here 0
    have fz1 := Lib.frozen_of_heap ko.here 1
    go_wp2
    refine bodyPost_ret (v := .tuple #[.agg #[.string ⟨#[117, 112]⟩, .func (.func 126) #[] #[]], .bool true]) (by simp [results, Tryz.results66, go_sem, cz0, cz1]) rfl ?_
    exact ⟨rfl, below_set2M bb1 (Nat.le_refl _)⟩
  · clear hm
    go_enter Tryz.func66, Tryz.ntmps66
    go_wp2_with fail
    refine (roundings_any _).mono ?_
    rintro e w1 ⟨b, rfl, kb, hb, b1⟩
    have bb1 := Below.next bb0 b1
    replace ko := ko.below b1
    have cb0 : w1.cell? ⟨b, 4, none⟩ = some (.string ⟨#[102, 108, 111, 111, 114]⟩) := kb.here.cell 4 _ rfl
    have cb1 : w1.cell? ⟨b, 5, none⟩ = some (.func (.func 127) #[] #[]) := kb.here.cell 5 _ rfl
    have cz0 := ko.here.cell 0 _ rfl
    have cz1 := ko.here.cell 1 _ rfl
    have fz0 := Lib.frozen_of_heap ko.here 0
    have fz1 := Lib.frozen_of_heap ko.here 1
    go_wp2
    refine bodyPost_ret (v := .tuple #[.agg #[.string ⟨#[102, 108, 111, 111, 114]⟩, .func (.func 127) #[] #[]], .bool true]) (by simp [results, Tryz.results66, go_sem, cz0, cz1]) rfl ?_
    exact ⟨rfl, below_set2M bb1 (Nat.le_refl _)⟩
  · clear hm
    go_enter Tryz.func66, Tryz.ntmps66
    go_wp2_with fail
    refine (roundings_any _).mono ?_
    rintro e w1 ⟨b, rfl, kb, hb, b1⟩
    have bb1 := Below.next bb0 b1
    replace ko := ko.below b1
    have cb0 : w1.cell? ⟨b, 6, none⟩ = some (.string ⟨#[99, 101, 105, 108]⟩) := kb.here.cell 6 _ rfl
    have cb1 : w1.cell? ⟨b, 7, none⟩ = some (.func (.func 128) #[] #[]) := kb.here.cell 7 _ rfl
    have cz0 := ko.here.cell 0 _ rfl
    have cz1 := ko.here.cell 1 _ rfl
    have fz0 := Lib.frozen_of_heap ko.here 0
    have fz1 := Lib.frozen_of_heap ko.here 1
    go_wp2
    refine bodyPost_ret (v := .tuple #[.agg #[.string ⟨#[99, 101, 105, 108]⟩, .func (.func 128) #[] #[]], .bool true]) (by simp [results, Tryz.results66, go_sem, cz0, cz1]) rfl ?_
    exact ⟨rfl, below_set2M bb1 (Nat.le_refl _)⟩
  · clear hm
    go_enter Tryz.func66, Tryz.ntmps66
    go_wp2_with fail
    refine (roundings_any _).mono ?_
    rintro e w1 ⟨b, rfl, kb, hb, b1⟩
    have bb1 := Below.next bb0 b1
    replace ko := ko.below b1
    have cb0 : w1.cell? ⟨b, 8, none⟩ = some (.string ⟨#[104, 97, 108, 102, 100, 111, 119, 110]⟩) := kb.here.cell 8 _ rfl
    have cb1 : w1.cell? ⟨b, 9, none⟩ = some (.func (.func 129) #[] #[]) := kb.here.cell 9 _ rfl
    have cz0 := ko.here.cell 0 _ rfl
    have cz1 := ko.here.cell 1 _ rfl
    have fz0 := Lib.frozen_of_heap ko.here 0
    have fz1 := Lib.frozen_of_heap ko.here 1
    go_wp2
    refine bodyPost_ret (v := .tuple #[.agg #[.string ⟨#[104, 97, 108, 102, 100, 111, 119, 110]⟩, .func (.func 129) #[] #[]], .bool true]) (by simp [results, Tryz.results66, go_sem, cz0, cz1]) rfl ?_
    exact ⟨rfl, below_set2M bb1 (Nat.le_refl _)⟩
  · clear hm
    go_enter Tryz.func66, Tryz.ntmps66
    go_wp2_with fail
    refine (roundings_any _).mono ?_
    rintro e w1 ⟨b, rfl, kb, hb, b1⟩
    have bb1 := Below.next bb0 b1
    replace ko := ko.below b1
    have cb0 : w1.cell? ⟨b, 10, none⟩ = some (.string ⟨#[104, 97, 108, 102, 117, 112]⟩) := kb.here.cell 10 _ rfl
    have cb1 : w1.cell? ⟨b, 11, none⟩ = some (.func (.func 131) #[] #[]) := kb.here.cell 11 _ rfl
    have cz0 := ko.here.cell 0 _ rfl
    have cz1 := ko.here.cell 1 _ rfl
    have fz0 := Lib.frozen_of_heap ko.here 0
    have fz1 := Lib.frozen_of_heap ko.here 1
    go_wp2
    refine bodyPost_ret (v := .tuple #[.agg #[.string ⟨#[104, 97, 108, 102, 117, 112]⟩, .func (.func 131) #[] #[]], .bool true]) (by simp [results, Tryz.results66, go_sem, cz0, cz1]) rfl ?_
    exact ⟨rfl, below_set2M bb1 (Nat.le_refl _)⟩
  · clear hm
    go_enter Tryz.func66, Tryz.ntmps66
    go_wp2_with fail
    refine (roundings_any _).mono ?_
    rintro e w1 ⟨b, rfl, kb, hb, b1⟩
    have bb1 := Below.next bb0 b1
    replace ko := ko.below b1
    have cb0 : w1.cell? ⟨b, 12, none⟩ = some (.string ⟨#[104, 97, 108, 102, 101, 118, 101, 110]⟩) := kb.here.cell 12 _ rfl
    have cb1 : w1.cell? ⟨b, 13, none⟩ = some (.func (.func 132) #[] #[]) := kb.here.cell 13 _ rfl
    have cz0 := ko.here.cell 0 _ rfl
    have cz1 := ko.here.cell 1 _ rfl
    have fz0 := Lib.frozen_of_heap ko.here 0
    have fz1 := Lib.frozen_of_heap ko.here 1
    go_wp2
    refine bodyPost_ret (v := .tuple #[.agg #[.string ⟨#[104, 97, 108, 102, 101, 118, 101, 110]⟩, .func (.func 132) #[] #[]], .bool true]) (by simp [results, Tryz.results66, go_sem, cz0, cz1]) rfl ?_
    exact ⟨rfl, below_set2M bb1 (Nat.le_refl _)⟩
set_option maxHeartbeats 4000000 in
set_option maxRecDepth 100000 in
theorem roundingOf_none (m : Int) (hm : ¬ modeB m = true) (w : World) : Calls Tryz.prog 66 #[.int .i64 m] w (PostRM ⟨#[]⟩ .nilFunc false w) := by
  have bb0 : Below w.heap.size w (w.alloc (.cells #[.string ⟨#[]⟩, .nilFunc] 106)) := below_al (Below.refl _ _) _
  have ko := box_new w #[.string ⟨#[]⟩, .nilFunc] 106
  have h6 := (modeB_false hm).2
  clear hm
  by_cases h0 : m < 0
  · clear h6
    go_enter Tryz.func66, Tryz.ntmps66
    go_wp2_with fail
    refine (roundings_any _).mono ?_
    rintro e w1 ⟨b, rfl, kb, hb, b1⟩
    have bb1 := Below.next bb0 b1
    replace ko := ko.below b1
    have cz0 := ko.here.cell 0 _ rfl
    have cz1 := ko.here.cell 1 _ rfl
    have fz0 := Lib.frozen_of_heap ko.here 0
    have fz1 := Lib.frozen_of_heap ko.here 1
    go_wp2
    refine bodyPost_ret (v := .tuple #[.agg #[.string ⟨#[]⟩, .nilFunc], .bool false]) (by simp [results, Tryz.results66, go_sem, cz0, cz1]) rfl ?_
    exact ⟨rfl, below_set2M bb1 (Nat.le_refl _)⟩
  · have h7 : ((7 : Nat) : Int) ≤ m := by omega
    clear h6
    go_enter Tryz.func66, Tryz.ntmps66
    go_wp2_with fail
    refine (roundings_any _).mono ?_
    rintro e w1 ⟨b, rfl, kb, hb, b1⟩
    have bb1 := Below.next bb0 b1
    replace ko := ko.below b1
    have cz0 := ko.here.cell 0 _ rfl
    have cz1 := ko.here.cell 1 _ rfl
    have fz0 := Lib.frozen_of_heap ko.here 0
    have fz1 := Lib.frozen_of_heap ko.here 1
    go_wp2
    refine bodyPost_ret (v := .tuple #[.agg #[.string ⟨#[]⟩, .nilFunc], .bool false]) (by simp [results, Tryz.results66, go_sem, cz0, cz1]) rfl ?_
    exact ⟨rfl, below_set2M bb1 (Nat.le_refl _)⟩
end Go.Proofs.YtbfolegllhpkjaaGreatDoor

namespace Go.Proofs.YtbfolegllhpkjaaGreatDoor
open Go.RowKit

theorem OwnI.belowI {v : Value} {xs : List Int} {w w' : World} (h : OwnI v xs w) (hb : Below w.heap.size w w') : OwnI v xs w' := own_below h hb
theorem ownI_eq {v : Value} {xs ys : List Int} {w : World} (h : OwnI v xs w) (e : xs = ys) : OwnI v ys w := e ▸ h
theorem ownI_lim {A : Option Addr} {c : Nat} {xs ys : List Int} {w : World} (h : OwnI (.slice A xs.length c) xs w) (e : xs = ys) : OwnI (.slice A ys.length c) ys w := e ▸ h
theorem roundVS_eq {x y : SI} {w w' : World} {e : Ending} (hxy : x = y) (h : NewV (fun u => OwnS u x) w e w') : NewV (fun u => OwnS u y) w e w' := hxy ▸ h
theorem chg_set2 {r : Nat} {c0 c1 : Value} {W : World} : Chg [r] W ((W.setCell ⟨r, 0, none⟩ c0).setCell ⟨r, 1, none⟩ c1) := ((Chg.refl _ _).setCell (by simp) _).setCell (by simp) _
/-- a result that lies in its cells at block r: a new signed number, with a bool and without -/
theorem newSb_at {r B : Nat} {S : List Nat} {c0 c1 : Value} {x : SI} {b : Bool} {w W : World} (o : At S (OwnS (.agg #[c0, c1]) x) W) (l : Within S B W.heap.size) (hrB : r < B) (hr : w.heap.size ≤ r) (hW : Below w.heap.size w W) :
    PostSb x b w (.returned (.tuple #[.agg #[c0, c1], .bool b])) ((W.setCell ⟨r, 0, none⟩ c0).setCell ⟨r, 1, none⟩ c1) := by
  have hc : Chg [r] W ((W.setCell ⟨r, 0, none⟩ c0).setCell ⟨r, 1, none⟩ c1) := chg_set2
  have hz := hc.size
  exact ⟨_, S, rfl, o.chg hc (fun i hi hm => by have := l i hi; simp at hm; omega), fun i hi => by have := l i hi; omega, below_set2 hW hr⟩
theorem newS_at {r B : Nat} {S : List Nat} {c0 c1 : Value} {x : SI} {w W : World} (o : At S (OwnS (.agg #[c0, c1]) x) W) (l : Within S B W.heap.size) (hrB : r < B) (hr : w.heap.size ≤ r) (hW : Below w.heap.size w W) :
    NewV (fun v => OwnS v x) w (.returned (.agg #[c0, c1])) ((W.setCell ⟨r, 0, none⟩ c0).setCell ⟨r, 1, none⟩ c1) := by
  have hc : Chg [r] W ((W.setCell ⟨r, 0, none⟩ c0).setCell ⟨r, 1, none⟩ c1) := chg_set2
  have hz := hc.size
  exact ⟨_, S, rfl, o.chg hc (fun i hi hm => by have := l i hi; simp at hm; omega), fun i hi => by have := l i hi; omega, below_set2 hW hr⟩
theorem ownS_zero (w : World) : OwnS (.agg #[.bool false, .slice none 0 0]) zeroS w := ⟨_, rfl, World.ownsRow_nil _ _ _ _⟩
theorem newSb_zero {w W : World} (b : Bool) (hW : Below w.heap.size w W) : PostSb zeroS b w (.returned (.tuple #[.agg #[.bool false, .slice none 0 0], .bool b])) W :=
  ⟨_, [], rfl, ⟨ownS_zero _, fun _ hg => absurd hg List.not_mem_nil, fun w' _ => ownS_zero w'⟩, fun _ hg => absurd hg List.not_mem_nil, hW⟩
/-- quotient and rest -/
theorem quot_rest {r : QI} : (nval r.1.2 / nval r.2).toNat = (topN r / denQ r : Nat) ∨ ¬ okQ r = true := by
  by_cases h : okQ r = true
  · have p := parts_of h
    refine .inl ?_
    rw [p.n, p.d, limbs_val, limbs_val]
    exact div_toNat _ _
  · exact .inr h
theorem quot_of {r : QI} (h : okQ r = true) : (nval r.1.2 / nval r.2).toNat = topN r / denQ r := by
  have p := parts_of h
  rw [p.n, p.d, limbs_val, limbs_val]
  exact div_toNat _ _
theorem rest_of {r : QI} (h : okQ r = true) : (nval r.1.2 % nval r.2).toNat = topN r % denQ r := by
  have p := parts_of h
  rw [p.n, p.d, limbs_val, limbs_val, ← Int.natCast_emod]
  exact Int.toNat_natCast _
/-- sizes of quotient and rest -/
theorem quot_len {r : QI} (h : okQ r = true) : (limbs (topN r / denQ r)).length ≤ 18 := limbs_length_le _ 18 (by
  have p := (parts_of h).nlt
  have := Nat.div_le_self (topN r) (denQ r)
  omega)
theorem rest_len {r : QI} (h : okQ r = true) : (limbs (topN r % denQ r)).length ≤ 18 := limbs_length_le _ 18 (by
  have p := (parts_of h).dlt
  have := Nat.mod_lt (topN r) (denQ_pos h)
  omega)
theorem even_limbs {k : Nat} (h : (limbs k).length ≤ 50) : evenB (limbs k) = decide (k % 2 = 0) := by
  unfold evenB
  rw [limbs_okL _ h, Bool.true_and]
  have e : (limbs k).headD 0 % 2 = ((k % 2 : Nat) : Int) := by
    by_cases h : k = 0
    · subst h; rw [limbs, dif_pos rfl]; rfl
    · rw [limbs, dif_neg h]
      show ((k % 1000000000 : Nat) : Int) % 2 = _
      omega
  rw [e, decide_eq_decide]
  omega
theorem round_plain {r : QI} {m : Int} (h : topN r % denQ r = 0 ∨ awayB r.1.1 (topN r / denQ r) (topN r % denQ r) (denQ r) m = false) : mkS r.1.1 (limbs (topN r / denQ r)) = roundS r m := by
  unfold roundS roundN
  rw [if_neg (fun e => by rcases h with h | h; exact e.1 h; rw [h] at e; exact absurd e.2 (by decide)), Nat.add_zero]
theorem round_more {r : QI} {m : Int} (h : topN r % denQ r ≠ 0) (ha : awayB r.1.1 (topN r / denQ r) (topN r % denQ r) (denQ r) m = true) : mkS r.1.1 (limbs (topN r / denQ r + 1)) = roundS r m := by
  unfold roundS roundN
  rw [if_pos ⟨h, ha⟩]
theorem one_more (Q : Nat) : trimL (addL (limbs Q) [1] 0) = limbs (Q + 1) := by
  have h := addL_val (limbs Q) [1] 0 (limbs_digN Q) (by rw [← one_limbs]; exact limbs_digN 1) (by omega) (by omega)
  rw [trim_limbs _ h.2.1, h.1, limbs_val]
  have : nval [1] = 1 := rfl
  rw [this, show ((Q : Int) + 1 + 0).toNat = Q + 1 by omega]
theorem twice_len {R : Nat} (h : (limbs R).length ≤ 18) : (addL (limbs R) (limbs R) 0).length ≤ 40 ∧ DigN (addL (limbs R) (limbs R) 0) ∧ (addL (limbs R) (limbs R) 0).getLastD 1 ≠ 0 ∧ nval (addL (limbs R) (limbs R) 0) = (R : Int) + R + 0 := by
  have hs := addL_val (limbs R) (limbs R) 0 (limbs_digN R) (limbs_digN R) (by omega) (by omega)
  rw [limbs_val] at hs
  exact ⟨by omega, hs.2.1, addL_last _ _ _ (limbs_digN R) (limbs_digN R) (by omega) (by omega) (limbs_lastN R) (limbs_lastN R), hs.1⟩
theorem awayB_0 (neg : Bool) (Q R D : Nat) : awayB neg Q R D 0 = false := rfl
theorem awayB_1 (neg : Bool) (Q R D : Nat) : awayB neg Q R D 1 = true := rfl
theorem awayB_2 (neg : Bool) (Q R D : Nat) : awayB neg Q R D 2 = neg := rfl
theorem awayB_3 (neg : Bool) (Q R D : Nat) : awayB neg Q R D 3 = !neg := rfl
theorem awayB_4 (neg : Bool) (Q R D : Nat) : awayB neg Q R D 4 = decide (D < 2 * R) := rfl
theorem awayB_5 (neg : Bool) (Q R D : Nat) : awayB neg Q R D 5 = decide (D ≤ 2 * R) := rfl
theorem awayB_6 (neg : Bool) (Q R D : Nat) : awayB neg Q R D 6 = (decide (D < 2 * R) || (decide (2 * R = D) && decide (Q % 2 = 1))) := rfl
/-- the modes that look at the half, by how twice the rest compares with the denominator -/
theorem away_cmp (neg : Bool) (Q R D : Nat) {c : Int} (h : cmpI ((R : Int) + R + 0) D = c) : awayB neg Q R D 4 = decide (0 < c) ∧ awayB neg Q R D 5 = decide (0 ≤ c) ∧ awayB neg Q R D 6 = (decide (0 < c) || (decide (c = 0) && decide (Q % 2 = 1))) := by
  have t := twice_cmp R D
  rw [h] at t
  rw [awayB_4, awayB_5, awayB_6, decide_eq_decide.2 t.1, decide_eq_decide.2 t.2.1, decide_eq_decide.2 t.2.2]
  exact ⟨rfl, rfl, rfl⟩
theorem cmp_three (x y : Int) : cmpI x y = -1 ∨ cmpI x y = 0 ∨ cmpI x y = 1 := by unfold cmpI; split; exact .inl rfl; split; exact .inr (.inr rfl); exact .inr (.inl rfl)
theorem den_cmp {r : QI} {n : Int} (ok : okQ r = true) : decide ((denQ r : Int) = n) = (cmpI (nval r.2) n == 0) := by
  have e : nval r.2 = (denQ r : Int) := by
    have p := (parts_of ok).d
    unfold denQ
    rw [p, limbs_val, Int.toNat_natCast]
  rw [e, Bool.eq_iff_iff, decide_eq_true_eq, beq_iff_eq]
  unfold cmpI
  split
  · omega
  · split <;> omega
theorem wholeB_cmp {r : QI} (ok : okQ r = true) : wholeB r = (cmpI (nval r.2) (nval [1]) == 0) := by
  rw [← den_cmp ok]
  unfold wholeB
  rw [ok, Bool.true_and, decide_eq_decide]
  show _ ↔ (denQ r : Int) = 1
  omega
theorem halfB_cmp {r : QI} (ok : okQ r = true) : halfB r = (cmpI (nval r.2) (nval [2]) == 0) := by
  rw [← den_cmp ok]
  unfold halfB
  rw [ok, Bool.true_and, decide_eq_decide]
  show _ ↔ (denQ r : Int) = 2
  omega
theorem dig_1 : DigN [1] := by rw [← one_limbs]; exact limbs_digN 1
theorem two_limbs : limbs 2 = [2] := by rw [limbs, dif_neg (by decide), limbs, dif_pos (by decide)]; rfl
theorem dig_2 : DigN [2] := by rw [← two_limbs]; exact limbs_digN 2
theorem limbs_none_iff {n : Nat} : (limbs n).length = 0 ↔ n = 0 := limbs_zero_iff n
end Go.Proofs.YtbfolegllhpkjaaGreatDoor

namespace Go.Proofs.YtbfolegllhpkjaaGreatDoor
open Go.RowKit

/-- what a call answers: two new signed numbers (and an int) -/
def PostSS (X Y : SI) (w : World) (e : Ending) (w' : World) : Prop :=
  ∃ (u v : Value) (S T : List Nat), e = .returned (.tuple #[u, v]) ∧ At S (OwnS u X) w' ∧ At T (OwnS v Y) w' ∧ Within S w.heap.size w'.heap.size ∧ Within T w.heap.size w'.heap.size ∧ Below w.heap.size w w'
def PostSSn (X Y : SI) (n : Int) (w : World) (e : Ending) (w' : World) : Prop :=
  ∃ (u v : Value) (S T : List Nat), e = .returned (.tuple #[u, v, .int .i64 n]) ∧ At S (OwnS u X) w' ∧ At T (OwnS v Y) w' ∧ Within S w.heap.size w'.heap.size ∧ Within T w.heap.size w'.heap.size ∧ Below w.heap.size w w'
theorem postSSn_chg {S T R : List Nat} {u v : Value} {X Y : SI} {n : Int} {w W : World} (o : At S (OwnS u X) W) (q : At T (OwnS v Y) W) (hS : ∀ i ∈ S, i ∉ R) (hT : ∀ i ∈ T, i ∉ R) (hR : ∀ i ∈ R, w.heap.size ≤ i) (lS : ∀ i ∈ S, w.heap.size ≤ i) (lT : ∀ i ∈ T, w.heap.size ≤ i) (hW : Below w.heap.size w W) :
    ∀ W', Chg R W W' → PostSSn X Y n w (.returned (.tuple #[u, v, .int .i64 n])) W' :=
  fun _ hc => ⟨u, v, S, T, rfl, o.chg hc hS, q.chg hc hT, fun i hi => ⟨lS i hi, Nat.lt_of_lt_of_le (o.lt i hi) hc.size⟩, fun i hi => ⟨lT i hi, Nat.lt_of_lt_of_le (q.lt i hi) hc.size⟩, below_chg hW hc hW.size hR⟩
theorem postSS_chg {S T R : List Nat} {u v : Value} {X Y : SI} {w W : World} (o : At S (OwnS u X) W) (q : At T (OwnS v Y) W) (hS : ∀ i ∈ S, i ∉ R) (hT : ∀ i ∈ T, i ∉ R) (hR : ∀ i ∈ R, w.heap.size ≤ i) (lS : ∀ i ∈ S, w.heap.size ≤ i) (lT : ∀ i ∈ T, w.heap.size ≤ i) (hW : Below w.heap.size w W) :
    ∀ W', Chg R W W' → PostSS X Y w (.returned (.tuple #[u, v])) W' :=
  fun _ hc => ⟨u, v, S, T, rfl, o.chg hc hS, q.chg hc hT, fun i hi => ⟨lS i hi, Nat.lt_of_lt_of_le (o.lt i hi) hc.size⟩, fun i hi => ⟨lT i hi, Nat.lt_of_lt_of_le (q.lt i hi) hc.size⟩, below_chg hW hc hW.size hR⟩
theorem newVS_eqD {x y : SI} (h : x = y) {w w' : World} {e : Ending} (k : NewV (fun v => OwnS v x) w e w') : NewV (fun v => OwnS v y) w e w' := h ▸ k
theorem newS_is {x y : SI} (h : x = y) {w w' : World} {e : Ending} (k : NewS x w e w') : NewV (fun v => OwnS v y) w e w' := by subst h; exact k.newV
/-- a number at the greater scale -/
def upS (a : DI) (s : Int) : SI := mulS a.1 (tenS (s - a.2))
theorem upS_len (a : DI) (s : Int) : (upS a s).2.length ≤ 50 := by unfold upS mulS; split; exact ofZ_len _; decide
theorem tenS_len (k : Int) : (tenS k).2.length ≤ 1048576 := by have := tenN_len k; show (tenN k).length ≤ _; omega
theorem topD_max (a b : DI) : max a.2 b.2 = topD a b := by unfold topD; split <;> omega
theorem topD_lt {a b : DI} (h : a.2 < b.2) : topD a b = b.2 := if_pos h
theorem topD_ge {a b : DI} (h : ¬ a.2 < b.2) : topD a b = a.2 := if_neg h
end Go.Proofs.YtbfolegllhpkjaaGreatDoor

namespace Go.Proofs.YtbfolegllhpkjaaGreatDoor
open Go.RowKit

theorem postQb_isD {q : QI × Bool} {X : QI} {b : Bool} (e : q = (X, b)) {w w' : World} {n : Ending} (h : PostQb q.1 q.2 w n w') : PostQb X b w n w' := by rw [e] at h; exact h
theorem newQ_zeroD {w W : World} (hW : Below w.heap.size w W) : NewV (fun v => OwnQ v zeroQ) w (.returned (.agg #[.bool false, .slice none 0 0, .slice none 0 0])) W :=
  ⟨_, [], rfl, ⟨ownQ_zero _, fun _ hg => absurd hg List.not_mem_nil, fun w' _ => ownQ_zero w'⟩, fun _ hg => absurd hg List.not_mem_nil, hW⟩
theorem szS_ten (k : Int) : szS (tenS k) ≤ 1048576 := by have := tenN_len k; show ((tenN k).length : Int) ≤ _; omega
theorem szS_num {a : DI} (h : a.1.2.length ≤ 1048575) : szS a.1 ≤ 1048576 := by unfold szS szI; omega
theorem newI_eqD {a b : List Int} {w w' : World} {e : Ending} (h : NewInts a w e w') (h1 : a = b) : NewInts b w e w' := by subst h1; exact h
theorem divQ_szD (x y : QI) : szQ (divQ x y).1 ≤ 1048576 := by unfold divQ; split; exact lowQ_sz _ _ _; decide
theorem newVQ_eq {a b : QI} (e : a = b) {w w' : World} {n : Ending} (h : NewV (fun v => OwnQ v a) w n w') : NewV (fun v => OwnQ v b) w n w' := e ▸ h
end Go.Proofs.YtbfolegllhpkjaaGreatDoor

namespace Go.Proofs.YtbfolegllhpkjaaGreatDoor
open Go.RowKit


set_option maxHeartbeats 2000000 in
set_option maxRecDepth 100000 in
theorem implIntCmp_any (vx vy : Value) (x y : SI) (w : World) (hlx : x.2.length ≤ 1048576) (hly : y.2.length ≤ 1048576) (hx : OwnS vx x w) (hy : OwnS vy y w) :
    Calls Tryz.prog 32 #[vx, vy] w fun e w' => e = .returned (.int .i64 (cmpS x y)) ∧ Below w.heap.size w w' := by
  obtain ⟨ux, rfl, hox⟩ := hx
  obtain ⟨uy, rfl, hoy⟩ := hy
  obtain ⟨Ax, cx, rfl⟩ := own_len hox
  obtain ⟨Ay, cy, rfl⟩ := own_len hoy
  have hbb : Below w.heap.size w ((w.alloc (.cells #[.bool x.1, .slice Ax x.2.length cx] 25)).alloc (.cells #[.bool y.1, .slice Ay y.2.length cy] 25)) := below_al (below_al (Below.refl _ _) _) _
  have kx := (box_new w #[.bool x.1, .slice Ax x.2.length cx] 25).below (below_al (Below.refl _ _) (.cells #[.bool y.1, .slice Ay y.2.length cy] 25))
  have ky := box_new (w.alloc (.cells #[.bool x.1, .slice Ax x.2.length cx] 25)) #[.bool y.1, .slice Ay y.2.length cy] 25
  rw [show (w.alloc (.cells #[.bool x.1, .slice Ax x.2.length cx] 25)).heap.size = w.heap.size + 1 by simp] at ky
  have ox := own_below hox hbb
  have oy := own_below hoy hbb
  have rdx := (OwnS.mk (x := x) (ownI_of ox)).rd
  clear hox hoy
  by_cases okx : okS x = true
  · go_enter Tryz.func32, Tryz.ntmps32
    go_wp2_with fail
    refine (implIntOk_any _ x _ hlx rdx).mono ?_
    rintro e w1 ⟨rfl, b1⟩
    rw [okx]
    have bb1 := Below.next hbb b1
    replace kx := kx.below b1
    replace ky := ky.below b1
    replace ox := own_below ox b1
    replace oy := own_below oy b1
    have cy0 := ky.here.cell 0 _ rfl
    have cy1 := ky.here.cell 1 _ rfl
    clear rdx
    go_wp2_with fail
    refine (implIntOk_any _ y w1 hly (OwnS.mk (x := y) (ownI_of oy)).rd).mono ?_
    rintro e w2 ⟨rfl, b2⟩
    have bb2 := Below.next bb1 b2
    replace kx := kx.below b2
    replace ky := ky.below b2
    replace ox := own_below ox b2
    replace oy := own_below oy b2
    clear cy0 cy1
    by_cases oky : okS y = true
    · rw [oky]
      have HV := Lib.hid (show cmpS x y = cmpI (valS x) (valS y) by unfold cmpS; rw [if_pos ⟨okx, oky⟩])
      have px := okS_parts okx
      have py := okS_parts oky
      have h0x := nval_ok px.1
      have h0y := nval_ok py.1
      have Dx := Lib.hid (natOk_parts px.1)
      have Dy := Lib.hid (natOk_parts py.1)
      have cx0 := kx.here.cell 0 _ rfl
      have cx1 := kx.here.cell 1 _ rfl
      have cy0 := ky.here.cell 0 _ rfl
      have cy1 := ky.here.cell 1 _ rfl
      have hpx : x.1 = true → 0 < nval x.2 := fun h => okS_pos okx (px.2 h)
      have hpy : y.1 = true → 0 < nval y.2 := fun h => okS_pos oky (py.2 h)
      have HPX := Lib.hid hpx
      have HPY := Lib.hid hpy
      have rx := (ownI_of ox).row
      have ry := (ownI_of oy).row
      clear px py hpx hpy okx oky kx ky
      cases hx1 : x.1 <;> cases hy1 : y.1
      · rw [hx1] at cx0
        rw [hy1] at cy0
        have HC := Lib.hid (show cmpI (valS x) (valS y) = cmpI (nval x.2) (nval y.2) by unfold valS; rw [hx1, hy1]; rfl)
        clear hx1 hy1
        go_wp2_with fail
        refine (compareLimbs_any _ _ x.2 y.2 0 _ 0 _ w2 (by omega) (by omega) ⟨Dx.out.1, Dx.out.2.2⟩ ⟨Dy.out.1, Dy.out.2.2⟩ rx ry).mono ?_
        rintro e w' ⟨rfl, q, rfl⟩
        go_wp2
        go_ret
        exact ⟨ret_int (by rw [HV.out, HC.out]), below_drewN bb2 q⟩
      · rw [hx1] at cx0
        rw [hy1] at cy0
        have HC := Lib.hid (show cmpI (valS x) (valS y) = 1 by have := HPY.out hy1; unfold valS; rw [hx1, hy1]; simp; unfold cmpI; rw [if_neg (by omega), if_pos (by omega)])
        clear hx1 hy1
        go_wp2
        go_ret
        exact ⟨ret_int (by rw [HV.out, HC.out]), bb2⟩
      · rw [hx1] at cx0
        rw [hy1] at cy0
        have HC := Lib.hid (show cmpI (valS x) (valS y) = -1 by have := HPX.out hx1; unfold valS; rw [hx1, hy1]; simp; unfold cmpI; rw [if_pos (by omega)])
        clear hx1 hy1
        go_wp2
        go_ret
        exact ⟨ret_int (by rw [HV.out, HC.out]), bb2⟩
      · rw [hx1] at cx0
        rw [hy1] at cy0
        have HC := Lib.hid (show cmpI (valS x) (valS y) = cmpI (nval y.2) (nval x.2) by unfold valS; rw [hx1, hy1]; simp; unfold cmpI; split <;> split <;> (try split) <;> (try split) <;> omega)
        clear hx1 hy1
        go_wp2_with fail
        refine (compareLimbs_any _ _ y.2 x.2 0 _ 0 _ w2 (by omega) (by omega) ⟨Dy.out.1, Dy.out.2.2⟩ ⟨Dx.out.1, Dx.out.2.2⟩ ry rx).mono ?_
        rintro e w' ⟨rfl, q, rfl⟩
        go_wp2
        go_ret
        exact ⟨ret_int (by rw [HV.out, HC.out]), below_drewN bb2 q⟩
    · have oky' : okS y = false := by simpa using oky
      have HV := Lib.hid (show cmpS x y = 0 by unfold cmpS; rw [if_neg (fun h => oky h.2)])
      rw [oky']
      clear oky kx ky
      go_wp2
      go_ret
      exact ⟨ret_int HV.out.symm, bb2⟩
  · have okx' : okS x = false := by simpa using okx
    have HV := Lib.hid (show cmpS x y = 0 by unfold cmpS; rw [if_neg (fun h => okx h.1)])
    clear okx
    go_enter Tryz.func32, Tryz.ntmps32
    go_wp2_with fail
    refine (implIntOk_any _ x _ hlx rdx).mono ?_
    rintro e w1 ⟨rfl, b1⟩
    rw [okx']
    have bb1 := Below.next hbb b1
    clear kx ky rdx
    go_wp2
    go_ret
    exact ⟨ret_int HV.out.symm, bb1⟩

set_option maxHeartbeats 400000 in
set_option maxRecDepth 100000 in
theorem implIntSign_any (v : Value) (x : SI) (w : World) (hl : x.2.length ≤ 1048576) (h : OwnS v x w) :
    Calls Tryz.prog 30 #[v] w fun e w' => e = .returned (.int .i64 (cmpS x zeroS)) ∧ Below w.heap.size w w' := by
  obtain ⟨u, rfl, ho⟩ := h
  obtain ⟨A, c, rfl⟩ := own_len ho
  have hbb : Below w.heap.size w (w.alloc (.cells #[.bool x.1, .slice A x.2.length c] 25)) := below_al (Below.refl _ _) _
  have hoB := OwnS.mk (x := x) (ownI_of (own_below ho hbb))
  have hz : OwnS (.agg #[.bool false, .slice none 0 0]) zeroS (w.alloc (.cells #[.bool x.1, .slice A x.2.length c] 25)) := ⟨_, rfl, World.ownsRow_nil _ _ _ _⟩
  go_enter Tryz.func30, Tryz.ntmps30
  go_wp2_with fail
  refine (implIntCmp_any _ _ x zeroS _ hl (by decide) hoB hz).mono ?_
  rintro e w1 ⟨rfl, b1⟩
  go_wp2
  go_ret
  exact ⟨rfl, Below.next hbb b1⟩

end Go.Proofs.YtbfolegllhpkjaaGreatDoor

namespace Go.Proofs.YtbfolegllhpkjaaGreatDoor
open Go.RowKit

set_option maxHeartbeats 1000000 in
set_option maxRecDepth 100000 in
theorem implDecOk_any (vd : Value) (d : DI) (w : World) (hl : d.1.2.length ≤ 1048576) (hd : OwnD vd d w) :
    Calls Tryz.prog 24 #[vd] w (Postb (okD d) w) := by
  have Hd := Lib.hid hd
  obtain ⟨Ad, cd, rfl⟩ := ownD_form hd
  have ODd := Lib.hid (show ∀ W, Below w.heap.size w W → OwnD (.agg #[.bool d.1.1, .slice Ad d.1.2.length cd, .int .i64 d.2]) d W from fun W hb => OwnD.below Hd.out hb)
  have OId := Lib.hid (show ∀ W, Below w.heap.size w W → OwnI (.slice Ad d.1.2.length cd) d.1.2 W from fun W hb => ownD_open (ODd.out W hb))
  have OSd := Lib.hid (show ∀ W, Below w.heap.size w W → OwnS (.agg #[.bool d.1.1, .slice Ad d.1.2.length cd]) d.1 W from fun W hb => OwnS.mk (OId.out W hb))
  clear hd
  have bb0 : Below w.heap.size w (w.alloc (.cells #[.bool d.1.1, .slice Ad d.1.2.length cd, .int .i64 d.2] 27)) := below_al (Below.refl _ _) _
  have kd := (box_new w #[.bool d.1.1, .slice Ad d.1.2.length cd, .int .i64 d.2] 27)
  go_enter Tryz.func24, Tryz.ntmps24
  have kd_c0 := kd.here.cell 0 _ rfl
  have kd_c1 := kd.here.cell 1 _ rfl
  have kd_c2 := kd.here.cell 2 _ rfl
  go_wp2_with fail
  clear kd_c0 kd_c1 kd_c2
  refine (implIntOk_any _ d.1 _ hl (OwnS.rd (OSd.out _ bb0))).mono ?_
  rintro e w1 ⟨rfl, b1⟩
  have bb1 := Below.next bb0 b1
  replace kd := kd.below b1
  by_cases ok1 : okS d.1 = true
  · rw [ok1]
    have HO1 := Lib.hid ok1
    clear ok1
    by_cases hs : d.1.2.length ≤ 6
    · have HV0 := Lib.hid (show okD d = decide (0 ≤ d.2 ∧ d.2 ≤ 30) by unfold okD; rw [HO1.out, decide_eq_true hs]; rfl)
      have hs6 : (d.1.2.length : Int) ≤ 6 := by omega
      have hs7 : ¬ (6 : Int) < (d.1.2.length : Int) := by omega
      clear hs
      have kd_c0 := kd.here.cell 0 _ rfl
      have kd_c1 := kd.here.cell 1 _ rfl
      have kd_c2 := kd.here.cell 2 _ rfl
      by_cases h0 : 0 ≤ d.2
      · have h0n : ¬ d.2 < 0 := by omega
        have HV := Lib.hid (show okD d = decide (d.2 ≤ 30) by rw [HV0.out, decide_eq_decide]; exact ⟨fun h => h.2, fun h => ⟨h0, h⟩⟩)
        go_wp2
        go_ret
        exact ⟨ret_bool HV.out.symm, bb1⟩
      · have h0n : d.2 < 0 := by omega
        have HV := Lib.hid (show okD d = false by rw [HV0.out]; exact decide_eq_false (fun h => h0 h.1))
        go_wp2
        go_ret
        exact ⟨ret_bool HV.out.symm, bb1⟩
    · have HV := Lib.hid (show okD d = false by unfold okD; rw [decide_eq_false hs, Bool.false_and, Bool.and_false])
      have hs6 : ¬ (d.1.2.length : Int) ≤ 6 := by omega
      have hs7 : (6 : Int) < (d.1.2.length : Int) := by omega
      clear hs
      have kd_c0 := kd.here.cell 0 _ rfl
      have kd_c1 := kd.here.cell 1 _ rfl
      have kd_c2 := kd.here.cell 2 _ rfl
      go_wp2
      go_ret
      exact ⟨ret_bool HV.out.symm, bb1⟩
  · have ok1' : okS d.1 = false := by simpa using ok1
    have HV := Lib.hid (show okD d = false by unfold okD; rw [ok1']; rfl)
    rw [ok1']
    clear ok1 ok1'
    go_wp2
    go_ret
    exact ⟨ret_bool HV.out.symm, bb1⟩
set_option maxHeartbeats 1000000 in
set_option maxRecDepth 100000 in
theorem validDec_any (vx : Value) (x : SI) (k : Int) (S : List Nat) (w : World) (hl : x.2.length ≤ 1048576) (hx : At S (OwnS vx x) w) :
    Calls Tryz.prog 38 #[vx, .int .i64 k] w (KeptD S (decD x k).1 (decD x k).2 w) := by
  obtain ⟨Ax, cx, rfl⟩ := ownS_form hx.here
  have OX := Lib.hid (show ∀ W, Below w.heap.size w W → At S (OwnD (.agg #[.bool x.1, .slice Ax x.2.length cx, .int .i64 k]) (x, k)) W from fun W hb => (hx.below hb).imp fun _ h => OwnD.mk (q := (x, k)) (ownS_openD h))
  have HLT := Lib.hid hx.lt
  clear hx
  have bb0 : Below w.heap.size w ((w.alloc (.cells #[.bool x.1, .slice Ax x.2.length cx] 25)).alloc (.cells #[.bool false, .slice none 0 0, .int .i64 0] 27)) := below_al (below_al (Below.refl _ _) _) _
  have kx := (box_new w #[.bool x.1, .slice Ax x.2.length cx] 25).below (below_al (Below.refl _ _) (.cells #[.bool false, .slice none 0 0, .int .i64 0] 27))
  have ko := (box_new (w.alloc (.cells #[.bool x.1, .slice Ax x.2.length cx] 25)) #[.bool false, .slice none 0 0, .int .i64 0] 27)
  rw [show (w.alloc (.cells #[.bool x.1, .slice Ax x.2.length cx] 25)).heap.size = w.heap.size + 1 by simp] at ko
  go_enter Tryz.func38, Tryz.ntmps38
  have kx_c0 := kx.here.cell 0 _ rfl
  have kx_c1 := kx.here.cell 1 _ rfl
  have kd := box_new (((w.alloc (.cells #[.bool x.1, .slice Ax x.2.length cx] 25)).alloc (.cells #[.bool false, .slice none 0 0, .int .i64 0] 27))) #[.bool x.1, .slice Ax x.2.length cx, .int .i64 k] 27
  have ald := below_al (Below.refl (((w.alloc (.cells #[.bool x.1, .slice Ax x.2.length cx] 25)).alloc (.cells #[.bool false, .slice none 0 0, .int .i64 0] 27))).heap.size (((w.alloc (.cells #[.bool x.1, .slice Ax x.2.length cx] 25)).alloc (.cells #[.bool false, .slice none 0 0, .int .i64 0] 27)))) (.cells #[.bool x.1, .slice Ax x.2.length cx, .int .i64 k] 27)
  have bbd := Below.next bb0 ald
  replace kx := kx.below ald
  replace ko := ko.below ald
  rw [show ((w.alloc (.cells #[.bool x.1, .slice Ax x.2.length cx] 25)).alloc (.cells #[.bool false, .slice none 0 0, .int .i64 0] 27)).heap.size = w.heap.size + 1 + 1 by simp] at kd
  have kd_c0 := kd.here.cell 0 _ rfl
  have kd_c1 := kd.here.cell 1 _ rfl
  have kd_c2 := kd.here.cell 2 _ rfl
  go_wp2_with fail
  clear kx_c0 kx_c1 kd_c0 kd_c1 kd_c2
  refine (implDecOk_any _ (x, k) _ hl (OX.out _ bbd).here).mono ?_
  rintro e w1 ⟨rfl, b1⟩
  have bb1 := Below.next bbd b1
  replace kx := kx.below b1
  replace ko := ko.below b1
  replace kd := kd.below b1
  by_cases ok : okD (x, k) = true
  · rw [ok]
    have HV := Lib.hid (show decD x k = ((x, k), true) by unfold decD; rw [if_pos ok])
    clear ok kx
    have HW := Lib.hid (keptD_at (r := w.heap.size + 1) (b := true) (OX.out _ bb1) HLT.out (by omega) bb1)
    have kd_c0 := kd.here.cell 0 _ rfl
    have kd_c1 := kd.here.cell 1 _ rfl
    have kd_c2 := kd.here.cell 2 _ rfl
    have cz0 := ko.here.cell 0 _ rfl
    have fz0 := Lib.frozen_of_heap ko.here 0
    have cz1 := ko.here.cell 1 _ rfl
    have fz1 := Lib.frozen_of_heap ko.here 1
    have cz2 := ko.here.cell 2 _ rfl
    have fz2 := Lib.frozen_of_heap ko.here 2
    clear kd ko
    go_wp2
    refine bodyPost_ret (v := .tuple #[.agg #[.bool x.1, .slice Ax x.2.length cx, .int .i64 k], .bool true]) (by simp [results, Tryz.results38, go_sem, cz0, cz1, cz2]) rfl ?_
    rw [HV.out]
    exact HW.out
  · have ok' : okD (x, k) = false := by simpa using ok
    have HV := Lib.hid (show decD x k = (zeroD, false) by unfold decD; rw [if_neg ok])
    rw [ok']
    clear ok ok' kx kd
    have cz0 := ko.here.cell 0 _ rfl
    have fz0 := Lib.frozen_of_heap ko.here 0
    have cz1 := ko.here.cell 1 _ rfl
    have fz1 := Lib.frozen_of_heap ko.here 1
    have cz2 := ko.here.cell 2 _ rfl
    have fz2 := Lib.frozen_of_heap ko.here 2
    go_wp2
    refine bodyPost_ret (v := .tuple #[.agg #[.bool false, .slice none 0 0, .int .i64 0], .bool false]) (by simp [results, Tryz.results38, go_sem, cz0, cz1, cz2]) rfl ?_
    rw [HV.out]
    first | exact keptD_zero bb1 | exact keptD_zero (below_set3 bb1 (by omega))
set_option maxHeartbeats 1000000 in
set_option maxRecDepth 100000 in
theorem tenTo_any (k : Int) (w : World) : Calls Tryz.prog 35 #[.int .i64 k] w (NewV (fun u => OwnS u (tenS k)) w) := by
  have bb0 : Below w.heap.size w (w.alloc (.cells #[.bool false, .slice none 0 0] 25)) := below_al (Below.refl _ _) _
  have ko := (box_new w #[.bool false, .slice none 0 0] 25)
  have HKO := Lib.hid (ko.lt w.heap.size (by simp))
  go_enter Tryz.func35, Tryz.ntmps35
  go_wp2_with fail
  refine (implNatTen_any k _).mono ?_
  rintro e w1 ⟨v, rfl, o0, b1⟩
  obtain ⟨Af, cf, rfl⟩ := own_len o0
  have bb1 := Below.next bb0 b1
  replace ko := ko.below b1
  have of := (own_at' o0).imp (fun _ h => (OwnS.mk h : OwnS (.agg #[.bool (tenS k).1, .slice Af (tenN k).length cf]) (tenS k) _))
  have lf := own_within o0
  clear o0
  have HR := Lib.hid (newV_chg (φ := fun u => OwnS u (tenS k)) (v := .agg #[.bool false, .slice Af (tenN k).length cf]) (T := [w.heap.size]) of (fun i hi hm => by have := lf i hi; have := HKO.out; simp at hm; omega) (fun i hi => by simp at hi; omega) (fun i hi => by have := lf i hi; have := HKO.out; omega) bb1)
  have cz0 := ko.here.cell 0 _ rfl
  have fz0 := Lib.frozen_of_heap ko.here 0
  have cz1 := ko.here.cell 1 _ rfl
  have fz1 := Lib.frozen_of_heap ko.here 1
  clear of ko
  go_wp2
  refine bodyPost_ret (v := .agg #[.bool false, .slice Af (tenN k).length cf]) (by simp [results, Tryz.results35, go_sem, cz0, cz1]) rfl ?_
  refine HR.out _ ?_
  repeat (first | exact Chg.refl _ _ | refine Chg.setCell ?_ (by simp) _)
end Go.Proofs.YtbfolegllhpkjaaGreatDoor
