/-
  What limbAt, NatTen, NatScale, NatZeros and NatEven of package impl return.
-/
import Derived.Test.YtccajcddijhmcaaDoorNatOps
import Derived.Test.YtccajcddijhmcaaDoorDivSpec4
import Derived.Test.YtccajcddijhmcaaDoorZeros
import Derived.Test.YtccajcddijhmcaaDoorDivAt
namespace Go.Proofs.YtccajcddijhmcaaDoor
open Go.RowKit

/-! ### zeros at the end of a number -/
def zN (n : Nat) : Nat := zerosL (Lib.decDigits n)
theorem zerosL_snoc (l : List UInt8) (c : UInt8) : zerosL (l ++ [c]) = if c = 48 then zerosL l + 1 else 0 := by
  unfold zerosL
  rw [List.reverse_append, List.reverse_singleton, List.singleton_append]
  by_cases h : c = 48
  · rw [List.takeWhile_cons_of_pos (by simpa using h), if_pos h]; rfl
  · rw [List.takeWhile_cons_of_neg (by simpa using h), if_neg h]; rfl
theorem chr_eq {k : Nat} (h : k < 10) : (UInt8.ofNat (48 + k) = 48) ↔ k = 0 := by
  constructor
  · intro e
    have e2 := congrArg UInt8.toNat e
    rw [UInt8.toNat_ofNat'] at e2
    have : (48 : UInt8).toNat = 48 := rfl
    omega
  · rintro rfl; rfl
theorem zN_end (n : Nat) (h : n % 10 ≠ 0) : zN n = 0 := by
  unfold zN
  by_cases hs : n < 10
  · rw [dec_small n hs]
    have := zerosL_snoc [] (UInt8.ofNat (48 + n))
    rw [List.nil_append] at this
    rw [this, if_neg (by rw [chr_eq hs]; omega)]
  · rw [dec_big n hs, zerosL_snoc, if_neg (by rw [chr_eq (by omega)]; exact h)]
theorem zN_ten (n : Nat) (h : 0 < n) : zN (10 * n) = zN n + 1 := by
  unfold zN
  rw [dec_big (10 * n) (by omega), zerosL_snoc, show 10 * n / 10 = n by omega, show 10 * n % 10 = 0 by omega, if_pos (show UInt8.ofNat (48 + 0) = 48 from rfl)]
theorem zN_pow (k n : Nat) (h : 0 < n) : zN (10 ^ k * n) = zN n + k := by
  induction k with
  | zero => simp
  | succ k ih =>
    have hp : 0 < 10 ^ k * n := Nat.mul_pos (Nat.pow_pos (by omega)) h
    rw [Nat.pow_succ, Nat.mul_comm (10 ^ k) 10, Nat.mul_assoc, zN_ten _ hp, ih]
    omega
theorem zerosN_zN {a : List Int} (h : natOkB a = true) (h0 : 0 < a.length) : zerosN a = zN (nval a).toNat := by
  rw [(zerosN_ok h h0).1]
  unfold zN
  rw [show (natT a).data.toList = Lib.decDigits (nval a).toNat by conv => lhs; rw [natOk_limbs h, natT_dec]]
/-- the first loop of NatZeros: limbs that are zero have been passed -/
def ZerosR (a : List Int) (k : Nat) : Prop := 0 < nval (a.drop k) ∧ zN (nval a).toNat = 9 * k + zN (nval (a.drop k)).toNat
theorem ZerosR.start {a : List Int} (h : natOkB a = true) (h0 : 0 < a.length) : ZerosR a 0 := by
  have h1 := ok_ge h h0
  have h2 := bp_pos (a.length - 1)
  rw [ZerosR, List.drop_zero]
  exact ⟨by omega, by simp⟩
theorem ZerosR.lt {a : List Int} {k : Nat} (h : ZerosR a k) : k < a.length := by
  rcases Nat.lt_or_ge k a.length with hk | hk
  · exact hk
  · have := h.1
    rw [List.drop_of_length_le hk] at this
    exact absurd this (by decide)
theorem ZerosR.next {a : List Int} {k : Nat} (h : ZerosR a k) (hk : k < a.length) (hz : a[k] = 0) : ZerosR a (k + 1) := by
  obtain ⟨h1, h2⟩ := h
  rw [nval_drop a k hk, hz] at h1 h2
  refine ⟨by omega, ?_⟩
  rw [h2]
  have e : (0 + 1000000000 * nval (a.drop (k + 1))).toNat = 10 ^ 9 * (nval (a.drop (k + 1))).toNat := by omega
  rw [e, zN_pow 9 _ (by omega)]
  omega
/-- the second loop: the limb m, with f places left in it, ahead of R -/
def ZeroD (Z : Nat) (z : Int) (m : Int) (f : Nat) (R : Nat) : Prop := m < 10 ^ (f + 1) ∧ (Z : Int) = z + zN (m.toNat + 10 ^ (f + 1) * R)
theorem ZerosR.digits {a : List Int} {k : Nat} (h : ZerosR a k) (hk : k < a.length) (hd : DigN a) : ZeroD (zN (nval a).toNat) (k * 9) a[k] 8 (nval (a.drop (k + 1))).toNat := by
  obtain ⟨h1, h2⟩ := h
  have := hd.at_ k hk
  have h3 := nval_nonneg (a.drop (k + 1)) (hd.drop _)
  rw [nval_drop a k hk] at h1 h2
  refine ⟨by omega, ?_⟩
  rw [h2, show (a[k] + 1000000000 * nval (a.drop (k + 1))).toNat = a[k].toNat + 10 ^ (8 + 1) * (nval (a.drop (k + 1))).toNat by omega]
  simp
  omega
theorem ZeroD.next {Z : Nat} {z m : Int} {f R : Nat} (h : ZeroD Z z m f R) (hm : 0 < m) (h0 : m % 10 = 0) : ∃ g, f = g + 1 ∧ 0 < m / 10 ∧ ZeroD Z (z + 1) (m / 10) g R := by
  obtain ⟨h1, h2⟩ := h
  cases f with
  | zero => exfalso; omega
  | succ g =>
    refine ⟨g, rfl, by omega, ?_, ?_⟩
    · rw [Int.pow_succ] at h1; omega
    · rw [h2]
      have e : m.toNat + 10 ^ (g + 1 + 1) * R = 10 * ((m / 10).toNat + 10 ^ (g + 1) * R) := by
        rw [Nat.mul_add, ← Nat.mul_assoc, Nat.pow_succ 10 (g + 1), Nat.mul_comm (10 ^ (g + 1)) 10]
        omega
      rw [e, zN_ten _ (by omega)]
      omega
theorem ZeroD.done {Z : Nat} {z m : Int} {f R : Nat} (h : ZeroD Z z m f R) (hm : 0 < m) (h0 : m % 10 ≠ 0) : (Z : Int) = z := by
  obtain ⟨h1, h2⟩ := h
  rw [h2, zN_end]
  · simp
  · rw [Nat.pow_succ, Nat.mul_comm (10 ^ f) 10, Nat.mul_assoc]
    omega

set_option maxHeartbeats 400000 in
set_option maxRecDepth 100000 in
theorem limbAt_any (v : Value) (xs : List Int) (p : Int) (lo hi : Nat) (w : World) (_hl : xs.length ≤ 1048576) (hr : Row w lo hi v (intsV xs)) :
    Calls Tryd.prog 81 #[v, .int .i64 p] w fun e w' => e = .returned (.int .i64 (if p < 0 then 0 else xs.getD p.toNat 0)) ∧ w = w' := by
  obtain ⟨A, c, rfl, hA⟩ := hr
  rw [intsV_length]
  by_cases h0 : p < 0
  · rw [if_pos h0]
    go_enter Tryd.func81, Tryd.ntmps81
    go_wp2
    go_ret
    exact ⟨rfl, rfl⟩
  · rw [if_neg h0]
    obtain ⟨n, rfl⟩ := Int.eq_ofNat_of_zero_le (show 0 ≤ p by omega)
    rw [Int.toNat_natCast]
    by_cases h1 : n < xs.length
    · obtain ⟨a, rfl, _, _, hca⟩ := hA n _ (intsV_at xs n h1)
      rw [List.getD_eq_getElem?_getD, List.getElem?_eq_getElem h1, Option.getD_some]
      clear h0
      generalize xs[n] = x at *
      go_enter Tryd.func81, Tryd.ntmps81
      go_wp2
      go_ret
      exact ⟨rfl, rfl⟩
    · rw [List.getD_eq_getElem?_getD, List.getElem?_eq_none (by omega)]
      clear h0
      go_enter Tryd.func81, Tryd.ntmps81
      go_wp2
      go_ret
      exact ⟨rfl, rfl⟩


set_option maxHeartbeats 1000000 in
set_option maxRecDepth 100000 in
theorem implNatTen_any (k : Int) (w : World) : Calls Tryd.prog 20 #[.int .i64 k] w (NewInts (tenN k) w) := by
  obtain ⟨i0, hi0, hz0, hz1, hz2⟩ := info_parts intInfo
  by_cases h0 : k < 0
  · have HV : Hid (tenN k = []) := Lib.hid (by unfold tenN; rw [if_neg (by omega)])
    go_enter Tryd.func20, Tryd.ntmps20
    go_wp2
    go_ret
    rw [HV.out]
    exact new_nil (Below.refl _ _)
  · by_cases h1 : 450 ≤ k
    · have HV : Hid (tenN k = []) := Lib.hid (by unfold tenN; rw [if_neg (by omega)])
      go_enter Tryd.func20, Tryd.ntmps20
      go_wp2
      go_ret
      rw [HV.out]
      exact new_nil (Below.refl _ _)
    · obtain ⟨n, rfl⟩ := Int.eq_ofNat_of_zero_le (show 0 ≤ k by omega)
      have hn : n ≤ 449 := by omega
      have HV : Hid (tenN n = List.replicate (n / 9) 0 ++ [(10 : Int) ^ (n % 9)]) := Lib.hid (by unfold tenN; rw [if_pos (by omega), Int.toNat_natCast, ten_limbs])
      have hmk := make_ints (n / 9) (by omega)
      rw [show ((n / 9 : Nat) : Int) = (n : Int) / 9 by omega] at hmk
      clear h0 h1
      go_enter Tryd.func20, Tryd.ntmps20
      go_wp2
      go_loop [3, 12] (fun f i => ∃ (j : Nat) (p : Int), j ≤ n % 9 ∧ i = .int .i64 j ∧ f = .int .i64 p ∧ 0 < p ∧ p ≤ 100000000 ∧ Hid (p = 10 ^ j)) (fun _ i => n % 9 - (intOf i).toNat)
      case atStart => exact ⟨0, 1, Nat.zero_le _, rfl, rfl, by omega, by omega, Lib.hid rfl⟩
      case round =>
        obtain ⟨j, p, hj, rfl, rfl, hp0, hp1, HP⟩ := hrel
        by_cases hlt : (j : Int) < (n : Int) % 9
        · have HN : Hid (p * 10 = 10 ^ (j + 1) ∧ p * 10 ≤ 100000000) := Lib.hid (by
            have h1 : p * 10 = (10 : Int) ^ (j + 1) := by rw [HP.out, Int.pow_succ]
            exact ⟨h1, by rw [h1]; exact ten_eight (j + 1) (by omega)⟩)
          go_wp2
          go_round
          case rel => exact ⟨j + 1, p * 10, by omega, by go_num, rfl, by omega, HN.out.2, Lib.hid HN.out.1⟩
          case measure => simp [intOf]; omega
        · have HJ := Lib.hid (show j = n % 9 by omega)
          have hown : (w.alloc (.cells (madeCells #[.int .i64 0] (n / 9)) 3)).ownsRow w.heap.size 3 1 (.slice (some ⟨w.heap.size, 0, none⟩) (n / 9) (n / 9)) (n / 9) (intsV (List.replicate (n / 9) 0)) := by
            have h := World.ownsRow_lit (e := 3) (size := 1) (base := w.heap.size) w (madeCells #[.int .i64 0] (n / 9)) (n / 9) (Nat.le_refl _) (by unfold maxLen; omega) (by rw [size_madeCells, Nat.mul_one])
            rw [toList_madeCells_one] at h
            simpa [intsV] using h
          go_wp2_with (at_builtin; refine wpList_append_own _ rfl _ _ 23 rfl w.heap.size 3 i0 (.int .i64 0) 1 8 Tryd.underlying23 hi0 hz0 hz1 hz2 rfl (by decide) _ _ _ rfl (own_alloc hown _) ⟨w.heap.size + 1, 0, none⟩ 1 1 [.int .i64 p] rfl rfl ?c1 ?c2 ?c3 ?c4 ?c5 ?_)
          case c2 => first | (intro u hu; simp at hu; subst hu; rfl) | rfl
          case c3 => unfold maxLen; omega
          case c4 => omega
          case c5 => first | omega | (simp; omega)
          intro v1 w1 hown1 hg1 _
          have hb2 : Below w.heap.size w w1 := (((Below.refl _ w).alloc (Nat.le_refl _) _).alloc (by simp) _).grown hg1 (by simp; omega) (fun k hk => by cases hk; exact Nat.le_refl _)
          go_wp2
          go_ret
          refine ⟨_, rfl, ?_, hb2⟩
          rw [HV.out, ← HJ.out, ← HP.out]
          simpa [intsV] using hown1
theorem implNatTen_at (k : Int) : ∀ (W : World), Calls Tryd.prog 20 #[(.int .i64 k)] W (PostI (tenN k) W) :=
  fun W => (implNatTen_any k W).mono fun _ _ h => h.newV

theorem mulN_empty (a : List Int) : mulN a [] = [] := by
  by_cases oa : natOkB a = true
  · rw [mulN_ok oa rfl]
    show natRes (nval a * 0) = []
    rw [Int.mul_zero]
    unfold natRes
    rw [show (0 : Int).toNat = 0 from rfl, limbs_none]
    rfl
  · unfold mulN
    rw [if_neg (fun h => oa h.1)]

set_option maxHeartbeats 400000 in
set_option maxRecDepth 100000 in
theorem implNatScale_any (va : Value) (a : List Int) (k : Int) (la ha : Nat) (w : World) (hal : a.length ≤ 1048576) (hha : ha ≤ w.heap.size) (hra : Row w la ha va (intsV a)) :
    Calls Tryd.prog 19 #[va, .int .i64 k] w (NewInts (scaleN a k) w) := by
  have HV := Lib.hid (show scaleN a k = mulN a (tenN k) by
    unfold scaleN
    by_cases hk : k < 0
    · rw [if_pos hk]
      unfold tenN
      rw [if_neg (by omega), mulN_empty]
    · rw [if_neg hk])
  have hl := tenN_len k
  go_enter Tryd.func19, Tryd.ntmps19
  go_wp2_with fail
  refine (implNatTen_any k _).mono ?_
  rintro e w1 ⟨v1, rfl, o1, b1⟩
  go_wp2_with fail
  refine (implNatMul_any va v1 a (tenN k) la ha _ _ _ hal (by omega) (by have := b1.size; omega) (Nat.le_refl _) (hra.below b1 hha) (Row.of_own o1)).mono ?_
  rintro e w2 ⟨v2, rfl, o2, b2⟩
  go_wp2
  go_ret
  exact ⟨v2, rfl, by rw [HV.out]; exact own_base o2 b1.size, Below.next b1 b2⟩
theorem implNatScale_at (a : List Int) (k : Int) (hla : a.length ≤ 1048576) : ∀ (ua : Value) (W : World), OwnI ua a W → Calls Tryd.prog 19 #[ua, (.int .i64 k)] W (PostI (scaleN a k) W) :=
  fun ua W ha => (implNatScale_any ua a k _ _ W hla (Nat.le_refl _) ha.row).mono fun _ _ h => h.newV

set_option maxHeartbeats 1000000 in
set_option maxRecDepth 100000 in
theorem implNatZeros_any (v : Value) (a : List Int) (lo hi : Nat) (w : World) (hl : a.length ≤ 1048576) (hr : Row w lo hi v (intsV a)) :
    Calls Tryd.prog 22 #[v] w fun e w' => e = .returned (.int .i64 (zerosN a)) ∧ w = w' := by
  have hr0 := hr
  obtain ⟨A, c, rfl, hA⟩ := hr
  rw [intsV_length] at hr0 ⊢
  have HA := Lib.hid hA
  clear hA
  by_cases oa : natOkB a = true
  · by_cases h0 : a.length = 0
    · have HV := Lib.hid (show zerosN a = 0 by unfold zerosN; rw [if_neg (fun h => by have := h.2; omega)])
      have hz : ((a.length : Int) == 0) = true := by simp [h0]
      clear h0
      go_enter Tryd.func22, Tryd.ntmps22
      go_wp2_with fail
      refine (implNatOk_same _ a lo hi _ (by omega) hr0).mono ?_
      rintro e w' ⟨rfl, rfl⟩
      rw [oa]
      go_wp2
      go_ret
      exact ⟨ret_int HV.out.symm, rfl⟩
    · have hpos : 0 < a.length := by omega
      have hz : ((a.length : Int) == 0) = false := by rw [beq_eq_false_iff_ne]; omega
      have HV := Lib.hid (zerosN_zN oa hpos)
      have HD := Lib.hid (natOk_parts oa).1
      have hl50 := (natOk_parts oa).2.1
      have HS := Lib.hid (ZerosR.start oa hpos)
      clear h0
      go_enter Tryd.func22, Tryd.ntmps22
      go_wp2_with fail
      refine (implNatOk_same _ a lo hi _ (by omega) hr0).mono ?_
      rintro e w' ⟨rfl, rfl⟩
      rw [oa]
      go_wp2
      go_loop [3] (fun i => ∃ k : Nat, k < a.length ∧ i = .int .i64 k ∧ Hid (ZerosR a k)) (fun i => a.length - (intOf i).toNat)
      case atStart => exact ⟨0, hpos, rfl, HS⟩
      case round =>
        obtain ⟨k, hk, rfl, HR⟩ := hrel
        obtain ⟨p, rfl, _, _, hca⟩ := HA.out k _ (intsV_at a k hk)
        by_cases hx : a[k] = 0
        · have HN := Lib.hid (HR.out.next hk hx)
          have hk2 := HN.out.lt
          rw [hx] at hca
          clear hx
          go_wp2
          go_round
          case rel => exact ⟨k + 1, hk2, by go_num, HN⟩
          case measure => simp [intOf]; omega
        · have hxb : (a[k] == 0) = false := by rw [beq_eq_false_iff_ne]; exact hx
          have HZ := Lib.hid (HR.out.digits hk HD.out)
          have hd := HD.out.at_ k hk
          have hx0 : 0 < a[k] := by omega
          have hx1 := hd.2
          clear hx hd HR
          generalize a[k] = x at *
          generalize (nval (a.drop (k + 1))).toNat = R at *
          generalize zN (nval a).toNat = Z at *
          go_wp2
          go_loop [4, 5] (fun z m => ∃ (f : Nat) (zz mm : Int), f ≤ 8 ∧ z = .int .i64 zz ∧ m = .int .i64 mm ∧ 0 ≤ zz ∧ zz + f ≤ 458 ∧ 0 < mm ∧ mm ≤ 999999999 ∧ Hid (ZeroD Z zz mm f R)) (fun _ m => (intOf m).toNat)
          case atStart => exact ⟨8, _, _, Nat.le_refl _, rfl, rfl, by omega, by omega, hx0, hx1, HZ⟩
          case round =>
            obtain ⟨f, zz, mm, hf, rfl, rfl, hz0, hz1, hm0, hm1, HM⟩ := hrel
            by_cases hm : mm % 10 = 0
            · obtain ⟨g, rfl, hg1, hg2⟩ := HM.out.next hm0 hm
              have HG := Lib.hid hg2
              have hmb : (mm % 10 == 0) = true := by rw [beq_iff_eq]; exact hm
              clear hm hg2
              go_wp2
              go_round
              case rel => exact ⟨g, zz + 1, mm / 10, by omega, rfl, rfl, by omega, by omega, hg1, by omega, HG⟩
              case measure => simp [intOf]; omega
            · have hmb : (mm % 10 == 0) = false := by rw [beq_eq_false_iff_ne]; exact hm
              have HE := Lib.hid (HM.out.done hm0 hm)
              clear hm
              go_wp2
              go_ret
              exact ⟨ret_int (by rw [HV.out]; exact HE.out.symm), rfl⟩
  · have oa' : natOkB a = false := by simpa using oa
    have HV := Lib.hid (show zerosN a = 0 by unfold zerosN; rw [if_neg (fun h => oa h.1)])
    clear oa
    go_enter Tryd.func22, Tryd.ntmps22
    go_wp2_with fail
    refine (implNatOk_same _ a lo hi _ (by omega) hr0).mono ?_
    rintro e w' ⟨rfl, rfl⟩
    rw [oa']
    go_wp2
    go_ret
    exact ⟨ret_int HV.out.symm, rfl⟩
theorem implNatZeros_at (a : List Int) (hla : a.length ≤ 1048576) : ∀ (ua : Value) (W : World), OwnI ua a W → Calls Tryd.prog 22 #[ua] W (Postn (zerosN a) W) :=
  fun ua W ha => (implNatZeros_any ua a _ _ W hla ha.row).mono fun _ _ h => ⟨h.1, h.2 ▸ Below.refl _ _⟩
end Go.Proofs.YtccajcddijhmcaaDoor
