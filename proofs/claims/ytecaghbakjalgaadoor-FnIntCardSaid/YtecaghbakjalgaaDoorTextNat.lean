/-
  What TextNat of package spec returns.
-/
import Derived.Test.YtecaghbakjalgaaDoorNatConv
import Derived.Test.YtecaghbakjalgaaDoorDigits
namespace Go.Proofs.YtecaghbakjalgaaDoor
open Go.RowKit

theorem fold_lt (l : List UInt8) : ∀ a : Int, DigL l → 0 ≤ a → List.foldl (fun a c => a * 10 + ((c.toNat : Int) - 48)) a l + 1 ≤ (a + 1) * 10 ^ l.length := by
  induction l with
  | nil => intro a _ _; simp
  | cons c l ih =>
    intro a h h0
    have hc := h c (by simp)
    have h1 := ih (a * 10 + ((c.toNat : Int) - 48)) (fun x hx => h x (by simp [hx])) (by omega)
    have hp : (0 : Int) ≤ 10 ^ l.length := Int.le_of_lt (Int.pow_pos (by omega))
    have h2 : (a * 10 + ((c.toNat : Int) - 48) + 1) * 10 ^ l.length ≤ ((a + 1) * 10) * 10 ^ l.length := Int.mul_le_mul_of_nonneg_right (by omega) hp
    rw [List.foldl_cons, List.length_cons, Int.pow_succ, Int.mul_comm (10 ^ l.length) 10, ← Int.mul_assoc]
    omega
theorem valL_nine (l : List UInt8) (h : DigL l) (hl : l.length ≤ 9) : valL l ≤ 999999999 := by
  have h1 := fold_lt l 0 h (by omega)
  have h2 : (10 : Int) ^ l.length ≤ 10 ^ 9 := by
    have : (10 : Nat) ^ l.length ≤ 10 ^ 9 := Nat.pow_le_pow_right (by omega) hl
    exact_mod_cast this
  unfold valL
  omega
theorem fold_app (l : List UInt8) : ∀ a : Int, List.foldl (fun a c => a * 10 + ((c.toNat : Int) - 48)) a l = a * 10 ^ l.length + valL l := by
  induction l with
  | nil => intro a; simp [valL]
  | cons c l ih =>
    intro a
    have e : valL (c :: l) = ((c.toNat : Int) - 48) * 10 ^ l.length + valL l := by
      show List.foldl _ (0 * 10 + ((c.toNat : Int) - 48)) l = _
      rw [ih, Int.zero_mul, Int.zero_add]
    rw [List.foldl_cons, ih, e, Int.add_mul, List.length_cons, Int.pow_succ, Int.mul_comm (10 ^ l.length) 10, Int.mul_assoc]
    omega
theorem valL_app (x g : List UInt8) : valL (x ++ g) = valL x * 10 ^ g.length + valL g := by
  show List.foldl _ 0 (x ++ g) = _
  rw [List.foldl_append, fold_app]
  rfl
/-- nine digits at once, from the end -/
def groups (l : List UInt8) (e : Nat) : List Int := if h : e = 0 then [] else valL ((l.take e).drop (e - 9)) :: groups l (e - 9)
termination_by e
decreasing_by omega
theorem groups_zero (l : List UInt8) : groups l 0 = [] := by rw [groups, dif_pos rfl]
theorem groups_pos (l : List UInt8) (e : Nat) (h : e ≠ 0) : groups l e = valL ((l.take e).drop (e - 9)) :: groups l (e - 9) := by rw [groups, dif_neg h]
theorem dig_part (l : List UInt8) (h : DigL l) (a b : Nat) : DigL ((l.take a).drop b) := fun c hc => h c (List.mem_of_mem_take (List.mem_of_mem_drop hc))
theorem groups_val (l : List UInt8) (h : DigL l) (e : Nat) : e ≤ l.length → nval (groups l e) = valL (l.take e) ∧ DigN (groups l e) ∧ (groups l e).length ≤ e := by
  induction e using Nat.strongRecOn with
  | _ e ih =>
    intro he
    by_cases h0 : e = 0
    · subst h0
      rw [groups_zero]
      exact ⟨by simp [nval, valL], (fun x hx => by cases hx), Nat.le_refl _⟩
    · rw [groups_pos l e h0]
      obtain ⟨i1, i2, i3⟩ := ih (e - 9) (by omega) (by omega)
      have hlen : ((l.take e).drop (e - 9)).length = e - (e - 9) := by rw [List.length_drop, List.length_take]; omega
      have hd := dig_part l h e (e - 9)
      have hv := valL_nine _ hd (by omega)
      have hn := valL_nonneg _ hd
      refine ⟨?_, DigN.cons hn hv i2, by simp; omega⟩
      show valL _ + 1000000000 * nval (groups l (e - 9)) = _
      rw [i1]
      have hsplit : l.take e = l.take (e - 9) ++ (l.take e).drop (e - 9) := by
        have h1 := (List.take_append_drop (e - 9) (l.take e)).symm
        rwa [List.take_take, show min (e - 9) e = e - 9 from by omega] at h1
      by_cases h9 : 9 ≤ e
      · conv => rhs; rw [hsplit, valL_app, hlen, show e - (e - 9) = 9 from by omega]
        omega
      · rw [show e - 9 = 0 from by omega]
        simp [valL]
theorem part_step (s : ByteArray) (i from_ : Nat) (h : i < s.size) (hf : from_ ≤ i) : valL ((s.data.toList.take (i + 1)).drop from_) = valL ((s.data.toList.take i).drop from_) * 10 + (s[i].toNat : Int) - 48 := by
  rw [List.take_succ_eq_append_getElem (by simpa using h), List.drop_append_of_le_length (by rw [List.length_take]; simp; omega), valL_snoc]
  show _ * 10 + ((s[i].toNat : Int) - 48) = _
  omega

/-- is s the decimal notation of a nat -/
def decOk (s : ByteArray) : Bool := digitsB s && decide (s.size ≤ 450) && !(decide (1 < s.size) && decide (s.data.toList.headD 0 = 48))
def TNPost (s : ByteArray) (w : World) (e : Ending) (w' : World) : Prop :=
  Below w.heap.size w w' ∧ ((decOk s = true ∧ ∃ v, e = .returned (.tuple #[v, .bool true]) ∧ w'.ownsRow w.heap.size 3 1 v (limbs (valL s.data.toList).toNat).length (intsV (limbs (valL s.data.toList).toNat))) ∨
    (decOk s = false ∧ e = .returned (.tuple #[.slice none 0 0, .bool false])))

/-- what the outer loop of TextNat knows at its head -/
def TextRel (s : ByteArray) (w : World) (v e : Value) (wr : World) : Prop :=
  ∃ (en : Int) (out : List Int), -9 ≤ en ∧ en ≤ s.size ∧ e = .int .i64 en ∧ out ++ groups s.data.toList en.toNat = groups s.data.toList s.size ∧
    wr.ownsRow w.heap.size 3 1 v out.length (intsV out) ∧ Below w.heap.size w wr
theorem text_step {s : ByteArray} {w w1 : World} {v1 : Value} {out : List Int} {m : Int} {k : Nat} (hk : k ≤ s.size) (h0 : 0 < k) (e : out ++ [m] ++ groups s.data.toList (k - 9) = groups s.data.toList s.size)
    (ho : w1.ownsRow w.heap.size 3 1 v1 (out.length + 1) (intsV out ++ [.int .i64 m])) (hb : Below w.heap.size w w1) : TextRel s w v1 (.int .i64 ((k : Int) - 9)) w1 := by
  refine ⟨(k : Int) - 9, out ++ [m], by omega, by omega, rfl, ?_, by simpa [intsV] using ho, hb⟩
  rw [show ((k : Int) - 9).toNat = k - 9 from by omega]
  exact e
theorem take_full (t : ByteArray) : t.data.toList.take t.size = t.data.toList := List.take_of_length_le (Nat.le_refl _)

set_option maxHeartbeats 4000000 in
set_option maxRecDepth 100000 in
theorem specTextNat_goodMany (s : ByteArray) (w : World) (h0 : 0 < s.size) (h450 : s.size ≤ 450) (hd : digitsB s = true) (h1 : 1 < s.size) (hlead : ¬ s[0].toNat = 48) (hok : decOk s = true) :
    Calls Tryd.prog 47 #[.string s] w (TNPost s w) := by
    obtain ⟨i0, hi, hz0, hz1, hz2⟩ := info_parts intInfo
    have HD := Lib.hid ((digitsB_iff s).1 hd).1
    have HOK := Lib.hid hok
    clear hok
    have HM := Lib.hid (fun W : World => specIsDigits_any s W (by unfold maxLen; omega))
    have hb48 : ((s[0].toNat : Int) == 48) = false := by rw [beq_eq_false_iff_ne]; omega
    clear hlead
    go_enter Tryd.func47, Tryd.ntmps47
    go_wp2_with fail
    refine (HM.out _).mono ?_
    rintro e w' ⟨rfl, rfl⟩
    rw [hd]
    go_wp2
    go_loopw [4, 5] (fun v e wr => TextRel s w v e wr) (fun _ e _ => (intOf e).toNat)
    case atStart => exact ⟨s.size, [], by omega, Int.le_refl _, rfl, rfl, ⟨rfl, .inr ⟨w.heap.size, 0, #[], rfl, Nat.le_refl _, heap_alloc_new w _, Nat.le_refl _, Nat.zero_le _, rfl, rfl⟩⟩, (Below.refl _ _).alloc (Nat.le_refl _) _⟩
    case round =>
      obtain ⟨e, out, he0, he1, rfl, hev, hown, hb1⟩ := hrel
      obtain ⟨wo, rfl⟩ : ∃ wo : World, wo = wr := ⟨_, rfl⟩
      have HE := Lib.hid hev
      have hol : out.length ≤ 450 := by
        have e1 := congrArg List.length hev
        have e2 := (groups_val s.data.toList HD.out s.size (Nat.le_refl _)).2.2
        rw [List.length_append] at e1
        omega
      clear hev
      by_cases hpos : 0 < e
      · obtain ⟨en, rfl⟩ := Int.eq_ofNat_of_zero_le (show 0 ≤ e by omega)
        have HG : Hid (out ++ valL ((s.data.toList.take en).drop (en - 9)) :: groups s.data.toList (en - 9) = groups s.data.toList s.size) := Lib.hid (by have e1 := HE.out; rw [Int.toNat_natCast, groups_pos _ en (by omega)] at e1; exact e1)
        by_cases h9 : (en : Int) - 9 < 0
        · have hfrom : en - 9 = 0 := by omega
          have hen : en ≤ s.size := by omega
          go_wp2
          go_loop [7, 8] (fun n i => ∃ (k : Nat) (m : Int), 0 ≤ k ∧ k ≤ en ∧ i = .int .i64 k ∧ n = .int .i64 m ∧ 0 ≤ m ∧ m ≤ 999999999 ∧ Hid (m = valL ((s.data.toList.take k).drop 0))) (fun _ i => en - (intOf i).toNat)
          case atStart => exact ⟨0, 0, Nat.le_refl _, by omega, rfl, rfl, by omega, by omega, Lib.hid (by rw [List.drop_of_length_le (by rw [List.length_take]; omega)]; rfl)⟩
          case round =>
            obtain ⟨k, m, hk0, hk1, rfl, rfl, hm0, hm1, HM⟩ := hrel
            by_cases hlt : k < en
            · have hks : k < s.size := by omega
              have hdg := dig_at s k hks HD.out
              have HP := Lib.hid (part_step s k 0 hks hk0)
              have hmb : m * 10 + (s[k].toNat : Int) - 48 ≤ 999999999 ∧ 0 ≤ m * 10 + (s[k].toNat : Int) - 48 := by
                have h1 := valL_nine ((s.data.toList.take (k + 1)).drop 0) (dig_part _ HD.out _ _) (by rw [List.length_drop, List.length_take]; omega)
                have h2 := HP.out
                have h3 := HM.out
                omega
              go_wp2
              go_round
              case rel => exact ⟨k + 1, m * 10 + (s[k].toNat : Int) - 48, by omega, by omega, by go_num, rfl, hmb.2, hmb.1, Lib.hid (by rw [HP.out, HM.out])⟩
              case measure => simp [intOf]; omega
            · obtain rfl : k = en := by omega
              have HG2 : Hid (out ++ [m] ++ groups s.data.toList (k - 9) = groups s.data.toList s.size) := Lib.hid (by rw [List.append_assoc, HM.out, ← HG.out, hfrom]; rfl)
              go_wp2_with (at_builtin; refine wpList_append_own _ rfl (.tmp 52) (.tmp 54) 23 rfl w.heap.size 3 i0 (.int .i64 0) 1 8 Tryd.underlying23 hi hz0 hz1 hz2 rfl (by decide) _ _ _ rfl (own_alloc hown _) ⟨wo.heap.size, 0, none⟩ 1 1 [.int .i64 m] rfl rfl (one_new _ _ _) ?c2 ?c3 ?c4 ?c5 ?_)
              case c2 => first | (intro u hu; simp at hu; subst hu; rfl) | rfl
              case c3 => unfold maxLen; omega
              case c4 => omega
              case c5 => have := hb1.size; simp; omega
              intro v1 w1 hown1 hg1 _
              have hb2 := below_push hb1 (Nat.le_refl _) hown hg1
              go_wp2
              exact ⟨text_step (by omega) (by omega) HG2.out hown1 hb2, by simp [intOf]; omega⟩
        · obtain ⟨fr, Hfr⟩ : ∃ fr : Nat, Hid (fr = en - 9) := ⟨_, Lib.hid rfl⟩
          have hfr9 : (en : Int) - 9 = (fr : Int) := by have := Hfr.out; omega
          have hfre : fr + 9 = en := by have := Hfr.out; omega
          have hen : en ≤ s.size := by omega
          go_wp2
          go_loop [7, 8] (fun n i => ∃ (k : Nat) (m : Int), fr ≤ k ∧ k ≤ en ∧ i = .int .i64 k ∧ n = .int .i64 m ∧ 0 ≤ m ∧ m ≤ 999999999 ∧ Hid (m = valL ((s.data.toList.take k).drop fr))) (fun _ i => en - (intOf i).toNat)
          case atStart => exact ⟨fr, 0, Nat.le_refl _, by omega, rfl, rfl, by omega, by omega, Lib.hid (by rw [List.drop_of_length_le (by rw [List.length_take]; omega)]; rfl)⟩
          case round =>
            obtain ⟨k, m, hk0, hk1, rfl, rfl, hm0, hm1, HM⟩ := hrel
            by_cases hlt : k < en
            · have hks : k < s.size := by omega
              have hdg := dig_at s k hks HD.out
              have HP := Lib.hid (part_step s k fr hks hk0)
              have hmb : m * 10 + (s[k].toNat : Int) - 48 ≤ 999999999 ∧ 0 ≤ m * 10 + (s[k].toNat : Int) - 48 := by
                have h1 := valL_nine ((s.data.toList.take (k + 1)).drop fr) (dig_part _ HD.out _ _) (by rw [List.length_drop, List.length_take]; omega)
                have h2 := HP.out
                have h3 := HM.out
                omega
              go_wp2
              go_round
              case rel => exact ⟨k + 1, m * 10 + (s[k].toNat : Int) - 48, by omega, by omega, by go_num, rfl, hmb.2, hmb.1, Lib.hid (by rw [HP.out, HM.out])⟩
              case measure => simp [intOf]; omega
            · obtain rfl : k = en := by omega
              have HG2 : Hid (out ++ [m] ++ groups s.data.toList (k - 9) = groups s.data.toList s.size) := Lib.hid (by rw [List.append_assoc, HM.out, ← HG.out, Hfr.out]; rfl)
              go_wp2_with (at_builtin; refine wpList_append_own _ rfl (.tmp 52) (.tmp 54) 23 rfl w.heap.size 3 i0 (.int .i64 0) 1 8 Tryd.underlying23 hi hz0 hz1 hz2 rfl (by decide) _ _ _ rfl (own_alloc hown _) ⟨wo.heap.size, 0, none⟩ 1 1 [.int .i64 m] rfl rfl (one_new _ _ _) ?c2 ?c3 ?c4 ?c5 ?_)
              case c2 => first | (intro u hu; simp at hu; subst hu; rfl) | rfl
              case c3 => unfold maxLen; omega
              case c4 => omega
              case c5 => have := hb1.size; simp; omega
              intro v1 w1 hown1 hg1 _
              have hb2 := below_push hb1 (Nat.le_refl _) hown hg1
              go_wp2
              exact ⟨(by have h := text_step (by omega) (by omega) HG2.out hown1 hb2; rwa [hfr9] at h), by simp [intOf]; omega⟩
      · have HF : Hid (out = groups s.data.toList s.size) := Lib.hid (by have e1 := HE.out; rwa [show e.toNat = 0 from by omega, groups_zero, List.append_nil] at e1)
        have hv := groups_val s.data.toList HD.out s.size (Nat.le_refl _)
        rw [take_full] at hv
        have HT : Hid (trimL out = limbs (valL s.data.toList).toNat) := Lib.hid (by rw [HF.out, trim_limbs _ hv.2.1, hv.1])
        clear hv
        go_wp2_with fail
        refine (specTrim_any _ out _ _ (by omega) hown).mono ?_
        rintro e w' ⟨rfl, v2, rfl, o2⟩
        rw [HT.out] at o2
        go_wp2
        go_ret2
        exact ⟨hb1, .inl ⟨HOK.out, v2, rfl, o2⟩⟩
set_option maxHeartbeats 4000000 in
set_option maxRecDepth 100000 in
theorem specTextNat_goodOne (s : ByteArray) (w : World) (h0 : 0 < s.size) (h450 : s.size ≤ 450) (hd : digitsB s = true) (h1 : ¬ 1 < s.size) (hok : decOk s = true) :
    Calls Tryd.prog 47 #[.string s] w (TNPost s w) := by
    obtain ⟨i0, hi, hz0, hz1, hz2⟩ := info_parts intInfo
    have HD := Lib.hid ((digitsB_iff s).1 hd).1
    have HOK := Lib.hid hok
    clear hok
    have HM := Lib.hid (fun W : World => specIsDigits_any s W (by unfold maxLen; omega))
    go_enter Tryd.func47, Tryd.ntmps47
    go_wp2_with fail
    refine (HM.out _).mono ?_
    rintro e w' ⟨rfl, rfl⟩
    rw [hd]
    go_wp2
    go_loopw [4, 5] (fun v e wr => TextRel s w v e wr) (fun _ e _ => (intOf e).toNat)
    case atStart => exact ⟨s.size, [], by omega, Int.le_refl _, rfl, rfl, ⟨rfl, .inr ⟨w.heap.size, 0, #[], rfl, Nat.le_refl _, heap_alloc_new w _, Nat.le_refl _, Nat.zero_le _, rfl, rfl⟩⟩, (Below.refl _ _).alloc (Nat.le_refl _) _⟩
    case round =>
      obtain ⟨e, out, he0, he1, rfl, hev, hown, hb1⟩ := hrel
      obtain ⟨wo, rfl⟩ : ∃ wo : World, wo = wr := ⟨_, rfl⟩
      have HE := Lib.hid hev
      have hol : out.length ≤ 450 := by
        have e1 := congrArg List.length hev
        have e2 := (groups_val s.data.toList HD.out s.size (Nat.le_refl _)).2.2
        rw [List.length_append] at e1
        omega
      clear hev
      by_cases hpos : 0 < e
      · obtain ⟨en, rfl⟩ := Int.eq_ofNat_of_zero_le (show 0 ≤ e by omega)
        have HG : Hid (out ++ valL ((s.data.toList.take en).drop (en - 9)) :: groups s.data.toList (en - 9) = groups s.data.toList s.size) := Lib.hid (by have e1 := HE.out; rw [Int.toNat_natCast, groups_pos _ en (by omega)] at e1; exact e1)
        by_cases h9 : (en : Int) - 9 < 0
        · have hfrom : en - 9 = 0 := by omega
          have hen : en ≤ s.size := by omega
          go_wp2
          go_loop [7, 8] (fun n i => ∃ (k : Nat) (m : Int), 0 ≤ k ∧ k ≤ en ∧ i = .int .i64 k ∧ n = .int .i64 m ∧ 0 ≤ m ∧ m ≤ 999999999 ∧ Hid (m = valL ((s.data.toList.take k).drop 0))) (fun _ i => en - (intOf i).toNat)
          case atStart => exact ⟨0, 0, Nat.le_refl _, by omega, rfl, rfl, by omega, by omega, Lib.hid (by rw [List.drop_of_length_le (by rw [List.length_take]; omega)]; rfl)⟩
          case round =>
            obtain ⟨k, m, hk0, hk1, rfl, rfl, hm0, hm1, HM⟩ := hrel
            by_cases hlt : k < en
            · have hks : k < s.size := by omega
              have hdg := dig_at s k hks HD.out
              have HP := Lib.hid (part_step s k 0 hks hk0)
              have hmb : m * 10 + (s[k].toNat : Int) - 48 ≤ 999999999 ∧ 0 ≤ m * 10 + (s[k].toNat : Int) - 48 := by
                have h1 := valL_nine ((s.data.toList.take (k + 1)).drop 0) (dig_part _ HD.out _ _) (by rw [List.length_drop, List.length_take]; omega)
                have h2 := HP.out
                have h3 := HM.out
                omega
              go_wp2
              go_round
              case rel => exact ⟨k + 1, m * 10 + (s[k].toNat : Int) - 48, by omega, by omega, by go_num, rfl, hmb.2, hmb.1, Lib.hid (by rw [HP.out, HM.out])⟩
              case measure => simp [intOf]; omega
            · obtain rfl : k = en := by omega
              have HG2 : Hid (out ++ [m] ++ groups s.data.toList (k - 9) = groups s.data.toList s.size) := Lib.hid (by rw [List.append_assoc, HM.out, ← HG.out, hfrom]; rfl)
              go_wp2_with (at_builtin; refine wpList_append_own _ rfl (.tmp 52) (.tmp 54) 23 rfl w.heap.size 3 i0 (.int .i64 0) 1 8 Tryd.underlying23 hi hz0 hz1 hz2 rfl (by decide) _ _ _ rfl (own_alloc hown _) ⟨wo.heap.size, 0, none⟩ 1 1 [.int .i64 m] rfl rfl (one_new _ _ _) ?c2 ?c3 ?c4 ?c5 ?_)
              case c2 => first | (intro u hu; simp at hu; subst hu; rfl) | rfl
              case c3 => unfold maxLen; omega
              case c4 => omega
              case c5 => have := hb1.size; simp; omega
              intro v1 w1 hown1 hg1 _
              have hb2 := below_push hb1 (Nat.le_refl _) hown hg1
              go_wp2
              exact ⟨text_step (by omega) (by omega) HG2.out hown1 hb2, by simp [intOf]; omega⟩
        · exfalso; omega
      · have HF : Hid (out = groups s.data.toList s.size) := Lib.hid (by have e1 := HE.out; rwa [show e.toNat = 0 from by omega, groups_zero, List.append_nil] at e1)
        have hv := groups_val s.data.toList HD.out s.size (Nat.le_refl _)
        rw [take_full] at hv
        have HT : Hid (trimL out = limbs (valL s.data.toList).toNat) := Lib.hid (by rw [HF.out, trim_limbs _ hv.2.1, hv.1])
        clear hv
        go_wp2_with fail
        refine (specTrim_any _ out _ _ (by omega) hown).mono ?_
        rintro e w' ⟨rfl, v2, rfl, o2⟩
        rw [HT.out] at o2
        go_wp2
        go_ret2
        exact ⟨hb1, .inl ⟨HOK.out, v2, rfl, o2⟩⟩

theorem decOk_long (s : ByteArray) (h : ¬ s.size ≤ 450) : decOk s = false := by unfold decOk; rw [decide_eq_false h, Bool.and_false, Bool.false_and]
theorem decOk_dig (s : ByteArray) (h : digitsB s = false) : decOk s = false := by unfold decOk; rw [h, Bool.false_and, Bool.false_and]
theorem decOk_lead (s : ByteArray) (h1 : 1 < s.size) (h : s[0].toNat = 48) : decOk s = false := by
  have e : s.data.toList.headD 0 = 48 := by rw [head_get s (by omega)]; exact UInt8.toNat_inj.1 h
  unfold decOk
  rw [decide_eq_true h1, decide_eq_true e]
  simp
theorem decOk_yes (s : ByteArray) (hd : digitsB s = true) (h4 : s.size ≤ 450) (hl : ∀ h0 : 0 < s.size, ¬ (1 < s.size ∧ s[0].toNat = 48)) (h0 : 0 < s.size) : decOk s = true := by
  unfold decOk
  rw [hd, decide_eq_true h4]
  by_cases h1 : 1 < s.size
  · have e : ¬ s.data.toList.headD 0 = 48 := by
      rw [head_get s h0]
      intro e
      exact hl h0 ⟨h1, by rw [e]; rfl⟩
    rw [decide_eq_false e, Bool.and_false]
    rfl
  · rw [decide_eq_false h1]
    rfl

set_option maxHeartbeats 400000 in
set_option maxRecDepth 100000 in
theorem specTextNat_bad (s : ByteArray) (w : World) (hs : s.size ≤ 1048576) (hbad : decOk s = false) (hc : digitsB s = false ∨ (digitsB s = true ∧ 450 < s.size) ∨ (digitsB s = true ∧ s.size ≤ 450 ∧ ∃ h1 : 1 < s.size, s[0].toNat = 48)) :
    Calls Tryd.prog 47 #[.string s] w (TNPost s w) := by
  have HB := Lib.hid hbad
  have HM := Lib.hid (fun W : World => specIsDigits_any s W (by unfold maxLen; omega))
  clear hbad
  rcases hc with hd | ⟨hd, hl⟩ | ⟨hd, hl, h1, h48⟩
  · go_enter Tryd.func47, Tryd.ntmps47
    go_wp2_with fail
    refine (HM.out _).mono ?_
    rintro e w' ⟨rfl, rfl⟩
    rw [hd]
    go_wp2
    go_ret2
    exact ⟨Below.refl _ _, .inr ⟨HB.out, rfl⟩⟩
  · go_enter Tryd.func47, Tryd.ntmps47
    go_wp2_with fail
    refine (HM.out _).mono ?_
    rintro e w' ⟨rfl, rfl⟩
    rw [hd]
    go_wp2
    go_ret2
    exact ⟨Below.refl _ _, .inr ⟨HB.out, rfl⟩⟩
  · have hb48 : ((s[0].toNat : Int) == 48) = true := by rw [beq_iff_eq]; omega
    clear h48
    go_enter Tryd.func47, Tryd.ntmps47
    go_wp2_with fail
    refine (HM.out _).mono ?_
    rintro e w' ⟨rfl, rfl⟩
    rw [hd]
    go_wp2
    go_ret2
    exact ⟨Below.refl _ _, .inr ⟨HB.out, rfl⟩⟩

theorem specTextNat_any (s : ByteArray) (w : World) (hs : s.size ≤ 1048576) : Calls Tryd.prog 47 #[.string s] w (TNPost s w) := by
  by_cases hd : digitsB s = true
  · have h0 : 0 < s.size := by
      have h := ((digitsB_iff s).1 hd).2
      exact List.length_pos_iff.2 h
    by_cases h4 : s.size ≤ 450
    · by_cases h1 : 1 < s.size
      · by_cases h48 : s[0].toNat = 48
        · exact specTextNat_bad s w hs (decOk_lead s h1 h48) (.inr (.inr ⟨hd, h4, h1, h48⟩))
        · exact specTextNat_goodMany s w h0 h4 hd h1 h48 (decOk_yes s hd h4 (fun _ h => h48 h.2) h0)
      · exact specTextNat_goodOne s w h0 h4 hd h1 (decOk_yes s hd h4 (fun _ h => h1 h.1) h0)
    · exact specTextNat_bad s w hs (decOk_long s h4) (.inr (.inl ⟨hd, by omega⟩))
  · have hd' : digitsB s = false := by simpa using hd
    exact specTextNat_bad s w hs (decOk_dig s hd') (.inl hd')

theorem limbs_len (k : Nat) : ∀ n : Nat, n < 1000000000 ^ k → (limbs n).length ≤ k := by
  induction k with
  | zero => intro n h; rw [show n = 0 by simp at h; exact h, limbs_none]; simp
  | succ k ih =>
    intro n h
    by_cases h0 : n = 0
    · rw [h0, limbs_none]; simp
    · rw [limbs_pos n h0, List.length_cons]
      have := ih (n / 1000000000) (by rw [Nat.pow_succ] at h; exact Nat.div_lt_of_lt_mul (by rw [Nat.mul_comm]; exact h))
      omega
theorem limbs_of_len (n : Int) (h : n ≤ 9223372036854775807) : (limbs n.toNat).length ≤ 3 := limbs_len 3 _ (by
  have : n.toNat ≤ 9223372036854775807 := by omega
  exact Nat.lt_of_le_of_lt this (by decide))
theorem trimL_le (xs : List Int) : (trimL xs).length ≤ xs.length := by
  induction xs with
  | nil => simp [trimL]
  | cons d r ih => unfold trimL; split <;> simp <;> omega
/-- what TextNat answers -/
def tnR (s : ByteArray) : List Int := if decOk s = true then limbs (valL s.data.toList).toNat else []
theorem tnR_len (s : ByteArray) : (tnR s).length ≤ 450 := by
  unfold tnR
  split
  · rename_i h
    have hd : digitsB s = true := by
      by_cases hd : digitsB s = true
      · exact hd
      · rw [decOk_dig s (by simpa using hd)] at h; exact absurd h (by decide)
    have h4 : s.size ≤ 450 := by
      by_cases h4 : s.size ≤ 450
      · exact h4
      · rw [decOk_long s h4] at h; exact absurd h (by decide)
    have hv := groups_val s.data.toList ((digitsB_iff s).1 hd).1 s.size (Nat.le_refl _)
    rw [take_full] at hv
    rw [← hv.1, ← trim_limbs _ hv.2.1]
    exact Nat.le_trans (trimL_le _) (Nat.le_trans hv.2.2 h4)
  · simp
/-- how TextNat ends: a new row, and whether the text is a number -/
def TNNew (s : ByteArray) (w : World) (e : Ending) (w' : World) : Prop :=
  ∃ v, e = .returned (.tuple #[v, .bool (decOk s)]) ∧ w'.ownsRow w.heap.size 3 1 v (tnR s).length (intsV (tnR s)) ∧ Below w.heap.size w w'
theorem TNPost.new {s : ByteArray} {w w' : World} {e : Ending} (h : TNPost s w e w') : TNNew s w e w' := by
  obtain ⟨hb, ⟨ho, v, rfl, hv⟩ | ⟨ho, rfl⟩⟩ := h
  · refine ⟨v, by rw [ho], ?_, hb⟩
    rw [show tnR s = limbs (valL s.data.toList).toNat by unfold tnR; rw [if_pos ho]]
    exact hv
  · refine ⟨_, by rw [ho], ?_, hb⟩
    rw [show tnR s = [] by unfold tnR; rw [ho]; rfl]
    exact nil_own
end Go.Proofs.YtecaghbakjalgaaDoor
