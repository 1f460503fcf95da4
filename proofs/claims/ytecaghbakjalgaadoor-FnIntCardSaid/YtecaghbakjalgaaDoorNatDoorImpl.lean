/-
  What NatDigits and NatText of package impl return.
-/
import Derived.Test.YtecaghbakjalgaaDoorDecPlain
import Derived.Test.YtecaghbakjalgaaDoorNatImpl
namespace Go.Proofs.YtecaghbakjalgaaDoor
open Go.RowKit

theorem strInfoD : (Tryd.prog.info? 9).map (fun i => (i.zero, i.size, i.bytes)) = some (some (.string ⟨#[]⟩), 1, 16) := by kernel_rfl
theorem joinTo_leftD (b : ByteArray) (l : List ByteArray) (x : ByteArray) : ∀ k, k ≤ l.length → joinTo b (l ++ [x]) k = joinTo b l k := by
  intro k
  induction k with
  | zero => intro _; rfl
  | succ k ih =>
    intro hk
    have e : (l ++ [x]).getD k ByteArray.empty = l.getD k ByteArray.empty := by
      rw [List.getD_eq_getElem?_getD, List.getD_eq_getElem?_getD, List.getElem?_append_left (by omega)]
    rw [joinTo, joinTo, ih (by omega), e]
/-- nothing between the parts: one part more is laid behind -/
theorem joinB_snoc (l : List ByteArray) (x : ByteArray) : joinB ⟨#[]⟩ (l ++ [x]) = joinB ⟨#[]⟩ l ++ x := by
  have e : (l ++ [x]).getD l.length ByteArray.empty = x := by simp
  apply ByteArray.ext
  unfold joinB
  rw [List.length_append, List.length_singleton, joinTo, joinTo_leftD _ l x _ (Nat.le_refl _), e, ByteArray.data_append]
  simp
theorem joinB_one (x : ByteArray) : joinB ⟨#[]⟩ [x] = x := by
  apply ByteArray.ext
  simp [joinB, joinTo]


/-- the parts so far are the text of the limbs from k on -/
def PartsR (a : List Int) (k : Nat) (ss : List ByteArray) : Prop := joinB ⟨#[]⟩ ss = natT (a.drop k) ∧ (∀ s ∈ ss, s.size ≤ 1048576) ∧ ss.length + k ≤ a.length
theorem PartsR.next {a : List Int} {j : Nat} {ss : List ByteArray} (h : PartsR a (j + 1) ss) (hj : j + 1 < a.length) (hd : DigN a) : PartsR a j (ss ++ [padB (numB a[j]) 9]) := by
  obtain ⟨h1, h2, h3⟩ := h
  refine ⟨by rw [joinB_snoc, h1, natT_step a j hj], ?_, by simp; omega⟩
  intro s hs
  rcases List.mem_append.1 hs with hs | hs
  · exact h2 s hs
  · rw [List.mem_singleton.1 hs, pad_nine (hd.at_ j (by omega))]
    omega
set_option maxHeartbeats 1000000 in
set_option maxRecDepth 100000 in
theorem implNatText_any (v : Value) (a : List Int) (lo hi : Nat) (w : World) (hl : a.length ≤ 1048576) (hhi : hi ≤ w.heap.size) (hr : Row w lo hi v (intsV a)) (ht : Tab w) :
    Calls Tryd.prog 32 #[v] w fun e w' => e = .returned (.string (natTextB a)) ∧ Below w.heap.size w w' := by
  obtain ⟨i0, hi0, hz0, hz1, hz2⟩ := info_parts strInfoD
  have hr0 := hr
  obtain ⟨A, c, rfl, hA⟩ := hr
  rw [intsV_length] at hr0 ⊢
  by_cases ok : natOkB a = true
  · have HV := Lib.hid (show natTextB a = natT a by unfold natTextB; rw [if_pos ok])
    by_cases h0 : a.length = 0
    · have HA := Lib.hid (show a = [] from List.length_eq_zero_iff.1 h0)
      have H0 := Lib.hid h0
      clear h0
      go_enter Tryd.func32, Tryd.ntmps32
      go_wp2_with fail
      refine (implNatOk_same _ a lo hi _ (by omega) hr0).mono ?_
      rintro e w' ⟨rfl, rfl⟩
      rw [ok]
      have h0 := H0.out
      go_wp2
      go_ret
      exact ⟨by rw [HV.out, HA.out]; rfl, Below.refl _ _⟩
    · have hpos : 0 < a.length := by omega
      obtain ⟨ad, rfl, hlo, hbh, hc1⟩ := hA (a.length - 1) _ (intsV_at a (a.length - 1) (by omega))
      have HA := Lib.hid hA
      have PA := Lib.hid (natOk_parts ok).1
      have hlim := (natOk_parts ok).1.at_ (a.length - 1) (by omega)
      have h50 := (natOk_parts ok).2.1
      have hls := limb_nine hlim
      have hix : ((a.length : Int) - 1).toNat = a.length - 1 := by omega
      have hz : ((a.length : Int) == 0) = false := by rw [beq_eq_false_iff_ne]; omega
      have HL : Hid (PartsR a (a.length - 1) [numB a[a.length - 1]]) := Lib.hid ⟨by rw [joinB_one, natT_last a hpos], (fun s hs => by rw [List.mem_singleton.1 hs]; omega), by simp; omega⟩
      clear hA h0
      go_enter Tryd.func32, Tryd.ntmps32
      go_wp2_with fail
      refine (implNatOk_same _ a lo hi _ (by omega) hr0).mono ?_
      rintro e w' ⟨rfl, rfl⟩
      rw [ok]
      go_wp2_with fail
      refine (implIntText_any _ _ (by omega) (by omega) ht).mono ?_
      rintro e w1 ⟨rfl, b1⟩
      go_wp2
      go_loopw [4, 5] (fun s i wr => ∃ (k : Nat) (ss : List ByteArray), k < a.length ∧ i = .int .i64 ((k : Int) - 1) ∧ Hid (PartsR a k ss) ∧ wr.ownsRow w.heap.size 9 1 s ss.length (ss.map Value.string) ∧ Below w.heap.size w wr) (fun _ i _ => (intOf i + 1).toNat)
      case atStart => exact ⟨a.length - 1, [numB a[a.length - 1]], by omega, by congr 1; omega, HL, ⟨rfl, .inr ⟨w1.heap.size, 1, _, rfl, b1.size, heap_alloc_new w1 _, Nat.le_refl _, by unfold maxLen; omega, rfl, rfl⟩⟩, b1.alloc b1.size _⟩
      case round =>
        obtain ⟨k, ss, hk, rfl, HP, hown, hb⟩ := hrel
        have hsl : ss.length ≤ 50 := by have := HP.out.2.2; omega
        by_cases hk0 : 0 < k
        · obtain ⟨j, rfl⟩ : ∃ j, k = j + 1 := ⟨k - 1, by omega⟩
          have hcj : wr.cell? (ad.add j) = some (.int .i64 a[j]) := by
            obtain ⟨_, e, _, _, h⟩ := HA.out j _ (intsV_at a j (by omega))
            cases e
            exact (hb.cell (by rw [block_add]; omega)).trans h
          have hj := PA.out.at_ j (by omega)
          have hlj := limb_nine hj
          have HN := Lib.hid (HP.out.next hk PA.out)
          have e1 : (((j + 1 : Nat) : Int) - 1) = (j : Int) := by omega
          rw [e1]
          clear e1 hk0
          go_wp2_with fail
          refine (implIntText_any _ _ (by omega) (by omega) (ht.below hb)).mono ?_
          rintro e w2 ⟨rfl, b2⟩
          go_wp2_with fail
          refine (implPad_any _ _ _ (by omega) (by omega) (by omega)).mono ?_
          rintro e w3 ⟨rfl, b3⟩
          have hown3 := own_below (own_below hown b2) b3
          have hb3 : Below w.heap.size w w3 := Below.next (Below.next hb b2) b3
          go_wp2_with (at_builtin; refine wpList_append_own _ rfl _ _ 82 rfl w.heap.size 9 i0 (.string ⟨#[]⟩) 1 16 Tryd.underlying82 hi0 hz0 hz1 hz2 rfl (by decide) _ _ _ rfl (own_alloc hown3 _) ⟨w3.heap.size, 0, none⟩ 1 1 [.string (padB (numB a[j]) 9)] rfl rfl (one_new _ _ _) ?c2 ?c3 ?c4 ?c5 ?_)
          case c2 => first | (intro u hu; simp at hu; subst hu; rfl) | rfl
          case c3 => unfold maxLen; omega
          case c4 => omega
          case c5 => have := hb3.size; simp; omega
          intro v1 w4 hown4 hg4 _
          have hb4 := below_push hb3 (Nat.le_refl _) hown3 hg4
          go_wp2
          exact ⟨⟨j, ss ++ [padB (numB a[j]) 9], by omega, rfl, HN, by simpa using hown4, hb4⟩, by simp [intOf]⟩
        · obtain rfl : k = 0 := by omega
          go_wp2_with fail
          refine (implJoin_any _ ⟨#[]⟩ ss w.heap.size _ _ (Nat.le_refl _) (by omega) (by decide) HP.out.2.1 (Row.of_own hown)).mono ?_
          rintro e w2 ⟨rfl, b2⟩
          go_wp2
          go_ret
          exact ⟨ret_str (by rw [HV.out, HP.out.1]; rfl), Below.next hb b2⟩
  · have okf : natOkB a = false := by simpa using ok
    have HV := Lib.hid (show natTextB a = ⟨#[]⟩ by unfold natTextB; rw [if_neg ok])
    clear hA ok
    go_enter Tryd.func32, Tryd.ntmps32
    go_wp2_with fail
    refine (implNatOk_same _ a lo hi _ (by omega) hr0).mono ?_
    rintro e w' ⟨rfl, rfl⟩
    rw [okf]
    go_wp2
    go_ret
    exact ⟨ret_str HV.out.symm, Below.refl _ _⟩
end Go.Proofs.YtecaghbakjalgaaDoor
