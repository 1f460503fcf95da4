/-
  For every code FnWords returns true; no conditions beyond the card's own (the library's number tables hold what the program's text lays).
-/
import Derived.Test.YtppgdekcngkijaaDoorLaidLaw
import Derived.Test.YtppgdekcngkijaaDoorArgs
import Derived.Test.YtppgdekcngkijaaDoorCursor
import Derived.Test.YtppgdekcngkijaaDoorWordsPlain
namespace Go.Proofs.YtppgdekcngkijaaDoor
open Go.ChangeShapes Go.WideShapes Go.ChangeAt Go.RowKit

set_option maxHeartbeats 2000000 in
theorem lawWords_small (v : Value) (bs : List Nat) (w : World) (hl : bs.length ≤ 1048576) (hb : ∀ b ∈ bs, b < 256) (hr : Row w 0 w.heap.size v (bytesV bs)) (ht : Tab w) :
    Calls Tryd.prog 3 #[v] w fun e w' => e = .returned (.bool true) ∧ Below w.heap.size w w' := by
  have HB := Lib.hid hb
  have HR := Lib.hid hr
  have hlen : (bytesV bs).length = bs.length := by simp [bytesV]
  obtain ⟨A, c, rfl, hA⟩ := hr
  rw [hlen] at HR ⊢
  clear hb hA hlen
  go_enter Tryd.func3, Tryd.ntmps3
  go_wp2_with fail
  refine (makeNum_any 2000000 _ bs _ (by omega) (by omega) HB.out hl HR.out).mono ?_
  rintro e w1 ⟨x, hx0, hx1, rfl, b1⟩
  have t1 := ht.below b1
  obtain ⟨n, Hn⟩ : ∃ n : Int, Hid (x - 1000000 = n) := ⟨_, Lib.hid rfl⟩
  have hn0 : -1000000 ≤ n := by have := Hn.out; omega
  have hn1 : n ≤ 999999 := by have := Hn.out; omega
  have hz1 := numB_size n 6 (by omega)
  have hz2 := numB_size (-n) 6 (by omega)
  go_wp2_with fail
  rw [Hn.out]
  refine (implIntText_any n _ (by omega) (by omega) t1).mono ?_
  rintro e w2 ⟨rfl, b2⟩
  have t2 := t1.below b2
  go_wp2_with fail
  refine (implIntText_any (-n) _ (by omega) (by omega) t2).mono ?_
  rintro e w3 ⟨rfl, b3⟩
  have t3 := t2.below b3
  go_wp2_with fail
  refine (implIntText_any n _ (by omega) (by omega) t3).mono ?_
  rintro e w4 ⟨rfl, b4⟩
  have t4 := t3.below b4
  have HW := Lib.hid (show numB n ++ ⟨#[32]⟩ ++ numB (-n) ++ ⟨#[32, 32, 120]⟩ = wordsB n from rfl)
  have hws := wordsB_size n (by omega)
  go_wp2_with fail
  rw [HW.out]
  refine (implTextInt_any (numB n) _ t4).mono ?_
  rintro e w5 ⟨b5, ⟨m, hm, rfl⟩ | ⟨hm, rfl⟩⟩
  · obtain rfl := isNum_inj _ n m ⟨rfl, by omega, by omega⟩ hm
    clear hm
    have t5 := t4.below b5
    go_wp2_with fail
    refine (implCut_any (wordsB n) _ (by omega)).mono ?_
    rintro e w6 ⟨v6, rfl, o6, b6⟩
    have t6 := t5.below b6
    go_wp2_with fail
    refine (implIntText_any n _ (by omega) (by omega) t6).mono ?_
    rintro e w7 ⟨rfl, b7⟩
    have t7 := t6.below b7
    go_wp2_with fail
    refine (implPad_any (numB n) 12 _ (by omega) (by omega) (by omega)).mono ?_
    rintro e w8 ⟨rfl, b8⟩
    have t8 := t7.below b8
    have o8 := own_below (own_below o6 b7) b8
    have HP := Lib.hid (wordsB_pieces n)
    have HZ : Hid (∀ x ∈ cutAtB (wordsB n) ⟨#[32]⟩, x.size ≤ 1048576) := Lib.hid fun x h => by have := cutAt_sizes _ _ _ h; omega
    have HX : Hid (∀ x ∈ cutAtB (wordsB n) ⟨#[120]⟩, x.size ≤ 1048576) := Lib.hid fun x h => by have := cutAt_sizes _ _ _ h; omega
    have HJ1 := Lib.hid (join_cut (wordsB n) 32)
    have HJ2 := Lib.hid (join_cut (wordsB n) 120)
    have hcx := cutAt_length (wordsB n) ⟨#[120]⟩ (by omega)
    have HL := Lib.hid (wordsB_lines n)
    have HD := Lib.hid (numB_digits n (by omega) (by omega))
    have HPS : Hid ((padB (numB n) 12).size = 12) := Lib.hid (by rw [padB_size]; show (12 : Int).toNat - _ + _ = 12; omega)
    rw [HP.out] at o6 o8
    obtain ⟨g6, cap6, rfl, _, _, _⟩ := own_form o6 (by omega)
    have r8 : Row w8 w5.heap.size w8.heap.size _ ((cutAtB (wordsB n) ⟨#[32]⟩).map Value.string) := Row.of_own o8
    go_wp2_with fail
    refine (implJoin_any _ ⟨#[32]⟩ (cutAtB (wordsB n) ⟨#[32]⟩) _ _ _ (Nat.le_refl _) (by rw [HP.out]; omega) (by decide) HZ.out r8).mono ?_
    rintro e w9 ⟨rfl, b9⟩
    rw [HJ1.out]
    have t9 := t8.below b9
    go_wp2_with fail
    refine (implCutAt_any (wordsB n) ⟨#[120]⟩ _ (by omega)).mono ?_
    rintro e w10 ⟨v10, rfl, o10, b10⟩
    have t10 := t9.below b10
    have r10 : Row w10 w9.heap.size w10.heap.size v10 ((cutAtB (wordsB n) ⟨#[120]⟩).map Value.string) := Row.of_own o10
    go_wp2_with fail
    refine (implJoin_any v10 ⟨#[120]⟩ (cutAtB (wordsB n) ⟨#[120]⟩) _ _ _ (Nat.le_refl _) (by have h1 := cutAt_count (wordsB n) ⟨#[120]⟩; have h2 := List.countP_le_length (p := hitB ⟨#[120]⟩) (l := (wordsB n).data.toList); have h3 : (wordsB n).data.toList.length = (wordsB n).size := rfl; omega) (by decide) HX.out r10).mono ?_
    rintro e w11 ⟨rfl, b11⟩
    rw [HJ2.out]
    have t11 := t10.below b11
    have hps := HPS.out
    have hx3 : (padB ⟨#[]⟩ 3).size = 3 := by rw [padB_size]; rfl
    go_wp2_with fail
    refine (implIntText_any n _ (by omega) (by omega) t11).mono ?_
    rintro e w12 ⟨rfl, b12⟩
    go_wp2_with fail
    refine (implIsDigits_any (numB n) _).mono ?_
    rintro e w13 ⟨rfl, b13⟩
    rw [HD.out]
    go_wp2_with fail
    refine (implPad_any ⟨#[]⟩ 3 _ (by decide) (by omega) (by omega)).mono ?_
    rintro e w14 ⟨rfl, b14⟩
    go_wp2_with fail
    refine (implIsWord_any _ _).mono ?_
    rintro e w15 ⟨rfl, b15⟩
    rw [word_x]
    go_wp2_with fail
    refine (implLines_any _ _ (by rw [ByteArray.size_append, ByteArray.size_append]; show (wordsB n).size + 1 + _ ≤ _; omega)).mono ?_
    rintro e w16 ⟨v16, rfl, o16, b16⟩
    rw [HL.out] at o16
    obtain ⟨g16, cap16, rfl, _, _, _⟩ := own_form o16 (by omega)
    go_wp2
    go_ret
    exact ⟨rfl, Below.next (Below.next (Below.next (Below.next (Below.next (Below.next (Below.next (Below.next (Below.next (Below.next (Below.next (Below.next (Below.next (Below.next (Below.next b1 b2) b3) b4) b5) b6) b7) b8) b9) b10) b11) b12) b13) b14) b15) b16⟩
  · exact absurd (show IsNum (numB n) n from ⟨rfl, by omega, by omega⟩) (hm n)

set_option maxHeartbeats 400000 in
theorem lawWords (v : Value) (bs : List Nat) (w : World) (hl : bs.length ≤ maxLen) (hb : ∀ b ∈ bs, b < 256) (hr : Row w 0 w.heap.size v (bytesV bs)) (ht : Tab w) :
    Calls Tryd.prog 3 #[v] w fun e w' => e = .returned (.bool true) ∧ Below w.heap.size w w' := by
  by_cases hbig : 1048576 < bs.length
  · obtain ⟨A, c, rfl, _⟩ := hr
    have hlen : (bytesV bs).length = bs.length := by simp [bytesV]
    rw [hlen]
    clear hlen hb
    unfold maxLen at hl
    go_enter Tryd.func3, Tryd.ntmps3
    go_wp2
    go_ret
    exact ⟨rfl, Below.refl _ _⟩
  · exact lawWords_small v bs w (by omega) hb hr ht

theorem fnWords_met (os : Os) : laidMet Tryd.prog Rows.fnWordsRow.laid ((laidWorld os).forCall (fun _ _ => 0) ⟨#[], #[.slice none 0 0], []⟩).memory :=
  laidMet_of_run' 8 (by kernel_rfl) (by kernel_rfl)
theorem fnWords_reads (os : Os) {H : Type} (enc : TypeId × Value → H) : ∃ places, DataW.whole enc Tryd.prog ((laidWorld os).forCall (fun _ _ => 0) ⟨#[], #[.slice none 0 0], []⟩).memory Tryd.f3.params.toList Rows.fnWordsSpec.vars false (#[.slice none 0 0] : Array Value).toList 8 = some ([.nil], [], places) :=
  ⟨[], by kernel_rfl⟩

set_option maxRecDepth 100000 in
theorem fnWords_lifted (os : Os) (started : os.Started) (H : Type) (enc : TypeId × Value → H) (F : Stop.Interp) :
    ReturnsInHanded {} Tryd.checked os 3 .any ((OpenSpec.ofChange Rows.fnWordsSpec).preRow enc Tryd.prog Tryd.f3 Rows.fnWordsRow.domain false Rows.fnWordsRow.laid) (((OpenSpec.ofChange Rows.fnWordsSpec).at F).post enc Tryd.prog Tryd.f3 false true false false) := by
  obtain ⟨places, hx⟩ := fnWords_reads os enc
  refine law_lifted_laid started (by kernel_rfl) Tryd.func3 (by kernel_rfl) (tb := 4) (by kernel_rfl) Tryd.underlying4 rfl
    (witness_row_at (enc := enc) (C := Tryd.checked) false (laidWorld os) #[.slice none 0 0] rfl (by kernel_rfl) (by kernel_rfl) (by kernel_rfl)
      (OpenSpec.preRow_of_cond 8 hx (by kernel_rfl) (fun k hk => by cases hk) (by kernel_rfl) (fnWords_met os))) ?_
  intro W base args ds p hval hA _ ht
  rw [Tryd.params3] at hA hval
  obtain ⟨v0, d0, rfl, rfl, h0⟩ := trodAll_one hA
  obtain ⟨bs, hr, hl, hb⟩ := arg_bytes Tryd.underlying22 Tryd.underlying5 (by kernel_rfl) (hval 0 22 v0 rfl rfl) h0
  exact ⟨rfl, lawWords v0 bs W hl hb hr ht⟩

theorem fnWords_said : Rows.FnWordsSaid :=
  OpenClaim.holds_of_cond 3 Tryd.f3 rfl rfl rfl rfl rfl rfl rfl ⟨rfl, rfl, rfl, rfl, rfl⟩ rfl rfl rfl rfl rfl (by kernel_rfl) Tryd.func3 (by kernel_rfl)
    (of_decide_eq_true (by kernel_rfl)) (by unfold Func.isWrapper; first | (rw [if_pos (by decide +kernel)]; kernel_rfl) | (rw [if_neg (by decide +kernel)]; exact ⟨rfl, rfl⟩))
    (fun os started H enc _ F => by rw [OpenClaim.pre_eq_preRow]; exact fnWords_lifted os started H enc F)

theorem fnWords_plain (f : FuncId) (fn : Func) (hf : Tryd.pinned.checked.prog.funcNamed "loop.example/g00793/laws.FnWords" = some f) (hfn : Tryd.pinned.checked.prog.funcs[f]? = some fn) :
    false = Tryd.pinned.checked.prog.looks [] ∧ ∀ (j : Nat) t, fn.params[j]? = some t → Tryd.pinned.checked.prog.wantsStandIn t = false := by
  obtain rfl : f = 3 := Option.some.inj ((show Tryd.prog.funcNamed "loop.example/g00793/laws.FnWords" = some 3 by kernel_rfl).symm.trans hf) |>.symm
  obtain rfl : fn = Tryd.f3 := (Option.some.inj (Tryd.func3.symm.trans hfn)).symm
  refine ⟨by kernel_rfl, fun j t ht => ?_⟩
  rw [Tryd.params3] at ht
  obtain rfl : t = 22 := by simpa using Array.mem_of_getElem? ht
  exact (show Tryd.prog.wantsStandIn 22 = false by kernel_rfl)

theorem fnWords_card : Rows.FnWordsCardSaid :=
  Claim7.holds_tied_plain_at .later [] _ _ _ _ fnWords_said (fun _ h => by cases h) (by kernel_rfl) (fun _ h => by cases h) fnWords_row_tie rfl ⟨rfl, rfl⟩ (by kernel_rfl) rfl fnWords_plain (by kernel_rfl)
end Go.Proofs.YtppgdekcngkijaaDoor
