/-
  Chapter 7: the modes, their names and impl's table of them.
-/
import Derived.Test.YtclgelopcgahaaaModePlain
import Derived.Test.YtclgelopcgahaaaNatSpec
import Derived.Test.YtclgelopcgahaaaBox
import Derived.Laws.EntriesVeiled
namespace Go.Proofs.Ytclgelopcgahaaa
open Go.RowKit

theorem modeB_in (m : Int) : inB m 0 6 = modeB m := rfl
set_option maxHeartbeats 400000 in
set_option maxRecDepth 100000 in
theorem l06Mode_any (m : Int) (w : World) : Calls Try.prog 9 #[.int .i64 m] w (Postb (modeB m) w) := by
  go_enter Try.func9, Try.ntmps9
  go_wp2_with fail
  refine (specIn_any m 0 6 (modeB m) _ (modeB_in m)).mono ?_
  rintro e w1 ⟨rfl, rfl⟩
  go_wp2
  go_ret
  exact ⟨rfl, Below.refl _ _⟩
/-- what a call answers that gives a string -/
def PostN (s : ByteArray) (w : World) (e : Ending) (w' : World) : Prop := e = .returned (.string s) ∧ Below w.heap.size w w'
set_option maxHeartbeats 1000000 in
set_option maxRecDepth 100000 in
theorem specRmName_any (m : Int) (w : World) : Calls Try.prog 5 #[.int .i64 m] w (PostN (nameB m) w) := by
  by_cases h : modeB m = true
  · rcases modeB_cases h with rfl | rfl | rfl | rfl | rfl | rfl | rfl
    · go_enter Try.func5, Try.ntmps5
      go_wp2_with fail
      refine (l06Mode_any _ _).mono ?_
      rintro e w1 ⟨rfl, b1⟩
      rw [show modeB 0 = true from rfl]
      go_wp2
      go_ret
      exact ⟨rfl, below_al b1 _⟩
    · go_enter Try.func5, Try.ntmps5
      go_wp2_with fail
      refine (l06Mode_any _ _).mono ?_
      rintro e w1 ⟨rfl, b1⟩
      rw [show modeB 1 = true from rfl]
      go_wp2
      go_ret
      exact ⟨rfl, below_al b1 _⟩
    · go_enter Try.func5, Try.ntmps5
      go_wp2_with fail
      refine (l06Mode_any _ _).mono ?_
      rintro e w1 ⟨rfl, b1⟩
      rw [show modeB 2 = true from rfl]
      go_wp2
      go_ret
      exact ⟨rfl, below_al b1 _⟩
    · go_enter Try.func5, Try.ntmps5
      go_wp2_with fail
      refine (l06Mode_any _ _).mono ?_
      rintro e w1 ⟨rfl, b1⟩
      rw [show modeB 3 = true from rfl]
      go_wp2
      go_ret
      exact ⟨rfl, below_al b1 _⟩
    · go_enter Try.func5, Try.ntmps5
      go_wp2_with fail
      refine (l06Mode_any _ _).mono ?_
      rintro e w1 ⟨rfl, b1⟩
      rw [show modeB 4 = true from rfl]
      go_wp2
      go_ret
      exact ⟨rfl, below_al b1 _⟩
    · go_enter Try.func5, Try.ntmps5
      go_wp2_with fail
      refine (l06Mode_any _ _).mono ?_
      rintro e w1 ⟨rfl, b1⟩
      rw [show modeB 5 = true from rfl]
      go_wp2
      go_ret
      exact ⟨rfl, below_al b1 _⟩
    · go_enter Try.func5, Try.ntmps5
      go_wp2_with fail
      refine (l06Mode_any _ _).mono ?_
      rintro e w1 ⟨rfl, b1⟩
      rw [show modeB 6 = true from rfl]
      go_wp2
      go_ret
      exact ⟨rfl, below_al b1 _⟩
  · have hf : modeB m = false := by simpa using h
    have HV := Lib.hid (modeB_false h).1
    clear h
    go_enter Try.func5, Try.ntmps5
    go_wp2_with fail
    refine (l06Mode_any _ _).mono ?_
    rintro e w1 ⟨rfl, b1⟩
    rw [hf]
    clear hf
    go_wp2
    go_ret
    exact ⟨by rw [HV.out]; rfl, b1⟩
theorem bytes_neM {a b : ByteArray} (h : ¬ a = b) : (a.toList == b.toList) = false := by
  rw [beq_eq_false_iff_ne]
  rw [ByteArray.toList_eq, ByteArray.toList_eq]
  exact fun e => h (WideShapes.bytes_inj e)
theorem bytes_eqM {a b : ByteArray} (h : a = b) : (a.toList == b.toList) = true := by subst h; exact beq_self_eq_true _
set_option maxHeartbeats 1000000 in
set_option maxRecDepth 100000 in
theorem specNameRm_any (s : ByteArray) (w : World) : Calls Try.prog 7 #[.string s] w (Postnb (modeOf s).1 (modeOf s).2 w) := by
  go_enter Try.func7, Try.ntmps7
  go_wp2
  go_loopw [4] (fun i wr => ∃ k : Nat, k ≤ 7 ∧ i = .int .i64 k ∧ Hid (modeFrom (7 - k) k s = modeOf s) ∧ Below w.heap.size w wr) (fun i _ => 7 - (intOf i).toNat)
  case atStart => exact ⟨0, by omega, rfl, Lib.hid rfl, Below.refl _ _⟩
  case round =>
    obtain ⟨k, hk, rfl, HM, hb⟩ := hrel
    by_cases hlt : k < 7
    · have h6 : (k : Int) ≤ 6 := by omega
      go_wp2_with fail
      refine (specRmName_any _ _).mono ?_
      rintro e w1 ⟨rfl, b1⟩
      have bb := Below.next hb b1
      clear hb b1
      obtain ⟨j, hj⟩ : ∃ j, 7 - k = j + 1 := ⟨6 - k, by omega⟩
      by_cases hq : nameB k = s
      · have hV := Lib.hid (show modeOf s = ((k : Int), true) by rw [← HM.out, hj]; exact modeFrom_hit hq)
        have hs := bytes_eqM hq
        clear hq
        go_wp2
        go_ret2
        exact ⟨by rw [hV.out]; rfl, bb⟩
      · have hV := Lib.hid (show modeFrom (7 - (k + 1)) ((k + 1 : Nat) : Int) s = modeOf s by rw [← HM.out, hj, show 7 - (k + 1) = j by omega, Int.natCast_add]; exact (modeFrom_miss hq).symm)
        have hs := bytes_neM hq
        clear hq
        go_wp2
        go_roundw
        case rel => exact ⟨k + 1, by omega, by go_num, hV, bb⟩
        case measure => simp [intOf]; omega
    · obtain rfl : k = 7 := by omega
      have hV := Lib.hid (show modeOf s = (0, false) from HM.out.symm)
      go_wp2
      go_ret2
      exact ⟨by rw [hV.out]; rfl, hb⟩
/-- impl's table of the modes -/
def modeCells : Array Value := #[.string ⟨#[100, 111, 119, 110]⟩, .func (.func 13) #[] #[], .string ⟨#[117, 112]⟩, .func (.func 14) #[] #[], .string ⟨#[102, 108, 111, 111, 114]⟩, .func (.func 15) #[] #[], .string ⟨#[99, 101, 105, 108]⟩, .func (.func 16) #[] #[], .string ⟨#[104, 97, 108, 102, 100, 111, 119, 110]⟩, .func (.func 17) #[] #[], .string ⟨#[104, 97, 108, 102, 117, 112]⟩, .func (.func 19) #[] #[], .string ⟨#[104, 97, 108, 102, 101, 118, 101, 110]⟩, .func (.func 20) #[] #[]]
set_option maxHeartbeats 1000000 in
set_option maxRecDepth 100000 in
theorem roundings_any (w : World) : Calls Try.prog 11 #[] w fun e w' => ∃ b : Nat, e = .returned (.slice (some ⟨b, 0, none⟩) 7 7) ∧ At [b] (BoxAt b modeCells 30) w' ∧ w.heap.size ≤ b ∧ Below w.heap.size w w' := by
  go_enter Try.func11, Try.ntmps11
  go_wp2
  go_ret
  exact ⟨_, rfl, box_new _ _ _, Nat.le_refl _, below_al (Below.refl _ _) _⟩
theorem below_set2M {W0 W : World} {g : Nat} {a b : Value} (h : Below W0.heap.size W0 W) (hg : W0.heap.size ≤ g) : Below W0.heap.size W0 ((W.setCell ⟨g, 0, none⟩ a).setCell ⟨g, 1, none⟩ b) := (h.setCell (p := ⟨g, 0, none⟩) hg _).setCell (p := ⟨g, 1, none⟩) hg _
/-- the function that impl's table holds for a mode -/
def fnOf (m : Int) : FuncId := if m = 0 then 13 else if m = 1 then 14 else if m = 2 then 15 else if m = 3 then 16 else if m = 4 then 17 else if m = 5 then 19 else 20
def PostRM (s : ByteArray) (f : Value) (b : Bool) (w : World) (e : Ending) (w' : World) : Prop := e = .returned (.tuple #[.agg #[.string s, f], .bool b]) ∧ Below w.heap.size w w'
set_option maxHeartbeats 4000000 in
set_option maxRecDepth 100000 in
theorem roundingOf_mode (m : Int) (hm : modeB m = true) (w : World) : Calls Try.prog 10 #[.int .i64 m] w (PostRM (nameB m) (.func (.func (fnOf m)) #[] #[]) true w) := by
  have bb0 : Below w.heap.size w (w.alloc (.cells #[.string ⟨#[]⟩, .nilFunc] 30)) := below_al (Below.refl _ _) _
  have ko := box_new w #[.string ⟨#[]⟩, .nilFunc] 30
  rcases modeB_cases hm with rfl | rfl | rfl | rfl | rfl | rfl | rfl
  · clear hm
    go_enter Try.func10, Try.ntmps10
    go_wp2_with fail
    refine (roundings_any _).mono ?_
    rintro e w1 ⟨b, rfl, kb, hb, b1⟩
    have bb1 := Below.next bb0 b1
    replace ko := ko.below b1
    have cb0 : w1.cell? ⟨b, 0, none⟩ = some (.string ⟨#[100, 111, 119, 110]⟩) := kb.here.cell 0 _ rfl
    have cb1 : w1.cell? ⟨b, 1, none⟩ = some (.func (.func 13) #[] #[]) := kb.here.cell 1 _ rfl
    have cz0 := ko.here.cell 0 _ rfl
    have cz1 := ko.here.cell 1 _ rfl
    have fz0 := Lib.frozen_of_heap ko.here 0
    have fz1 := Lib.frozen_of_heap ko.here 1
    go_wp2
    refine bodyPost_ret (v := .tuple #[.agg #[.string ⟨#[100, 111, 119, 110]⟩, .func (.func 13) #[] #[]], .bool true]) (by simp [results, Try.results10, go_sem, cz0, cz1]) rfl ?_
    exact ⟨rfl, below_set2M bb1 (Nat.le_refl _)⟩
  · clear hm
    go_enter Try.func10, Try.ntmps10
    go_wp2_with fail
    refine (roundings_any _).mono ?_
    rintro e w1 ⟨b, rfl, kb, hb, b1⟩
    have bb1 := Below.next bb0 b1
    replace ko := ko.below b1
    have cb0 : w1.cell? ⟨b, 2, none⟩ = some (.string ⟨#[117, 112]⟩) := kb.here.cell 2 _ rfl
    have cb1 : w1.cell? ⟨b, 3, none⟩ = some (.func (.func 14) #[] #[]) := kb.here.cell 3 _ rfl
    have cz0 := ko.here.cell 0 _ rfl
    have cz1 := ko.here.cell 1 _ rfl
    have fz0 := Lib.frozen_of_heap ko.here 0
    have fz1 := Lib.frozen_of_heap ko.here 1
    go_wp2
    refine bodyPost_ret (v := .tuple #[.agg #[.string ⟨#[117, 112]⟩, .func (.func 14) #[] #[]], .bool true]) (by simp [results, Try.results10, go_sem, cz0, cz1]) rfl ?_
    exact ⟨rfl, below_set2M bb1 (Nat.le_refl _)⟩
  · clear hm
    go_enter Try.func10, Try.ntmps10
    go_wp2_with fail
    refine (roundings_any _).mono ?_
    rintro e w1 ⟨b, rfl, kb, hb, b1⟩
    have bb1 := Below.next bb0 b1
    replace ko := ko.below b1
    have cb0 : w1.cell? ⟨b, 4, none⟩ = some (.string ⟨#[102, 108, 111, 111, 114]⟩) := kb.here.cell 4 _ rfl
    have cb1 : w1.cell? ⟨b, 5, none⟩ = some (.func (.func 15) #[] #[]) := kb.here.cell 5 _ rfl
    have cz0 := ko.here.cell 0 _ rfl
    have cz1 := ko.here.cell 1 _ rfl
    have fz0 := Lib.frozen_of_heap ko.here 0
    have fz1 := Lib.frozen_of_heap ko.here 1
    go_wp2
    refine bodyPost_ret (v := .tuple #[.agg #[.string ⟨#[102, 108, 111, 111, 114]⟩, .func (.func 15) #[] #[]], .bool true]) (by simp [results, Try.results10, go_sem, cz0, cz1]) rfl ?_
    exact ⟨rfl, below_set2M bb1 (Nat.le_refl _)⟩
  · clear hm
    go_enter Try.func10, Try.ntmps10
    go_wp2_with fail
    refine (roundings_any _).mono ?_
    rintro e w1 ⟨b, rfl, kb, hb, b1⟩
    have bb1 := Below.next bb0 b1
    replace ko := ko.below b1
    have cb0 : w1.cell? ⟨b, 6, none⟩ = some (.string ⟨#[99, 101, 105, 108]⟩) := kb.here.cell 6 _ rfl
    have cb1 : w1.cell? ⟨b, 7, none⟩ = some (.func (.func 16) #[] #[]) := kb.here.cell 7 _ rfl
    have cz0 := ko.here.cell 0 _ rfl
    have cz1 := ko.here.cell 1 _ rfl
    have fz0 := Lib.frozen_of_heap ko.here 0
    have fz1 := Lib.frozen_of_heap ko.here 1
    go_wp2
    refine bodyPost_ret (v := .tuple #[.agg #[.string ⟨#[99, 101, 105, 108]⟩, .func (.func 16) #[] #[]], .bool true]) (by simp [results, Try.results10, go_sem, cz0, cz1]) rfl ?_
    exact ⟨rfl, below_set2M bb1 (Nat.le_refl _)⟩
  · clear hm
    go_enter Try.func10, Try.ntmps10
    go_wp2_with fail
    refine (roundings_any _).mono ?_
    rintro e w1 ⟨b, rfl, kb, hb, b1⟩
    have bb1 := Below.next bb0 b1
    replace ko := ko.below b1
    have cb0 : w1.cell? ⟨b, 8, none⟩ = some (.string ⟨#[104, 97, 108, 102, 100, 111, 119, 110]⟩) := kb.here.cell 8 _ rfl
    have cb1 : w1.cell? ⟨b, 9, none⟩ = some (.func (.func 17) #[] #[]) := kb.here.cell 9 _ rfl
    have cz0 := ko.here.cell 0 _ rfl
    have cz1 := ko.here.cell 1 _ rfl
    have fz0 := Lib.frozen_of_heap ko.here 0
    have fz1 := Lib.frozen_of_heap ko.here 1
    go_wp2
    refine bodyPost_ret (v := .tuple #[.agg #[.string ⟨#[104, 97, 108, 102, 100, 111, 119, 110]⟩, .func (.func 17) #[] #[]], .bool true]) (by simp [results, Try.results10, go_sem, cz0, cz1]) rfl ?_
    exact ⟨rfl, below_set2M bb1 (Nat.le_refl _)⟩
  · clear hm
    go_enter Try.func10, Try.ntmps10
    go_wp2_with fail
    refine (roundings_any _).mono ?_
    rintro e w1 ⟨b, rfl, kb, hb, b1⟩
    have bb1 := Below.next bb0 b1
    replace ko := ko.below b1
    have cb0 : w1.cell? ⟨b, 10, none⟩ = some (.string ⟨#[104, 97, 108, 102, 117, 112]⟩) := kb.here.cell 10 _ rfl
    have cb1 : w1.cell? ⟨b, 11, none⟩ = some (.func (.func 19) #[] #[]) := kb.here.cell 11 _ rfl
    have cz0 := ko.here.cell 0 _ rfl
    have cz1 := ko.here.cell 1 _ rfl
    have fz0 := Lib.frozen_of_heap ko.here 0
    have fz1 := Lib.frozen_of_heap ko.here 1
    go_wp2
    refine bodyPost_ret (v := .tuple #[.agg #[.string ⟨#[104, 97, 108, 102, 117, 112]⟩, .func (.func 19) #[] #[]], .bool true]) (by simp [results, Try.results10, go_sem, cz0, cz1]) rfl ?_
    exact ⟨rfl, below_set2M bb1 (Nat.le_refl _)⟩
  · clear hm
    go_enter Try.func10, Try.ntmps10
    go_wp2_with fail
    refine (roundings_any _).mono ?_
    rintro e w1 ⟨b, rfl, kb, hb, b1⟩
    have bb1 := Below.next bb0 b1
    replace ko := ko.below b1
    have cb0 : w1.cell? ⟨b, 12, none⟩ = some (.string ⟨#[104, 97, 108, 102, 101, 118, 101, 110]⟩) := kb.here.cell 12 _ rfl
    have cb1 : w1.cell? ⟨b, 13, none⟩ = some (.func (.func 20) #[] #[]) := kb.here.cell 13 _ rfl
    have cz0 := ko.here.cell 0 _ rfl
    have cz1 := ko.here.cell 1 _ rfl
    have fz0 := Lib.frozen_of_heap ko.here 0
    have fz1 := Lib.frozen_of_heap ko.here 1
    go_wp2
    refine bodyPost_ret (v := .tuple #[.agg #[.string ⟨#[104, 97, 108, 102, 101, 118, 101, 110]⟩, .func (.func 20) #[] #[]], .bool true]) (by simp [results, Try.results10, go_sem, cz0, cz1]) rfl ?_
    exact ⟨rfl, below_set2M bb1 (Nat.le_refl _)⟩
set_option maxHeartbeats 4000000 in
set_option maxRecDepth 100000 in
theorem roundingOf_none (m : Int) (hm : ¬ modeB m = true) (w : World) : Calls Try.prog 10 #[.int .i64 m] w (PostRM ⟨#[]⟩ .nilFunc false w) := by
  have bb0 : Below w.heap.size w (w.alloc (.cells #[.string ⟨#[]⟩, .nilFunc] 30)) := below_al (Below.refl _ _) _
  have ko := box_new w #[.string ⟨#[]⟩, .nilFunc] 30
  have h6 := (modeB_false hm).2
  clear hm
  by_cases h0 : m < 0
  · clear h6
    go_enter Try.func10, Try.ntmps10
    go_wp2_with fail
    refine (roundings_any _).mono ?_
    rintro e w1 ⟨b, rfl, kb, hb, b1⟩
    have bb1 := Below.next bb0 b1
    replace ko := ko.below b1
    have cz0 := ko.here.cell 0 _ rfl
    have cz1 := ko.here.cell 1 _ rfl
    have fz0 := Lib.frozen_of_heap ko.here 0
    have fz1 := Lib.frozen_of_heap ko.here 1
    go_wp2
    refine bodyPost_ret (v := .tuple #[.agg #[.string ⟨#[]⟩, .nilFunc], .bool false]) (by simp [results, Try.results10, go_sem, cz0, cz1]) rfl ?_
    exact ⟨rfl, below_set2M bb1 (Nat.le_refl _)⟩
  · have h7 : ((7 : Nat) : Int) ≤ m := by omega
    clear h6
    go_enter Try.func10, Try.ntmps10
    go_wp2_with fail
    refine (roundings_any _).mono ?_
    rintro e w1 ⟨b, rfl, kb, hb, b1⟩
    have bb1 := Below.next bb0 b1
    replace ko := ko.below b1
    have cz0 := ko.here.cell 0 _ rfl
    have cz1 := ko.here.cell 1 _ rfl
    have fz0 := Lib.frozen_of_heap ko.here 0
    have fz1 := Lib.frozen_of_heap ko.here 1
    go_wp2
    refine bodyPost_ret (v := .tuple #[.agg #[.string ⟨#[]⟩, .nilFunc], .bool false]) (by simp [results, Try.results10, go_sem, cz0, cz1]) rfl ?_
    exact ⟨rfl, below_set2M bb1 (Nat.le_refl _)⟩
set_option maxHeartbeats 1000000 in
set_option maxRecDepth 100000 in
theorem implRmName_any (m : Int) (w : World) : Calls Try.prog 6 #[.int .i64 m] w (PostN (nameB m) w) := by
  by_cases h : modeB m = true
  · go_enter Try.func6, Try.ntmps6
    go_wp2_with fail
    refine (roundingOf_mode m h _).mono ?_
    rintro e w1 ⟨rfl, b1⟩
    go_wp2
    go_ret
    exact ⟨rfl, below_al b1 _⟩
  · have HV := Lib.hid (modeB_false h).1
    go_enter Try.func6, Try.ntmps6
    go_wp2_with fail
    refine (roundingOf_none m h _).mono ?_
    rintro e w1 ⟨rfl, b1⟩
    go_wp2
    go_ret
    exact ⟨by rw [HV.out]; rfl, below_al b1 _⟩
set_option maxHeartbeats 4000000 in
set_option maxRecDepth 100000 in
theorem implNameRm_any (s : ByteArray) (w : World) : Calls Try.prog 8 #[.string s] w (Postnb (modeOf s).1 (modeOf s).2 w) := by
  go_enter Try.func8, Try.ntmps8
  go_wp2_with fail
  refine (roundings_any _).mono ?_
  rintro e w1 ⟨b, rfl, kb, hb, b1⟩
  clear hb
  go_wp2
  go_loopw [8] (fun i wr => ∃ k : Int, 0 ≤ k ∧ k ≤ 7 ∧ i = .int .i64 k ∧ Hid (modeFrom (7 - k.toNat) k s = modeOf s) ∧ At [b] (BoxAt b modeCells 30) wr ∧ Below w.heap.size w wr) (fun i _ => 7 - (intOf i).toNat)
  case atStart => exact ⟨0, by omega, by omega, rfl, Lib.hid rfl, kb, b1⟩
  case round =>
    obtain ⟨k, hk0, hk, rfl, HM, kb, hb⟩ := hrel
    rcases (show k = 0 ∨ k = 1 ∨ k = 2 ∨ k = 3 ∨ k = 4 ∨ k = 5 ∨ k = 6 ∨ k = 7 by omega) with rfl | rfl | rfl | rfl | rfl | rfl | rfl | rfl
    · clear hk hk0
      have cb0 : wr.cell? ⟨b, 0, none⟩ = some (.string ⟨#[100, 111, 119, 110]⟩) := kb.here.cell 0 _ rfl
      have cb1 : wr.cell? ⟨b, 1, none⟩ = some (.func (.func 13) #[] #[]) := kb.here.cell 1 _ rfl
      have kb2 := kb.below (below_al (Below.refl _ wr) (.cells #[.string ⟨#[100, 111, 119, 110]⟩, .func (.func 13) #[] #[]] 30))
      by_cases hq : (⟨#[100, 111, 119, 110]⟩ : ByteArray) = s
      · have hV := Lib.hid (show modeOf s = (0, true) from HM.out.symm.trans (modeFrom_hit (n := 6) (m := 0) hq))
        have hs : (([100, 111, 119, 110] : List UInt8) == s.toList) = true := by have h := bytes_eqM hq; rw [show (⟨#[100, 111, 119, 110]⟩ : ByteArray).toList = [100, 111, 119, 110] by rw [ByteArray.toList_eq]] at h; exact h
        clear hq kb kb2
        go_wp2
        go_ret2
        exact ⟨by rw [hV.out]; rfl, below_al hb _⟩
      · have hV := Lib.hid (show modeFrom 6 1 s = modeOf s from (modeFrom_miss (n := 6) (m := 0) hq).symm.trans HM.out)
        have hs : (([100, 111, 119, 110] : List UInt8) == s.toList) = false := by have h := bytes_neM hq; rw [show (⟨#[100, 111, 119, 110]⟩ : ByteArray).toList = [100, 111, 119, 110] by rw [ByteArray.toList_eq]] at h; exact h
        clear hq kb
        go_wp2
        go_roundw
        case rel => exact ⟨1, by omega, by omega, by go_num, hV, kb2, below_al hb _⟩
        case measure => simp [intOf]
    · clear hk hk0
      have cb0 : wr.cell? ⟨b, 2, none⟩ = some (.string ⟨#[117, 112]⟩) := kb.here.cell 2 _ rfl
      have cb1 : wr.cell? ⟨b, 3, none⟩ = some (.func (.func 14) #[] #[]) := kb.here.cell 3 _ rfl
      have kb2 := kb.below (below_al (Below.refl _ wr) (.cells #[.string ⟨#[117, 112]⟩, .func (.func 14) #[] #[]] 30))
      by_cases hq : (⟨#[117, 112]⟩ : ByteArray) = s
      · have hV := Lib.hid (show modeOf s = (1, true) from HM.out.symm.trans (modeFrom_hit (n := 5) (m := 1) hq))
        have hs : (([117, 112] : List UInt8) == s.toList) = true := by have h := bytes_eqM hq; rw [show (⟨#[117, 112]⟩ : ByteArray).toList = [117, 112] by rw [ByteArray.toList_eq]] at h; exact h
        clear hq kb kb2
        go_wp2
        go_ret2
        exact ⟨by rw [hV.out]; rfl, below_al hb _⟩
      · have hV := Lib.hid (show modeFrom 5 2 s = modeOf s from (modeFrom_miss (n := 5) (m := 1) hq).symm.trans HM.out)
        have hs : (([117, 112] : List UInt8) == s.toList) = false := by have h := bytes_neM hq; rw [show (⟨#[117, 112]⟩ : ByteArray).toList = [117, 112] by rw [ByteArray.toList_eq]] at h; exact h
        clear hq kb
        go_wp2
        go_roundw
        case rel => exact ⟨2, by omega, by omega, by go_num, hV, kb2, below_al hb _⟩
        case measure => simp [intOf]
    · clear hk hk0
      have cb0 : wr.cell? ⟨b, 4, none⟩ = some (.string ⟨#[102, 108, 111, 111, 114]⟩) := kb.here.cell 4 _ rfl
      have cb1 : wr.cell? ⟨b, 5, none⟩ = some (.func (.func 15) #[] #[]) := kb.here.cell 5 _ rfl
      have kb2 := kb.below (below_al (Below.refl _ wr) (.cells #[.string ⟨#[102, 108, 111, 111, 114]⟩, .func (.func 15) #[] #[]] 30))
      by_cases hq : (⟨#[102, 108, 111, 111, 114]⟩ : ByteArray) = s
      · have hV := Lib.hid (show modeOf s = (2, true) from HM.out.symm.trans (modeFrom_hit (n := 4) (m := 2) hq))
        have hs : (([102, 108, 111, 111, 114] : List UInt8) == s.toList) = true := by have h := bytes_eqM hq; rw [show (⟨#[102, 108, 111, 111, 114]⟩ : ByteArray).toList = [102, 108, 111, 111, 114] by rw [ByteArray.toList_eq]] at h; exact h
        clear hq kb kb2
        go_wp2
        go_ret2
        exact ⟨by rw [hV.out]; rfl, below_al hb _⟩
      · have hV := Lib.hid (show modeFrom 4 3 s = modeOf s from (modeFrom_miss (n := 4) (m := 2) hq).symm.trans HM.out)
        have hs : (([102, 108, 111, 111, 114] : List UInt8) == s.toList) = false := by have h := bytes_neM hq; rw [show (⟨#[102, 108, 111, 111, 114]⟩ : ByteArray).toList = [102, 108, 111, 111, 114] by rw [ByteArray.toList_eq]] at h; exact h
        clear hq kb
        go_wp2
        go_roundw
        case rel => exact ⟨3, by omega, by omega, by go_num, hV, kb2, below_al hb _⟩
        case measure => simp [intOf]
    · clear hk hk0
      have cb0 : wr.cell? ⟨b, 6, none⟩ = some (.string ⟨#[99, 101, 105, 108]⟩) := kb.here.cell 6 _ rfl
      have cb1 : wr.cell? ⟨b, 7, none⟩ = some (.func (.func 16) #[] #[]) := kb.here.cell 7 _ rfl
      have kb2 := kb.below (below_al (Below.refl _ wr) (.cells #[.string ⟨#[99, 101, 105, 108]⟩, .func (.func 16) #[] #[]] 30))
      by_cases hq : (⟨#[99, 101, 105, 108]⟩ : ByteArray) = s
      · have hV := Lib.hid (show modeOf s = (3, true) from HM.out.symm.trans (modeFrom_hit (n := 3) (m := 3) hq))
        have hs : (([99, 101, 105, 108] : List UInt8) == s.toList) = true := by have h := bytes_eqM hq; rw [show (⟨#[99, 101, 105, 108]⟩ : ByteArray).toList = [99, 101, 105, 108] by rw [ByteArray.toList_eq]] at h; exact h
        clear hq kb kb2
        go_wp2
        go_ret2
        exact ⟨by rw [hV.out]; rfl, below_al hb _⟩
      · have hV := Lib.hid (show modeFrom 3 4 s = modeOf s from (modeFrom_miss (n := 3) (m := 3) hq).symm.trans HM.out)
        have hs : (([99, 101, 105, 108] : List UInt8) == s.toList) = false := by have h := bytes_neM hq; rw [show (⟨#[99, 101, 105, 108]⟩ : ByteArray).toList = [99, 101, 105, 108] by rw [ByteArray.toList_eq]] at h; exact h
        clear hq kb
        go_wp2
        go_roundw
        case rel => exact ⟨4, by omega, by omega, by go_num, hV, kb2, below_al hb _⟩
        case measure => simp [intOf]
    · clear hk hk0
      have cb0 : wr.cell? ⟨b, 8, none⟩ = some (.string ⟨#[104, 97, 108, 102, 100, 111, 119, 110]⟩) := kb.here.cell 8 _ rfl
      have cb1 : wr.cell? ⟨b, 9, none⟩ = some (.func (.func 17) #[] #[]) := kb.here.cell 9 _ rfl
      have kb2 := kb.below (below_al (Below.refl _ wr) (.cells #[.string ⟨#[104, 97, 108, 102, 100, 111, 119, 110]⟩, .func (.func 17) #[] #[]] 30))
      by_cases hq : (⟨#[104, 97, 108, 102, 100, 111, 119, 110]⟩ : ByteArray) = s
      · have hV := Lib.hid (show modeOf s = (4, true) from HM.out.symm.trans (modeFrom_hit (n := 2) (m := 4) hq))
        have hs : (([104, 97, 108, 102, 100, 111, 119, 110] : List UInt8) == s.toList) = true := by have h := bytes_eqM hq; rw [show (⟨#[104, 97, 108, 102, 100, 111, 119, 110]⟩ : ByteArray).toList = [104, 97, 108, 102, 100, 111, 119, 110] by rw [ByteArray.toList_eq]] at h; exact h
        clear hq kb kb2
        go_wp2
        go_ret2
        exact ⟨by rw [hV.out]; rfl, below_al hb _⟩
      · have hV := Lib.hid (show modeFrom 2 5 s = modeOf s from (modeFrom_miss (n := 2) (m := 4) hq).symm.trans HM.out)
        have hs : (([104, 97, 108, 102, 100, 111, 119, 110] : List UInt8) == s.toList) = false := by have h := bytes_neM hq; rw [show (⟨#[104, 97, 108, 102, 100, 111, 119, 110]⟩ : ByteArray).toList = [104, 97, 108, 102, 100, 111, 119, 110] by rw [ByteArray.toList_eq]] at h; exact h
        clear hq kb
        go_wp2
        go_roundw
        case rel => exact ⟨5, by omega, by omega, by go_num, hV, kb2, below_al hb _⟩
        case measure => simp [intOf]
    · clear hk hk0
      have cb0 : wr.cell? ⟨b, 10, none⟩ = some (.string ⟨#[104, 97, 108, 102, 117, 112]⟩) := kb.here.cell 10 _ rfl
      have cb1 : wr.cell? ⟨b, 11, none⟩ = some (.func (.func 19) #[] #[]) := kb.here.cell 11 _ rfl
      have kb2 := kb.below (below_al (Below.refl _ wr) (.cells #[.string ⟨#[104, 97, 108, 102, 117, 112]⟩, .func (.func 19) #[] #[]] 30))
      by_cases hq : (⟨#[104, 97, 108, 102, 117, 112]⟩ : ByteArray) = s
      · have hV := Lib.hid (show modeOf s = (5, true) from HM.out.symm.trans (modeFrom_hit (n := 1) (m := 5) hq))
        have hs : (([104, 97, 108, 102, 117, 112] : List UInt8) == s.toList) = true := by have h := bytes_eqM hq; rw [show (⟨#[104, 97, 108, 102, 117, 112]⟩ : ByteArray).toList = [104, 97, 108, 102, 117, 112] by rw [ByteArray.toList_eq]] at h; exact h
        clear hq kb kb2
        go_wp2
        go_ret2
        exact ⟨by rw [hV.out]; rfl, below_al hb _⟩
      · have hV := Lib.hid (show modeFrom 1 6 s = modeOf s from (modeFrom_miss (n := 1) (m := 5) hq).symm.trans HM.out)
        have hs : (([104, 97, 108, 102, 117, 112] : List UInt8) == s.toList) = false := by have h := bytes_neM hq; rw [show (⟨#[104, 97, 108, 102, 117, 112]⟩ : ByteArray).toList = [104, 97, 108, 102, 117, 112] by rw [ByteArray.toList_eq]] at h; exact h
        clear hq kb
        go_wp2
        go_roundw
        case rel => exact ⟨6, by omega, by omega, by go_num, hV, kb2, below_al hb _⟩
        case measure => simp [intOf]
    · clear hk hk0
      have cb0 : wr.cell? ⟨b, 12, none⟩ = some (.string ⟨#[104, 97, 108, 102, 101, 118, 101, 110]⟩) := kb.here.cell 12 _ rfl
      have cb1 : wr.cell? ⟨b, 13, none⟩ = some (.func (.func 20) #[] #[]) := kb.here.cell 13 _ rfl
      have kb2 := kb.below (below_al (Below.refl _ wr) (.cells #[.string ⟨#[104, 97, 108, 102, 101, 118, 101, 110]⟩, .func (.func 20) #[] #[]] 30))
      by_cases hq : (⟨#[104, 97, 108, 102, 101, 118, 101, 110]⟩ : ByteArray) = s
      · have hV := Lib.hid (show modeOf s = (6, true) from HM.out.symm.trans (modeFrom_hit (n := 0) (m := 6) hq))
        have hs : (([104, 97, 108, 102, 101, 118, 101, 110] : List UInt8) == s.toList) = true := by have h := bytes_eqM hq; rw [show (⟨#[104, 97, 108, 102, 101, 118, 101, 110]⟩ : ByteArray).toList = [104, 97, 108, 102, 101, 118, 101, 110] by rw [ByteArray.toList_eq]] at h; exact h
        clear hq kb kb2
        go_wp2
        go_ret2
        exact ⟨by rw [hV.out]; rfl, below_al hb _⟩
      · have hV := Lib.hid (show modeFrom 0 7 s = modeOf s from (modeFrom_miss (n := 0) (m := 6) hq).symm.trans HM.out)
        have hs : (([104, 97, 108, 102, 101, 118, 101, 110] : List UInt8) == s.toList) = false := by have h := bytes_neM hq; rw [show (⟨#[104, 97, 108, 102, 101, 118, 101, 110]⟩ : ByteArray).toList = [104, 97, 108, 102, 101, 118, 101, 110] by rw [ByteArray.toList_eq]] at h; exact h
        clear hq kb
        go_wp2
        go_roundw
        case rel => exact ⟨7, by omega, by omega, by go_num, hV, kb2, below_al hb _⟩
        case measure => simp [intOf]
    · have hV := Lib.hid (show modeOf s = (0, false) from HM.out.symm)
      go_wp2
      go_ret2
      exact ⟨by rw [hV.out]; rfl, hb⟩
end Go.Proofs.Ytclgelopcgahaaa
