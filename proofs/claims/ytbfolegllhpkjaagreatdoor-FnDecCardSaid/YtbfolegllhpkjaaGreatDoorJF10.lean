/-
  Chapter 8 of package impl: DecText, TextDec.
  What every law of the seat needs: a call that returns true and changes nothing below the heap's old size meets the row's post, whatever its arguments are.
  Arguments, opened: slices of strings and of ints that came in read as lists.
  What a law of a door seat needs: its row lists the three number tables of the library; one of them is read.
  What a law needs whose row names one package-level variable, the sentinel impl.errZeroDivisor, and lists it.
-/
import Derived.Deep.RegionHeld3
import Derived.Deep.DeepCutAuto
import Derived.IntWalk
import Derived.Test.YtbfolegllhpkjaaGreatDoorRows
import Derived.WalkKit
import Derived.ProofKit
import Derived.OpenShut
import Derived.JoinedCond
import Derived.Test.YtbfolegllhpkjaaGreatDoorCards
import Derived.Test.YtbfolegllhpkjaaGreatDoorTie
import Derived.Deep.DeepHandedRow
import Derived.Lib.LaidTab
import Derived.Stop.LaidErr
import Derived.Test.YtbfolegllhpkjaaGreatDoorJF9
namespace Go.Proofs.YtbfolegllhpkjaaGreatDoor
open Go.RowKit

theorem ret_strD {a b : ByteArray} (h : a = b) : Ending.returned (.string a) = Ending.returned (.string b) := by rw [h]
theorem postT_eqD {a b : ByteArray} (h : a = b) {w w' : World} {e : Ending} (k : e = .returned (.string a) ∧ Below w.heap.size w w') : PostT b w e w' := by rw [← h]; exact k
theorem postT_isD {a b : ByteArray} (h : a = b) {w w' : World} {e : Ending} (k : PostT a w e w') : PostT b w e w' := h ▸ k
theorem natText_pos {a : DI} (h : okD a = true) : 1 ≤ (natTextB a.1.2).size := by
  obtain ⟨n, m, b⟩ := body_of h
  have hd := (dig_dec n).2
  have e := b.digits
  have hl := listB_len (natTextB a.1.2)
  rw [e] at hl
  cases hq : Lib.decDigits n with
  | nil => exact absurd hq hd
  | cons c r => rw [hq] at hl; simp at hl; omega
/-- the text of a number without a scale -/
theorem text_zero {a : DI} (h : okD a = true) (h0 : a.2 = 0) : textD a = intStrB a.1 := by
  have hb : bodyD a = natTextB a.1.2 := by
    unfold bodyD
    rw [h0]
    exact padB_same _ _ (by have := natText_pos h; omega)
  unfold textD intStrB
  rw [if_pos h, if_pos (partsD h).ok, hb, h0]
  unfold pointB
  have e : ¬ (0 : Int) < 0 := by decide
  rw [if_neg e]
/-- its parts, with one -/
theorem text_some {a : DI} (h : okD a = true) (h0 : 0 < a.2) {K : Nat} (hK : ((bodyD a).size : Int) - a.2 = K) :
    textD a = (if a.1.1 = true then (⟨#[45]⟩ : ByteArray) else ⟨#[]⟩) ++ ((bodyD a).extract 0 K ++ ⟨#[46]⟩ ++ (bodyD a).extract K (bodyD a).size) := by
  have e : (bodyD a).size - a.2.toNat = K := by omega
  unfold textD pointB
  rw [if_pos h, if_pos h0, e]
  cases a.1.1 with
  | true => rfl
  | false =>
    apply ByteArray.ext
    simp
theorem body_K {a : DI} (h : okD a = true) : ∃ K : Nat, ((bodyD a).size : Int) - a.2 = K ∧ K ≤ (bodyD a).size ∧ (bodyD a).size ≤ 100 := by
  obtain ⟨n, m, b⟩ := body_of h
  have h1 := b.long
  have h2 := b.size
  have h3 := (partsD h).lo
  exact ⟨(bodyD a).size - a.2.toNat, by omega, by omega, h2⟩
theorem box_rowD {g : Nat} {cs : Array Value} {T : TypeId} {w : World} (h : BoxAt g cs T w) : Row w 0 w.heap.size (.slice (some ⟨g, 0, none⟩) cs.size cs.size) cs.toList := by
  have hg := (Array.getElem?_eq_some_iff.1 h).1
  refine ⟨some ⟨g, 0, none⟩, cs.size, by simp, fun j u hj => ⟨⟨g, 0, none⟩, rfl, Nat.zero_le _, hg, ?_⟩⟩
  have e1 : (Addr.add ⟨g, 0, none⟩ j) = ⟨g, j, none⟩ := by
    unfold Addr.add
    cases j with
    | zero => rfl
    | succ n => simp
  rw [e1, Lib.cell_of_heap h]
  simpa using hj
theorem box_drewD {g : Nat} {cs : Array Value} {T : TypeId} {w : World} (h : BoxAt g cs T w) : BoxAt g cs T w.drew := h
theorem join_four (S A C : ByteArray) : joinB ⟨#[]⟩ [S, A, ⟨#[46]⟩, C] = S ++ (A ++ ⟨#[46]⟩ ++ C) := by
  apply ByteArray.ext
  simp [joinB, joinTo]
theorem four_small {S A C : ByteArray} (h1 : S.size ≤ 1048576) (h2 : A.size ≤ 1048576) (h3 : C.size ≤ 1048576) : ∀ s ∈ [S, A, (⟨#[46]⟩ : ByteArray), C], s.size ≤ 1048576 := fun s hs => by
  simp at hs
  rcases hs with rfl | rfl | rfl | rfl
  · exact h1
  · exact h2
  · decide
  · exact h3
theorem join4_at (S A C T0 : ByteArray) (g : Nat) (W : World) (T : TypeId) (h1 : S.size ≤ 1048576) (h2 : A.size ≤ 1048576) (h3 : C.size ≤ 1048576) (hT : S ++ (A ++ ⟨#[46]⟩ ++ C) = T0) (hb : BoxAt g #[.string S, .string A, .string ⟨#[46]⟩, .string C] T W) :
    Calls Tryz.prog 28 #[.string ⟨#[]⟩, .slice (some ⟨g, 0, none⟩) 4 4] W (PostT T0 W) := by
  have h := joinAll_any ⟨#[]⟩ (.slice (some ⟨g, 0, none⟩) 4 4) [S, A, ⟨#[46]⟩, C] 0 _ W (Nat.le_refl _) (by simp) (by decide) (four_small h1 h2 h3) (box_rowD hb)
  rw [join_four, hT] at h
  exact h
set_option maxHeartbeats 4000000 in
set_option maxRecDepth 100000 in
theorem implDecText_any (va : Value) (a : DI) (w : World) (hla : a.1.2.length ≤ 1048576) (ha : OwnD va a w) (ht : Tab w) :
    Calls Tryz.prog 6 #[va] w (PostT (textD a) w) := by
  have HT := Lib.hid ht
  clear ht
  have Ha := Lib.hid ha
  obtain ⟨Aa, ca, rfl⟩ := ownD_form ha
  have ODa := Lib.hid (show ∀ W, Below w.heap.size w W → OwnD (.agg #[.bool a.1.1, .slice Aa a.1.2.length ca, .int .i64 a.2]) a W from fun W hb => OwnD.below Ha.out hb)
  have OIa := Lib.hid (show ∀ W, Below w.heap.size w W → OwnI (.slice Aa a.1.2.length ca) a.1.2 W from fun W hb => ownD_open (ODa.out W hb))
  have OSa := Lib.hid (show ∀ W, Below w.heap.size w W → OwnS (.agg #[.bool a.1.1, .slice Aa a.1.2.length ca]) a.1 W from fun W hb => OwnS.mk (OIa.out W hb))
  clear ha
  have bb0 : Below w.heap.size w (w.alloc (.cells #[.bool a.1.1, .slice Aa a.1.2.length ca, .int .i64 a.2] 27)) := below_al (Below.refl _ _) _
  have ka := (box_new w #[.bool a.1.1, .slice Aa a.1.2.length ca, .int .i64 a.2] 27)
  obtain ⟨T, hT⟩ : ∃ T, textD a = T := ⟨_, rfl⟩
  have ET := Lib.hid hT
  rw [hT]
  clear hT
  go_enter Tryz.func6, Tryz.ntmps6
  have ka_c0 := ka.here.cell 0 _ rfl
  have ka_c1 := ka.here.cell 1 _ rfl
  have ka_c2 := ka.here.cell 2 _ rfl
  go_wp2_with fail
  clear ka_c0 ka_c1 ka_c2
  refine (implDecOk_any _ a _ hla (ODa.out _ bb0)).mono ?_
  rintro e w1 ⟨rfl, b1⟩
  have bb1 := Below.next bb0 b1
  replace ka := ka.below b1
  by_cases ok : okD a = true
  · rw [ok]
    have HO := Lib.hid ok
    have qa := partsD ok
    have ta := qa.lo
    have ta2 := qa.hi
    clear ok qa
    by_cases hs : a.2 = 0
    · have HV := Lib.hid (show intStrB a.1 = T from (text_zero HO.out hs).symm.trans ET.out)
      have hs2 : (a.2 == 0) = true := by rw [beq_iff_eq]; exact hs
      have ka_c0 := ka.here.cell 0 _ rfl
      have ka_c1 := ka.here.cell 1 _ rfl
      have ka_c2 := ka.here.cell 2 _ rfl
      go_wp2_with fail
      clear ka_c0 ka_c1 ka_c2
      refine (implIntStr_any _ a.1 _ hla (OwnS.rd (OSa.out _ bb1)) (HT.out.below bb1)).mono ?_
      rintro e w2 ⟨rfl, b2⟩
      have bb2 := Below.next bb1 b2
      replace ka := ka.below b2
      clear ka
      go_wp2
      go_ret
      exact ⟨ret_strD HV.out, bb2⟩
    · have hs2 : (a.2 == 0) = false := by rw [beq_eq_false_iff_ne]; exact hs
      have h0 : 0 < a.2 := by omega
      obtain ⟨K, hK, hKl, hB⟩ := body_K HO.out
      have HV := Lib.hid ((text_some HO.out h0 hK).symm.trans ET.out)
      obtain ⟨n1, hn1⟩ : ∃ n, IntKind.i64.wrap (a.2 + 1) = n := ⟨_, rfl⟩
      have hn2 : n1 = a.2 + 1 := by rw [← hn1]; exact IntWalk.i64_in _ (by omega)
      obtain ⟨D, hD⟩ : ∃ D, natTextB a.1.2 = D := ⟨_, rfl⟩
      have hDs : D.size ≤ 1048576 := by rw [← hD]; have := natTextB_size a.1.2; omega
      have EB := Lib.hid (show padB D n1 = bodyD a by rw [← hD, hn2]; rfl)
      have hn3 : n1 ≤ 2000 := by omega
      have hn4 : -9223372036854775808 ≤ n1 := by omega
      generalize bodyD a = B at *
      have ED := Lib.hid hD
      have hKw : IntKind.i64.wrap ((B.size : Int) - a.2) = (K : Int) := by rw [hK]; exact IntWalk.i64_in _ (by omega)
      have c1 : (0 : Int) ≤ (K : Int) := by omega
      have c2 : (K : Int) ≤ (B.size : Int) := by omega
      clear hD hn2 hK hs
      cases hneg : a.1.1 with
      | true =>
        rw [hneg] at HV
        have HG := Lib.hid hneg
        have ka_c0 := ka.here.cell 0 _ rfl
        have ka_c1 := ka.here.cell 1 _ rfl
        have ka_c2 := ka.here.cell 2 _ rfl
        rw [show (#[.bool a.1.1, .slice Aa a.1.2.length ca, .int .i64 a.2] : Array Value)[0] = .bool true from by show Value.bool a.1.1 = _; rw [hneg]] at ka_c0
        clear hneg
        go_wp2_with fail
        have HC0 := Lib.hid (show Chg [] w1 w1.drew from (Chg.refl _ _).drew1)
        have HCr := Lib.hid (show Chg [] w1 w1 from Chg.refl _ _)
        have KL := Lib.hid (show ∀ W, Chg [] w1 W → W.cell? ⟨w.heap.size, 0, none⟩ = some (.bool a.1.1) ∧ W.cell? ⟨w.heap.size, 1, none⟩ = some (.slice Aa a.1.2.length ca) ∧ W.cell? ⟨w.heap.size, 2, none⟩ = some (.int .i64 a.2) ∧ Hid (Chg [] w1 W) from fun W hc => ⟨(ka.chg hc (fun i hi hm => by simp at hm)).here.cell 0 _ rfl, (ka.chg hc (fun i hi hm => by simp at hm)).here.cell 1 _ rfl, (ka.chg hc (fun i hi hm => by simp at hm)).here.cell 2 _ rfl, Lib.hid hc⟩)
        have BBF := Lib.hid (show ∀ W, Chg [] w1 W → Below w.heap.size w W from fun W hc => below_chg bb1 hc bb1.size (fun i hi => by simp at hi))
        clear ka_c0 ka_c1 ka_c2
        go_region_held3 (fun W => W.cell? ⟨w.heap.size, 0, none⟩ = some (.bool a.1.1) ∧ W.cell? ⟨w.heap.size, 1, none⟩ = some (.slice Aa a.1.2.length ca) ∧ W.cell? ⟨w.heap.size, 2, none⟩ = some (.int .i64 a.2) ∧ Hid (Chg [] w1 W))
          ((refine KL.out _ ?_; (first | exact HC3.out | exact HC2.out | exact HCr.out | exact HC0.out | exact HC3.out.drew1 | exact HC2.out.drew1 | exact HCr.out.drew1 | exact HC0.out.drew1 | exact HC3.out.trans (Chg.of_below (below_al (Below.refl _ _) _)) | exact HC2.out.trans (Chg.of_below (below_al (Below.refl _ _) _)) | exact HCr.out.trans (Chg.of_below (below_al (Below.refl _ _) _)) | exact HC0.out.trans (Chg.of_below (below_al (Below.refl _ _) _)) | fail)))
          (first
            | (go_at_call 27; (have hBB := (‹_ ∧ _ ∧ _ ∧ Hid (Chg [] w1 _)›).2.2.2); (with_reducible refine ((implNatText_any _ a.1.2 0 _ _ hla (Nat.le_refl _) (OIa.out _ (BBF.out _ hBB.out)).row (HT.out.below (BBF.out _ hBB.out))).mono fun _ _ h => postT_eqD ED.out h).mono ?_); rintro e w2 ⟨rfl, b2⟩; have HC2 := Lib.hid (hBB.out.trans (Chg.of_below b2)); have HBZ2 := Lib.hid hBB.out.size; clear hBB)
            | (go_at_call 26; (have hBB := (‹_ ∧ _ ∧ _ ∧ Hid (Chg [] w1 _)›).2.2.2); (with_reducible refine ((implPad_any D n1 _ hDs hn3 hn4).mono fun _ _ h => postT_eqD EB.out h).mono ?_); rintro e w3 ⟨rfl, b3⟩; have HC3 := Lib.hid (hBB.out.trans (Chg.of_below b3)); have HBZ3 := Lib.hid hBB.out.size; clear hBB))
        all_goals
          have bb3 := BBF.out _ HC3.out
          replace ka := ka.chg HC3.out (fun i hi hm => by simp at hm)
          have hj1 : (⟨#[45]⟩ : ByteArray).size ≤ 1048576 := by decide
          have hj2 : (B.extract 0 K).size ≤ 1048576 := by rw [ByteArray.size_extract]; omega
          have hj3 : (B.extract K B.size).size ≤ 1048576 := by rw [ByteArray.size_extract]; omega
          have HVV := Lib.hid (show (⟨#[45]⟩ : ByteArray) ++ (B.extract 0 K ++ ⟨#[46]⟩ ++ B.extract K B.size) = T from by have h := HV.out; first | exact h | (rw [if_pos rfl] at h; exact h) | (rw [if_neg (by decide)] at h; exact h))
          have ka_c0 := ka.here.cell 0 _ rfl
          have ka_c1 := ka.here.cell 1 _ rfl
          have ka_c2 := ka.here.cell 2 _ rfl
          go_wp2_with fail
          have HC0 := Lib.hid (show Chg [] w3 w3.drew from (Chg.refl _ _).drew1)
          have HCr := Lib.hid (show Chg [] w3 w3 from Chg.refl _ _)
          have KL := Lib.hid (show ∀ W, Chg [] w3 W → W.cell? ⟨w.heap.size, 0, none⟩ = some (.bool a.1.1) ∧ W.cell? ⟨w.heap.size, 1, none⟩ = some (.slice Aa a.1.2.length ca) ∧ W.cell? ⟨w.heap.size, 2, none⟩ = some (.int .i64 a.2) ∧ Hid (Chg [] w3 W) from fun W hc => ⟨(ka.chg hc (fun i hi hm => by simp at hm)).here.cell 0 _ rfl, (ka.chg hc (fun i hi hm => by simp at hm)).here.cell 1 _ rfl, (ka.chg hc (fun i hi hm => by simp at hm)).here.cell 2 _ rfl, Lib.hid hc⟩)
          have BBF := Lib.hid (show ∀ W, Chg [] w3 W → Below w.heap.size w W from fun W hc => below_chg bb3 hc bb3.size (fun i hi => by simp at hi))
          clear ka_c0 ka_c1 ka_c2
          go_region_held3 (fun W => W.cell? ⟨w.heap.size, 0, none⟩ = some (.bool a.1.1) ∧ W.cell? ⟨w.heap.size, 1, none⟩ = some (.slice Aa a.1.2.length ca) ∧ W.cell? ⟨w.heap.size, 2, none⟩ = some (.int .i64 a.2) ∧ Hid (Chg [] w3 W))
            ((refine KL.out _ ?_; (first | exact HC4.out | exact HCr.out | exact HC0.out | exact HC4.out.drew1 | exact HCr.out.drew1 | exact HC0.out.drew1 | exact HC4.out.trans (Chg.of_below (below_al (Below.refl _ _) _)) | exact HCr.out.trans (Chg.of_below (below_al (Below.refl _ _) _)) | exact HC0.out.trans (Chg.of_below (below_al (Below.refl _ _) _)) | fail)))
            (first
              | (go_at_call 28; (have hBB := (‹_ ∧ _ ∧ _ ∧ Hid (Chg [] w3 _)›).2.2.2); (with_reducible refine (join4_at ⟨#[45]⟩ (B.extract 0 K) (B.extract K B.size) T _ _ _ hj1 hj2 hj3 HVV.out (by first | exact (box_new _ _ 9).here | exact box_drewD (box_new _ _ 9).here)).mono ?_); rintro e w4 ⟨rfl, b4⟩; have HC4 := Lib.hid (hBB.out.trans (Chg.of_below b4)); have HBZ4 := Lib.hid hBB.out.size; clear hBB))
          all_goals
            have bb4 := BBF.out _ HC4.out
            replace ka := ka.chg HC4.out (fun i hi hm => by simp at hm)
            go_wp2
            go_ret
            exact ⟨rfl, bb4⟩
      | false =>
        rw [hneg] at HV
        have HG := Lib.hid hneg
        have ka_c0 := ka.here.cell 0 _ rfl
        have ka_c1 := ka.here.cell 1 _ rfl
        have ka_c2 := ka.here.cell 2 _ rfl
        rw [show (#[.bool a.1.1, .slice Aa a.1.2.length ca, .int .i64 a.2] : Array Value)[0] = .bool false from by show Value.bool a.1.1 = _; rw [hneg]] at ka_c0
        clear hneg
        go_wp2_with fail
        have HC0 := Lib.hid (show Chg [] w1 w1.drew from (Chg.refl _ _).drew1)
        have HCr := Lib.hid (show Chg [] w1 w1 from Chg.refl _ _)
        have KL := Lib.hid (show ∀ W, Chg [] w1 W → W.cell? ⟨w.heap.size, 0, none⟩ = some (.bool a.1.1) ∧ W.cell? ⟨w.heap.size, 1, none⟩ = some (.slice Aa a.1.2.length ca) ∧ W.cell? ⟨w.heap.size, 2, none⟩ = some (.int .i64 a.2) ∧ Hid (Chg [] w1 W) from fun W hc => ⟨(ka.chg hc (fun i hi hm => by simp at hm)).here.cell 0 _ rfl, (ka.chg hc (fun i hi hm => by simp at hm)).here.cell 1 _ rfl, (ka.chg hc (fun i hi hm => by simp at hm)).here.cell 2 _ rfl, Lib.hid hc⟩)
        have BBF := Lib.hid (show ∀ W, Chg [] w1 W → Below w.heap.size w W from fun W hc => below_chg bb1 hc bb1.size (fun i hi => by simp at hi))
        clear ka_c0 ka_c1 ka_c2
        go_region_held3 (fun W => W.cell? ⟨w.heap.size, 0, none⟩ = some (.bool a.1.1) ∧ W.cell? ⟨w.heap.size, 1, none⟩ = some (.slice Aa a.1.2.length ca) ∧ W.cell? ⟨w.heap.size, 2, none⟩ = some (.int .i64 a.2) ∧ Hid (Chg [] w1 W))
          ((refine KL.out _ ?_; (first | exact HC3.out | exact HC2.out | exact HCr.out | exact HC0.out | exact HC3.out.drew1 | exact HC2.out.drew1 | exact HCr.out.drew1 | exact HC0.out.drew1 | exact HC3.out.trans (Chg.of_below (below_al (Below.refl _ _) _)) | exact HC2.out.trans (Chg.of_below (below_al (Below.refl _ _) _)) | exact HCr.out.trans (Chg.of_below (below_al (Below.refl _ _) _)) | exact HC0.out.trans (Chg.of_below (below_al (Below.refl _ _) _)) | fail)))
          (first
            | (go_at_call 27; (have hBB := (‹_ ∧ _ ∧ _ ∧ Hid (Chg [] w1 _)›).2.2.2); (with_reducible refine ((implNatText_any _ a.1.2 0 _ _ hla (Nat.le_refl _) (OIa.out _ (BBF.out _ hBB.out)).row (HT.out.below (BBF.out _ hBB.out))).mono fun _ _ h => postT_eqD ED.out h).mono ?_); rintro e w2 ⟨rfl, b2⟩; have HC2 := Lib.hid (hBB.out.trans (Chg.of_below b2)); have HBZ2 := Lib.hid hBB.out.size; clear hBB)
            | (go_at_call 26; (have hBB := (‹_ ∧ _ ∧ _ ∧ Hid (Chg [] w1 _)›).2.2.2); (with_reducible refine ((implPad_any D n1 _ hDs hn3 hn4).mono fun _ _ h => postT_eqD EB.out h).mono ?_); rintro e w3 ⟨rfl, b3⟩; have HC3 := Lib.hid (hBB.out.trans (Chg.of_below b3)); have HBZ3 := Lib.hid hBB.out.size; clear hBB))
        all_goals
          have bb3 := BBF.out _ HC3.out
          replace ka := ka.chg HC3.out (fun i hi hm => by simp at hm)
          have hj1 : (⟨#[]⟩ : ByteArray).size ≤ 1048576 := by decide
          have hj2 : (B.extract 0 K).size ≤ 1048576 := by rw [ByteArray.size_extract]; omega
          have hj3 : (B.extract K B.size).size ≤ 1048576 := by rw [ByteArray.size_extract]; omega
          have HVV := Lib.hid (show (⟨#[]⟩ : ByteArray) ++ (B.extract 0 K ++ ⟨#[46]⟩ ++ B.extract K B.size) = T from by have h := HV.out; first | exact h | (rw [if_pos rfl] at h; exact h) | (rw [if_neg (by decide)] at h; exact h))
          have ka_c0 := ka.here.cell 0 _ rfl
          have ka_c1 := ka.here.cell 1 _ rfl
          have ka_c2 := ka.here.cell 2 _ rfl
          go_wp2_with fail
          have HC0 := Lib.hid (show Chg [] w3 w3.drew from (Chg.refl _ _).drew1)
          have HCr := Lib.hid (show Chg [] w3 w3 from Chg.refl _ _)
          have KL := Lib.hid (show ∀ W, Chg [] w3 W → W.cell? ⟨w.heap.size, 0, none⟩ = some (.bool a.1.1) ∧ W.cell? ⟨w.heap.size, 1, none⟩ = some (.slice Aa a.1.2.length ca) ∧ W.cell? ⟨w.heap.size, 2, none⟩ = some (.int .i64 a.2) ∧ Hid (Chg [] w3 W) from fun W hc => ⟨(ka.chg hc (fun i hi hm => by simp at hm)).here.cell 0 _ rfl, (ka.chg hc (fun i hi hm => by simp at hm)).here.cell 1 _ rfl, (ka.chg hc (fun i hi hm => by simp at hm)).here.cell 2 _ rfl, Lib.hid hc⟩)
          have BBF := Lib.hid (show ∀ W, Chg [] w3 W → Below w.heap.size w W from fun W hc => below_chg bb3 hc bb3.size (fun i hi => by simp at hi))
          clear ka_c0 ka_c1 ka_c2
          go_region_held3 (fun W => W.cell? ⟨w.heap.size, 0, none⟩ = some (.bool a.1.1) ∧ W.cell? ⟨w.heap.size, 1, none⟩ = some (.slice Aa a.1.2.length ca) ∧ W.cell? ⟨w.heap.size, 2, none⟩ = some (.int .i64 a.2) ∧ Hid (Chg [] w3 W))
            ((refine KL.out _ ?_; (first | exact HC4.out | exact HCr.out | exact HC0.out | exact HC4.out.drew1 | exact HCr.out.drew1 | exact HC0.out.drew1 | exact HC4.out.trans (Chg.of_below (below_al (Below.refl _ _) _)) | exact HCr.out.trans (Chg.of_below (below_al (Below.refl _ _) _)) | exact HC0.out.trans (Chg.of_below (below_al (Below.refl _ _) _)) | fail)))
            (first
              | (go_at_call 28; (have hBB := (‹_ ∧ _ ∧ _ ∧ Hid (Chg [] w3 _)›).2.2.2); (with_reducible refine (join4_at ⟨#[]⟩ (B.extract 0 K) (B.extract K B.size) T _ _ _ hj1 hj2 hj3 HVV.out (by first | exact (box_new _ _ 9).here | exact box_drewD (box_new _ _ 9).here)).mono ?_); rintro e w4 ⟨rfl, b4⟩; have HC4 := Lib.hid (hBB.out.trans (Chg.of_below b4)); have HBZ4 := Lib.hid hBB.out.size; clear hBB))
          all_goals
            have bb4 := BBF.out _ HC4.out
            replace ka := ka.chg HC4.out (fun i hi hm => by simp at hm)
            go_wp2
            go_ret
            exact ⟨rfl, bb4⟩
  · have ok' : okD a = false := by simpa using ok
    have HV := Lib.hid (show (⟨#[]⟩ : ByteArray) = T by rw [← ET.out]; unfold textD; rw [if_neg ok])
    rw [ok']
    clear ok ok' ka
    go_wp2
    go_ret
    exact ⟨ret_strD HV.out, bb1⟩
set_option maxHeartbeats 4000000 in
set_option maxRecDepth 100000 in
theorem implTextDec_any (s : ByteArray) (w : World) (hs : s.size ≤ 1048576) (ht : Tab w) :
    Calls Tryz.prog 5 #[.string s] w (PostDb (trD s).1 (trD s).2 w) := by
  have HT := Lib.hid ht
  clear ht
  have bb0 : Below w.heap.size w (w.alloc (.cells #[.bool false, .slice none 0 0, .int .i64 0] 27)) := below_al (Below.refl _ _) _
  have ko := (box_new w #[.bool false, .slice none 0 0, .int .i64 0] 27)
  have HKO := Lib.hid (ko.lt w.heap.size (by simp))
  have e0 := trD_impl s
  have hp : parseI s = ((negB s, tnR ⟨(Lib.trimLeftB (preB (bareB s) ++ postB (bareB s)).data.toList 48).toArray⟩), ((postB (bareB s)).size : Int)) := rfl
  rw [hp] at e0
  clear hp
  have hb := bareB_le s
  have hpp := pre_post_size (bareB s)
  have h1 := hpp.1
  have h2 := hpp.2.1
  have h3 := hpp.2.2
  clear hpp
  obtain ⟨P, hP⟩ : ∃ P, trD s = P := ⟨_, rfl⟩
  rw [hP] at e0 ⊢
  clear hP
  go_enter Tryz.func5, Tryz.ntmps5
  go_wp2_with fail
  refine (cutPrefix_any s _).mono ?_
  rintro e w_ ⟨rfl, rfl⟩
  generalize negB s = N at *
  generalize bareB s = D at *
  go_wp2_with fail
  refine (cutP_any D _ (by omega)).mono ?_
  rintro e w1 ⟨bc, rfl, b1⟩
  have bb1 := Below.next bb0 b1
  replace ko := ko.below b1
  generalize preB D = H at *
  generalize postB D = L at *
  obtain ⟨J, hJ⟩ : ∃ J, H ++ L = J := ⟨_, rfl⟩
  have hJs : J.size ≤ 1048576 := by rw [← hJ, ByteArray.size_append]; omega
  have hq1 : ¬ (9223372036854775807 < H.size + L.size) := by omega
  rw [hJ] at e0
  go_wp2_with fail
  try rw [hJ]
  skip
  refine (trimLeft_any J _).mono ?_
  rintro e w2 ⟨rfl, b2⟩
  have bb2 := Below.next bb1 b2
  replace ko := ko.below b2
  obtain ⟨Z, hZ⟩ : ∃ Z : ByteArray, (⟨(Lib.trimLeftB J.data.toList 48).toArray⟩ : ByteArray) = Z := ⟨_, rfl⟩
  have hZs : Z.size ≤ 1048576 := by rw [← hZ]; have h := trim_size J.data.toList 48; have h5 := listB_len J; show (List.toArray _).size ≤ _; rw [List.size_toArray]; omega
  rw [hZ] at e0 ⊢
  clear hZ
  go_wp2_with fail
  refine (implTextNat_any Z _ (by omega) (HT.out.below bb2)).mono ?_
  rintro e w3 ⟨u2, rfl, od, b3⟩
  obtain ⟨A2, c2, rfl⟩ := own_len od
  have bb3 := Below.next bb2 b3
  replace ko := ko.below b3
  have hxl := tnR_len Z
  generalize tnR Z = xs at *
  have kd := box_new (w3) #[.bool N, .slice A2 xs.length c2, .int .i64 (L.size : Int)] 27
  have ald := below_al (Below.refl (w3).heap.size (w3)) (.cells #[.bool N, .slice A2 xs.length c2, .int .i64 (L.size : Int)] 27)
  have bbd := Below.next bb3 ald
  replace ko := ko.below ald
  have of : At _ (OwnD (.agg #[.bool N, .slice A2 xs.length c2, .int .i64 (L.size : Int)]) ((N, xs), (L.size : Int))) _ := ((own_at' od).imp (fun _ h => (OwnD.mk (q := ((N, xs), (L.size : Int))) h))).below ald
  have lf0 := own_within od
  clear od
  obtain ⟨X, hX⟩ : ∃ X : DI, (((N, xs), (L.size : Int)) : DI) = X := ⟨_, rfl⟩
  have hX1 : X.1.2.length ≤ 1048576 := by rw [← hX]; show xs.length ≤ _; omega
  rw [hX] at e0 of
  clear hX
  obtain ⟨T, hT⟩ : ∃ T, textD X = T := ⟨_, rfl⟩
  have ET := Lib.hid hT
  rw [hT] at e0
  clear hT
  have kd_c0 := kd.here.cell 0 _ rfl
  have kd_c1 := kd.here.cell 1 _ rfl
  have kd_c2 := kd.here.cell 2 _ rfl
  go_wp2_with fail
  clear kd_c0 kd_c1 kd_c2
  refine ((implDecText_any _ X _ hX1 of.here (HT.out.below bbd)).mono fun _ _ h => postT_isD ET.out h).mono ?_
  rintro e w4 ⟨rfl, b4⟩
  have bb4 := Below.next bbd b4
  replace ko := ko.below b4
  replace kd := kd.below b4
  replace of := of.below b4
  by_cases hx : T = s
  · have HV := Lib.hid (show P = (X, true) by rw [← e0]; exact if_pos hx)
    have hse := bytes_eqP hx
    clear e0 hx
    have HW := Lib.hid (postDb_chg (b := true) (T := [w.heap.size]) of (fun i hi hm => by have := lf0 i hi; have := HKO.out; have := b1.size; have := b2.size; simp at hm; omega) (fun i hi => by simp at hi; omega) (fun i hi => by have := lf0 i hi; have := HKO.out; have := b1.size; have := b2.size; omega) bb4)
    have kd_c0 := kd.here.cell 0 _ rfl
    have kd_c1 := kd.here.cell 1 _ rfl
    have kd_c2 := kd.here.cell 2 _ rfl
    have cz0 := ko.here.cell 0 _ rfl
    have fz0 := Lib.frozen_of_heap ko.here 0
    have cz1 := ko.here.cell 1 _ rfl
    have fz1 := Lib.frozen_of_heap ko.here 1
    have cz2 := ko.here.cell 2 _ rfl
    have fz2 := Lib.frozen_of_heap ko.here 2
    clear of kd ko
    go_wp2
    refine bodyPost_ret (v := .tuple #[.agg #[.bool N, .slice A2 xs.length c2, .int .i64 (L.size : Int)], .bool true]) (by simp [results, Tryz.results5, go_sem, cz0, cz1, cz2]) rfl ?_
    rw [HV.out]
    refine HW.out _ ?_
    repeat (first | exact Chg.refl _ _ | refine Chg.setCell ?_ (by simp) _)
  · have HV := Lib.hid (show P = (zeroD, false) by rw [← e0]; exact if_neg hx)
    have hse := bytes_neP hx
    clear e0 hx of kd
    have cz0 := ko.here.cell 0 _ rfl
    have fz0 := Lib.frozen_of_heap ko.here 0
    have cz1 := ko.here.cell 1 _ rfl
    have fz1 := Lib.frozen_of_heap ko.here 1
    have cz2 := ko.here.cell 2 _ rfl
    have fz2 := Lib.frozen_of_heap ko.here 2
    go_wp2
    refine bodyPost_ret (v := .tuple #[.agg #[.bool false, .slice none 0 0, .int .i64 0], .bool false]) (by simp [results, Tryz.results5, go_sem, cz0, cz1, cz2]) rfl ?_
    rw [HV.out]
    first | exact newDb_zero _ bb4 | exact newDb_zero _ (below_set3 bb4 (by omega))
end Go.Proofs.YtbfolegllhpkjaaGreatDoor

namespace Go.Proofs.YtbfolegllhpkjaaGreatDoor
open Go.ChangeShapes Go.WideShapes Go.ChangeAt Go.RowKit

theorem Tryz.own : ownKnob Tryz.prog.godebug = none := by kernel_rfl
theorem Tryz.laidOut : laidOutB Tryz.prog = true := by kernel_rfl

section
variable {H : Type} {enc : TypeId × Value → H} {P : Program}

/-- the types of a list can all be read, and all lie in the program's table -/
def legible (P : Program) (ts : List TypeId) : Bool := ts.all fun t => P.readableRec t && decide (t < P.types.size)

theorem args_below (hl : laidOutB P = true) {W W' : World} (hb : Below W.heap.size W W') :
    ∀ {ts : List TypeId} {vs : List Value} {ds : List (DataW H)} {ps : List MemPlace}, legible P ts = true → DataW.TrodAll enc P W 0 (fun _ => true) true ts vs ds ps → (∀ x ∈ ps, x.block < W.heap.size) →
      DataW.TrodAll enc P W' 0 (fun b => decide (b < W.heap.size)) true ts vs ds ps
  | [], _, _, _, _, h, _ => by
    obtain ⟨rfl, rfl, rfl⟩ := trodAll_nil h
    rfl
  | t :: ts, _, _, _, hr, h, hlt => by
    obtain ⟨v, vs, d, ds, p, q, rfl, rfl, rfl, h1, h2⟩ := trodAll_cons h
    simp only [legible, List.all_cons, Bool.and_eq_true, decide_eq_true_eq] at hr
    exact ⟨p, q, Below.trod hl hr.1.1 hr.1.2 h1 hb (fun x hx => hlt x (List.mem_append_left _ hx)), args_below hl hb (by simpa only [legible] using hr.2) h2 (fun x hx => hlt x (List.mem_append_right _ hx)), rfl⟩

/-- the post of a law that lists no variable -/
theorem law_post (hl : laidOutB P = true) {f : Func} {s : ChangeSpec} {tb : TypeId} {W W' : World} {args : Array Value} {ds gs : List (DataW H)} {before : List MemPlace}
    (hr : legible P f.params.toList = true) (hty : f.resultTypes = #[tb]) (htb : P.underlying tb = some .bool) (hvars : s.vars = [])
    (hfn : s.fn H ds = { results := [.lit (.bool true)], args := ds })
    (hW : DataW.Whole enc P f.params.toList s.vars false W args.toList ds gs before) (hb : Below W.heap.size W W') :
    s.post enc P f false true false false W args (.bool true) W' := by
  have hW' := hW
  obtain ⟨p, q, hA, hV, rfl, _, _⟩ := hW
  rw [hvars] at hV
  obtain ⟨rfl, rfl⟩ := trodVars_none hV
  have hlt : ∀ x ∈ p, x.block < W.heap.size := fun x hx => hW'.lt x (by simpa using hx)
  have e : s.fn H (ds ++ []) = { results := [.lit (.bool true)], args := ds } := by rw [List.append_nil]; exact hfn
  refine ⟨ds, [], p ++ [], [], p, [], hW', ?_, ?_, ?_, hb.frame _, fun h => by cases h⟩
  · rw [e, hty]
    exact trodAll_mk1 (shut_bool htb _)
  · rw [e]
    exact args_below hl hb hr hA hlt
  · rw [e, hvars]
    rfl
end

set_option maxRecDepth 100000 in
/-- a law that lists no variable: from the walk at every argument to the lifted row -/
theorem law_lifted {H : Type} {enc : TypeId × Value → H} {os : Os} (started : os.Started) {f : FuncId} {fn : Func} {s : ChangeSpec} {conds : List PathCond} {tb : TypeId}
    (noInit : Tryz.prog.inits.idxOf? f = none) (hfun : Tryz.prog.funcs[f]? = some fn)
    (hr : legible Tryz.prog fn.params.toList = true) (hty : fn.resultTypes = #[tb]) (htb : Tryz.prog.underlying tb = some .bool) (hvars : s.vars = [])
    (witness : ∃ (w : World) (tape : Tape) (i : Input), w.os = os ∧ (w.forCall tape i).Shaped Tryz.checked.prog ∧ i.vars = [] ∧ Input.okWide Tryz.checked.prog (w.forCall tape i) .any w.heap.size f i ∧
      s.pre6 enc Tryz.checked.prog fn conds false (w.forCall tape i).memory i.args ∧ Assume.holds {} Tryz.checked.prog (lone (Frame.enter Tryz.checked.prog f i.args .normal) [] (w.forCall tape i)))
    (walk : ∀ (W : World) (base : Nat) (args : Array Value) (ds : List (DataW H)) (p : List MemPlace),
      (∀ (j : Nat) t v, fn.params[j]? = some t → args[j]? = some v → Value.okWide Tryz.prog W .any base t v) →
      DataW.TrodAll enc Tryz.prog W 0 (fun _ => true) true fn.params.toList args.toList ds p → (∀ x ∈ p, x.block < W.heap.size) → W.noneFrozen p →
      s.fn H ds = { results := [.lit (.bool true)], args := ds } ∧ Calls Tryz.prog f args W fun e W' => e = .returned (.bool true) ∧ Below W.heap.size W W') :
    ReturnsInHanded {} Tryz.checked os f .any (s.pre6 enc Tryz.prog fn conds false) (s.post enc Tryz.prog fn false true false false) := by
  refine returnsInHanded_of_change (C := Tryz.checked) Tryz.own started noInit hfun witness ?_
  intro W base args ds gs before hval hW _ _
  have hW' := hW
  obtain ⟨p, q, hA, hV, rfl, hz, _⟩ := hW
  rw [hvars] at hV
  obtain ⟨rfl, rfl⟩ := trodVars_none hV
  obtain ⟨hfn, hc⟩ := walk W base args ds p hval hA (fun x hx => hW'.lt x (by simpa using hx)) (by simpa using hz)
  refine hc.mono fun e W' ⟨he, hb⟩ => ?_
  subst he
  exact ⟨_, rfl, law_post Tryz.laidOut hr hty htb hvars hfn hW' hb⟩
end Go.Proofs.YtbfolegllhpkjaaGreatDoor

namespace Go.Proofs.YtbfolegllhpkjaaGreatDoor
open Go.ChangeShapes Go.WideShapes Go.ChangeAt Go.RowKit

section
variable {H : Type} {enc : TypeId × Value → H} {P : Program} {W : World} {base : Nat} {t e : TypeId} {v : Value} {d : DataW H} {p : List MemPlace}

theorem arg_strings (ht : P.underlying t = some (.slice e)) (he : P.underlying e = some .string) (hc : P.cellsOf e = 1) (hv : Value.okWide P W .any base t v) (h : DataW.Trod enc P W 0 (fun _ => true) true t v d p) :
    ∃ ss : List ByteArray, Row W 0 W.heap.size v (ss.map Value.string) ∧ ss.length ≤ maxLen ∧ ∀ s ∈ ss, s.size ≤ maxLen := by
  obtain ⟨a0, len0, cap0, rfl⟩ := okWide_slice ht hv
  obtain ⟨fuel, hf⟩ := h
  rcases open_strings ht he hc hf with ⟨hcs, _⟩ | ⟨a, len, cap, ss, hcs, _, hl, hm, hz, _, hcell, hsz⟩
  · have hcs' : Value.slice a0 len0 cap0 = .slice none 0 0 := by simpa [Value.cells] using hcs
    cases hcs'
    exact ⟨[], Row.nil_ _ _, by simp, by simp⟩
  · have hcs' : Value.slice a0 len0 cap0 = .slice (some a) len cap := by simpa [Value.cells] using hcs
    obtain ⟨rfl, rfl, rfl⟩ : a0 = some a ∧ len = len0 ∧ cap = cap0 := by cases hcs'; exact ⟨rfl, rfl, rfl⟩
    have hzl : ss.length = cap := by simpa using hz
    have hlen : (ss.take len).length = len := by rw [List.length_take]; omega
    refine ⟨ss.take len, ⟨some a, cap, by rw [List.length_map, hlen], fun j u hu => ?_⟩, by omega, fun s hs => hsz s (List.mem_of_mem_take hs)⟩
    rw [List.getElem?_map] at hu
    obtain ⟨s, hs, rfl⟩ := Option.map_eq_some_iff.1 hu
    have hj : j < len := by rw [← hlen]; exact (List.getElem?_eq_some_iff.1 hs).1
    have hs' : ss[j]? = some s := by rw [← hs, List.getElem?_take_of_lt hj]
    have hc1 := hcell j (by omega)
    rw [List.getD_eq_getElem?_getD, hs'] at hc1
    exact ⟨a, rfl, Nat.zero_le _, by have := cell_lt hc1; rwa [block_add] at this, hc1⟩

theorem arg_ints (ht : P.underlying t = some (.slice e)) (he : P.underlying e = some (.int .i64)) (hc : P.cellsOf e = 1) (hv : Value.okWide P W .any base t v) (h : DataW.Trod enc P W 0 (fun _ => true) true t v d p) :
    ∃ xs : List Int, Row W 0 W.heap.size v (xs.map (Value.int .i64)) ∧ xs.length ≤ maxLen ∧ ∀ x ∈ xs, -9223372036854775808 ≤ x ∧ x ≤ 9223372036854775807 := by
  obtain ⟨a0, len0, cap0, rfl⟩ := okWide_slice ht hv
  obtain ⟨fuel, hf⟩ := h
  rcases open_ints ht he hc hf with ⟨hcs, _⟩ | ⟨a, len, cap, ss, hcs, _, hl, hm, hz, _, hcell, hsz⟩
  · have hcs' : Value.slice a0 len0 cap0 = .slice none 0 0 := by simpa [Value.cells] using hcs
    cases hcs'
    exact ⟨[], Row.nil_ _ _, by simp, by simp⟩
  · have hcs' : Value.slice a0 len0 cap0 = .slice (some a) len cap := by simpa [Value.cells] using hcs
    obtain ⟨rfl, rfl, rfl⟩ : a0 = some a ∧ len = len0 ∧ cap = cap0 := by cases hcs'; exact ⟨rfl, rfl, rfl⟩
    have hzl : ss.length = cap := by simpa using hz
    have hlen : (ss.take len).length = len := by rw [List.length_take]; omega
    refine ⟨ss.take len, ⟨some a, cap, by rw [List.length_map, hlen], fun j u hu => ?_⟩, by omega, fun s hs => ?_⟩
    · rw [List.getElem?_map] at hu
      obtain ⟨s, hs, rfl⟩ := Option.map_eq_some_iff.1 hu
      have hj : j < len := by rw [← hlen]; exact (List.getElem?_eq_some_iff.1 hs).1
      have hs' : ss[j]? = some s := by rw [← hs, List.getElem?_take_of_lt hj]
      have hc1 := hcell j (by omega)
      rw [List.getD_eq_getElem?_getD, hs'] at hc1
      exact ⟨a, rfl, Nat.zero_le _, by have := cell_lt hc1; rwa [block_add] at this, hc1⟩
    · have := hsz s (List.mem_of_mem_take hs)
      simpa [Lit.wf, IntKind.min, IntKind.max, IntKind.signed, IntKind.bits] using this

theorem arg_bytes (ht : P.underlying t = some (.slice e)) (he : P.underlying e = some (.int .u8)) (hc : P.cellsOf e = 1) (hv : Value.okWide P W .any base t v) (h : DataW.Trod enc P W 0 (fun _ => true) true t v d p) :
    ∃ bs : List Nat, Row W 0 W.heap.size v (bs.map fun b : Nat => Value.int .u8 (b : Int)) ∧ bs.length ≤ maxLen ∧ ∀ b ∈ bs, b < 256 := by
  obtain ⟨a0, len0, cap0, rfl⟩ := okWide_slice ht hv
  obtain ⟨fuel, hf⟩ := h
  rcases open_ints ht he hc hf with ⟨hcs, _⟩ | ⟨a, len, cap, ss, hcs, _, hl, hm, hz, _, hcell, hsz⟩
  · have hcs' : Value.slice a0 len0 cap0 = .slice none 0 0 := by simpa [Value.cells] using hcs
    cases hcs'
    exact ⟨[], Row.nil_ _ _, by simp, by simp⟩
  · have hcs' : Value.slice a0 len0 cap0 = .slice (some a) len cap := by simpa [Value.cells] using hcs
    obtain ⟨rfl, rfl, rfl⟩ : a0 = some a ∧ len = len0 ∧ cap = cap0 := by cases hcs'; exact ⟨rfl, rfl, rfl⟩
    have hzl : ss.length = cap := by simpa using hz
    have hlen : (ss.take len).length = len := by rw [List.length_take]; omega
    have hr : ∀ x ∈ ss.take len, 0 ≤ x ∧ x ≤ 255 := fun x hx => by
      have := hsz x (List.mem_of_mem_take hx)
      simpa [Lit.wf, IntKind.min, IntKind.max, IntKind.signed, IntKind.bits] using this
    refine ⟨(ss.take len).map Int.toNat, ⟨some a, cap, by rw [List.length_map, List.length_map, hlen], fun j u hu => ?_⟩, by rw [List.length_map]; omega, fun s hs => ?_⟩
    · rw [List.getElem?_map, List.getElem?_map] at hu
      obtain ⟨y, hy, rfl⟩ := Option.map_eq_some_iff.1 hu
      obtain ⟨s, hs, rfl⟩ := Option.map_eq_some_iff.1 hy
      have hj : j < len := by rw [← hlen]; exact (List.getElem?_eq_some_iff.1 hs).1
      have hs' : ss[j]? = some s := by rw [← hs, List.getElem?_take_of_lt hj]
      have hc1 := hcell j (by omega)
      rw [List.getD_eq_getElem?_getD, hs'] at hc1
      have h0 := hr s (List.mem_of_getElem? hs)
      have e0 : ((s.toNat : Nat) : Int) = s := by omega
      rw [e0]
      exact ⟨a, rfl, Nat.zero_le _, by have := cell_lt hc1; rwa [block_add] at this, hc1⟩
    · obtain ⟨x, hx, rfl⟩ := List.mem_map.1 hs
      have := hr x hx
      omega
end
end Go.Proofs.YtbfolegllhpkjaaGreatDoor

namespace Go.Proofs.YtbfolegllhpkjaaGreatDoor
open Go.ChangeShapes Go.WideShapes Go.ChangeAt Go.RowKit

/-- the three tables, as the rows list them -/
abbrev laid3 : List (String × DataW Unit) := [("math/bits.deBruijn32tab", Rows.laid_math_bits_deBruijn32tab), ("math/bits.deBruijn64tab", Rows.laid_math_bits_deBruijn64tab), ("internal/strconv.uint64pow10", Rows.laid_internal_strconv_uint64pow10)]
theorem powType : (Tryz.prog.globals[4]?).map (·.type) = some 197 := by kernel_rfl
theorem powCells : Tryz.prog.cellsOf 197 = 20 := by kernel_rfl
theorem u64Cells : Tryz.prog.cellsOf 160 = 1 := by kernel_rfl
theorem powData : (Rows.laid_internal_strconv_uint64pow10 : DataW Unit) = Lib.tabData .u64 Lib.pow10Tab := by kernel_rfl

theorem tab_of {W : World} (h : laidMetH Tryz.prog laid3 W) : Tab W := by
  obtain ⟨ps, ⟨_, _, _, _, _, _, _, _, _, _, ⟨_, _, _, _, _, _, _, _, _, _, ⟨g3, t3, cs3, fuel3, p3, q3, hg3, ht3, hvar3, hd3, _, _⟩, _⟩, _⟩, _⟩ := (show laidMet Tryz.prog laid3 W from h)
  obtain rfl := Option.some.inj (powGlobal.symm.trans hg3)
  obtain rfl := Option.some.inj (powType.symm.trans ht3)
  rw [powData] at hd3
  unfold Tab Lib.TabIs
  rw [hvar3, ← Lib.cells_of_tab Tryz.underlying197 Tryz.underlying160 u64Cells powCells hd3]

/-- a world for the witness: the settled one, the tables holding what their initialisers lay -/
def tabCells (k : IntKind) : List (DataW Unit) → List Value
  | .lit (.int _ z) :: r => .int k z :: tabCells k r
  | _ => []
def aggOf : DataW Unit → List (DataW Unit)
  | .agg l => l
  | _ => []
def putCells (cs : Array Value) : Obj → Obj
  | .cells _ t frozen => .cells cs t frozen
  | o => o
noncomputable def laidWorld (os : Os) : World :=
  { World.holding Tryz.prog os ⟨#[], #[], []⟩ with heap := (((World.holding Tryz.prog os ⟨#[], #[], []⟩).heap.modify 7 (putCells (tabCells .u8 (aggOf Rows.laid_math_bits_deBruijn32tab)).toArray)).modify 8 (putCells (tabCells .u8 (aggOf Rows.laid_math_bits_deBruijn64tab)).toArray)).modify 4 (putCells (tabCells .u64 (aggOf Rows.laid_internal_strconv_uint64pow10)).toArray) }

set_option maxRecDepth 100000 in
/-- from the walk at every argument, the table at hand, to the lifted row -/
theorem law_lifted_laid {H : Type} {enc : TypeId × Value → H} {os : Os} (started : os.Started) {F : Stop.Interp} {f : FuncId} {fn : Func} {s : ChangeSpec} {conds : List PathCond} {tb : TypeId}
    (noInit : Tryz.prog.inits.idxOf? f = none) (hfun : Tryz.prog.funcs[f]? = some fn)
    (hr : legible Tryz.prog fn.params.toList = true) (hty : fn.resultTypes = #[tb]) (htb : Tryz.prog.underlying tb = some .bool) (hvars : s.vars = [])
    (witness : ∃ (w : World) (tape : Tape) (i : Input), w.os = os ∧ (w.forCall tape i).Shaped Tryz.checked.prog ∧ i.vars = [] ∧ Input.okWide Tryz.checked.prog (w.forCall tape i) .any w.heap.size f i ∧
      (OpenSpec.ofChange s).preRow enc Tryz.checked.prog fn conds false laid3 (w.forCall tape i).memory i.args ∧ Assume.holds {} Tryz.checked.prog (lone (Frame.enter Tryz.checked.prog f i.args .normal) [] (w.forCall tape i)))
    (walk : ∀ (W : World) (base : Nat) (args : Array Value) (ds : List (DataW H)) (p : List MemPlace),
      (∀ (j : Nat) t v, fn.params[j]? = some t → args[j]? = some v → Value.okWide Tryz.prog W .any base t v) →
      DataW.TrodAll enc Tryz.prog W 0 (fun _ => true) true fn.params.toList args.toList ds p → (∀ x ∈ p, x.block < W.heap.size) → Tab W →
      s.fn H ds = { results := [.lit (.bool true)], args := ds } ∧ Calls Tryz.prog f args W fun e W' => e = .returned (.bool true) ∧ Below W.heap.size W W') :
    ReturnsInHanded {} Tryz.checked os f .any ((OpenSpec.ofChange s).preRow enc Tryz.prog fn conds false laid3) (((OpenSpec.ofChange s).at F).post enc Tryz.prog fn false true false false) := by
  refine returnsInHanded_of_row (C := Tryz.checked) (s := OpenSpec.ofChange s) Tryz.own started noInit hfun witness ?_
  intro W base args ds gs before hval hW0 _ _ _ hL _ _
  have hW : DataW.Whole enc Tryz.prog fn.params.toList s.vars false W args.toList ds gs before := hW0
  have hW' := hW
  obtain ⟨p, q, hA, hV, rfl, _, _⟩ := hW
  rw [hvars] at hV
  obtain ⟨rfl, rfl⟩ := trodVars_none hV
  obtain ⟨hfn, hc⟩ := walk W base args ds p hval hA (fun x hx => hW'.lt x (by simpa using hx)) (tab_of hL)
  refine hc.mono fun e W' ⟨he, hb⟩ => ?_
  subst he
  exact ⟨_, rfl, law_post Tryz.laidOut hr hty htb hvars hfn hW' hb⟩
end Go.Proofs.YtbfolegllhpkjaaGreatDoor

namespace Go.Proofs.YtbfolegllhpkjaaGreatDoor
open Go.ChangeShapes Go.WideShapes Go.ChangeAt Go.RowKit

theorem senNamed : Tryz.prog.globalNamed "loop.example/g00793/impl.errZeroDivisor" = some 0 := by kernel_rfl
theorem senType : (Tryz.prog.globals[0]?).map (·.type) = some 100 := by kernel_rfl
theorem senCells : Tryz.prog.cellsOf 225 = 1 := by kernel_rfl
theorem strCells : Tryz.prog.cellsOf 9 = 1 := by kernel_rfl
theorem senStar : "*" ++ "errors.errorString" = "*errors.errorString" := by decide
theorem senRow (u : TypeId) (h : Tryz.prog.typeName? 3 u = some "*errors.errorString") : u = 203 :=
  typeName_ptr_named (nm := "errors.errorString") (by rw [senStar]; kernel_rfl) (by kernel_rfl) (by decide) u (by rw [senStar]; exact h)
/-- what the sentinel reads as -/
def senText : List UInt8 := [100, 105, 118, 105, 115, 105, 111, 110, 32, 98, 121, 32, 122, 101, 114, 111]
theorem senData : (Rows.laid_loop_example_g00793_impl_errZeroDivisor : DataW Unit) = .iface "*errors.errorString" (.ptr (.agg [.lit (.string senText)])) := by kernel_rfl
/-- the variable's value -/
def SenAt (a : Addr) (w : World) : Prop := w.var? Tryz.prog "loop.example/g00793/impl.errZeroDivisor" = some #[.iface 203 (.pointer (some a))]
theorem SenAt.sen {a : Addr} {w : World} (h : SenAt a w) : Sen w := ⟨a, by simpa using World.var?_cell senNamed h 0⟩
theorem sen_of {r : List (String × DataW Unit)} {W : World} (h : laidMet Tryz.prog (("loop.example/g00793/impl.errZeroDivisor", Rows.laid_loop_example_g00793_impl_errZeroDivisor) :: r) W) : ∃ a, SenAt a W := by
  rw [senData] at h
  obtain ⟨a, s, hv, _⟩ := laid_sentinel h senNamed senType Tryz.underlying100 senRow Tryz.underlying203 Tryz.underlying225 rfl rfl Tryz.underlying9 senCells strCells
  exact ⟨a, hv⟩
theorem SenAt.below {a : Addr} {w w' : World} (h : SenAt a w) (hb : Below w.heap.size w w') : SenAt a w' := by
  obtain ⟨_, hc⟩ := h.sen
  have hl := cell_lt hc
  unfold SenAt World.var? at h ⊢
  rw [senNamed] at h ⊢
  simp only [Option.bind_some] at h ⊢
  rw [hb.block _ hl]
  exact h

/-- the post of a law that names the sentinel -/
theorem law_post1 {H : Type} {enc : TypeId × Value → H} {f : Func} {s : ChangeSpec} {tb : TypeId} {a : Addr} {W W' : World} {args : Array Value} {ds gs : List (DataW H)} {before : List MemPlace}
    (hr : legible Tryz.prog f.params.toList = true) (hty : f.resultTypes = #[tb]) (htb : Tryz.prog.underlying tb = some .bool) (hvars : s.vars = ["loop.example/g00793/impl.errZeroDivisor"])
    (hs : SenAt a W) (hfn : ∀ g, s.fn H (ds ++ [g]) = { results := [.lit (.bool true)], args := ds, vars := [g] })
    (hW : DataW.Whole enc Tryz.prog f.params.toList s.vars false W args.toList ds gs before) (hb : Below W.heap.size W W') :
    s.post enc Tryz.prog f false true false false W args (.bool true) W' := by
  have hW' := hW
  obtain ⟨p, q, hA, hV, rfl, _, _⟩ := hW
  rw [hvars] at hV
  have vr : ∀ {X : World}, SenAt a X → ∀ sp : Nat → Bool, DataW.TrodVars enc Tryz.prog X sp ["loop.example/g00793/impl.errZeroDivisor"] [tok enc (.iface 203 (.pointer (some a)))] [.cell 0 0] :=
    fun x0 sp => vars_read1 enc senNamed senType Tryz.underlying100 x0 trivial sp
  obtain ⟨rfl, rfl⟩ := hV.unique (vr hs _)
  have hlt : ∀ x ∈ p, x.block < W.heap.size := fun x hx => hW'.lt x (by simp [hx])
  refine ⟨ds, _, _, [], p, [.cell 0 0], hW', ?_, ?_, ?_, hb.frame _, fun h => by cases h⟩
  · rw [hfn, hty]
    exact trodAll_mk1 (shut_bool htb _)
  · rw [hfn]
    exact args_below Tryz.laidOut hb hr hA hlt
  · rw [hfn, hvars]
    exact vr (hs.below hb) _

/-- a world for the witness: the settled one, the listed variables holding what their initialisers lay -/
noncomputable def low : Nat := (World.holding Tryz.prog default ⟨#[], #[], []⟩).heap.size
noncomputable def senWorld (os : Os) : World :=
  let w0 := World.holding Tryz.prog os ⟨#[.cells #[.string ⟨senText.toArray⟩] 225], #[], []⟩
  { w0 with heap := (((w0.heap.modify 0 (putCells #[.iface 203 (.pointer (some ⟨low, 0, none⟩))]))
      |>.modify 7 (putCells (tabCells .u8 (aggOf Rows.laid_math_bits_deBruijn32tab)).toArray)).modify 8 (putCells (tabCells .u8 (aggOf Rows.laid_math_bits_deBruijn64tab)).toArray)).modify 4 (putCells (tabCells .u64 (aggOf Rows.laid_internal_strconv_uint64pow10)).toArray) }

set_option maxRecDepth 100000 in
/-- from the walk at every argument, the listed variables at hand, to the lifted row -/
theorem law_lifted_sen {H : Type} {enc : TypeId × Value → H} {os : Os} (started : os.Started) {F : Stop.Interp} {f : FuncId} {fn : Func} {s : ChangeSpec} {conds : List PathCond} {tb : TypeId} {laidL : List (String × DataW Unit)}
    (noInit : Tryz.prog.inits.idxOf? f = none) (hfun : Tryz.prog.funcs[f]? = some fn)
    (hr : legible Tryz.prog fn.params.toList = true) (hty : fn.resultTypes = #[tb]) (htb : Tryz.prog.underlying tb = some .bool) (hvars : s.vars = ["loop.example/g00793/impl.errZeroDivisor"])
    (hsen : ∀ W, laidMetH Tryz.prog laidL W → ∃ a, SenAt a W)
    (witness : ∃ (w : World) (tape : Tape) (i : Input), w.os = os ∧ (w.forCall tape i).Shaped Tryz.checked.prog ∧ i.vars = [] ∧ Input.okWide Tryz.checked.prog (w.forCall tape i) .any w.heap.size f i ∧
      (OpenSpec.ofChange s).preRow enc Tryz.checked.prog fn conds false laidL (w.forCall tape i).memory i.args ∧ Assume.holds {} Tryz.checked.prog (lone (Frame.enter Tryz.checked.prog f i.args .normal) [] (w.forCall tape i)))
    (walk : ∀ (W : World) (base : Nat) (args : Array Value) (ds : List (DataW H)) (p : List MemPlace),
      (∀ (j : Nat) t v, fn.params[j]? = some t → args[j]? = some v → Value.okWide Tryz.prog W .any base t v) →
      DataW.TrodAll enc Tryz.prog W 0 (fun _ => true) true fn.params.toList args.toList ds p → (∀ x ∈ p, x.block < W.heap.size) → laidMetH Tryz.prog laidL W → Sen W →
      (∀ g, s.fn H (ds ++ [g]) = { results := [.lit (.bool true)], args := ds, vars := [g] }) ∧ Calls Tryz.prog f args W fun e W' => e = .returned (.bool true) ∧ Below W.heap.size W W') :
    ReturnsInHanded {} Tryz.checked os f .any ((OpenSpec.ofChange s).preRow enc Tryz.prog fn conds false laidL) (((OpenSpec.ofChange s).at F).post enc Tryz.prog fn false true false false) := by
  refine returnsInHanded_of_row (C := Tryz.checked) (s := OpenSpec.ofChange s) Tryz.own started noInit hfun witness ?_
  intro W base args ds gs before hval hW0 _ _ _ hL _ _
  have hW : DataW.Whole enc Tryz.prog fn.params.toList s.vars false W args.toList ds gs before := hW0
  have hW' := hW
  obtain ⟨p, q, hA, hV, rfl, _, _⟩ := hW
  obtain ⟨a, ha⟩ := hsen W hL
  obtain ⟨hfn, hc⟩ := walk W base args ds p hval hA (fun x hx => hW'.lt x (by simp [hx])) hL ha.sen
  refine hc.mono fun e W' ⟨he, hb⟩ => ?_
  subst he
  exact ⟨_, rfl, law_post1 hr hty htb hvars ha hfn hW' hb⟩
end Go.Proofs.YtbfolegllhpkjaaGreatDoor
