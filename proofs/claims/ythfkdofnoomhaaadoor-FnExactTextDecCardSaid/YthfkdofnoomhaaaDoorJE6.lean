/-
  Chapter 8 of package impl: DecText, TextDec.
  Chapter 8 of package spec: DecText.
  What every law of the seat needs: a call that returns true and changes nothing below the heap's old size meets the row's post, whatever its arguments are.
  Arguments, opened: slices of strings and of ints that came in read as lists.
  Arguments of type laws.Signed, opened.
  Arguments of type laws.Dec, opened.
  What a law of a door seat needs: its row lists the three number tables of the library; one of them is read.
  The law FnExactTextDec of chapter 8, walked: it returns true wherever both packages answer alike.
  Chapter 8 of package spec: DecAdd, DecSub, DecMul, DecCmp.
  Chapter 8 of package spec: TextDec.
-/
import Derived.Deep.RegionHeld3
import Derived.Deep.DeepCutAuto
import Derived.IntWalk
import Derived.Test.YthfkdofnoomhaaaDoorRows
import Derived.WalkKit
import Derived.ProofKit
import Derived.OpenShut
import Derived.JoinedCond
import Derived.Lib.SmallJoins
import Derived.ChangeArms
import Derived.Test.YthfkdofnoomhaaaDoorCards
import Derived.Test.YthfkdofnoomhaaaDoorTie
import Derived.Deep.DeepHandedRow
import Derived.Lib.LaidTab
import Derived.Test.YthfkdofnoomhaaaDoorJE5
namespace Go.Proofs.YthfkdofnoomhaaaDoor
open Go.RowKit

theorem ret_strD {a b : ByteArray} (h : a = b) : Ending.returned (.string a) = Ending.returned (.string b) := by rw [h]
theorem postT_eqD {a b : ByteArray} (h : a = b) {w w' : World} {e : Ending} (k : e = .returned (.string a) ∧ Below w.heap.size w w') : PostT b w e w' := by rw [← h]; exact k
theorem postT_isD {a b : ByteArray} (h : a = b) {w w' : World} {e : Ending} (k : PostT a w e w') : PostT b w e w' := h ▸ k
theorem natText_pos {a : DI} (h : okD a = true) : 1 ≤ (natTextB a.1.2).size := by
  obtain ⟨n, m, b⟩ := body_of h
  have hd := (dig_dec n).2
  have e := b.digits
  have hl := listB_len (natTextB a.1.2)
  rw [e] at hl
  cases hq : Lib.decDigits n with
  | nil => exact absurd hq hd
  | cons c r => rw [hq] at hl; simp at hl; omega
/-- the text of a number without a scale -/
theorem text_zero {a : DI} (h : okD a = true) (h0 : a.2 = 0) : textD a = intStrB a.1 := by
  have hb : bodyD a = natTextB a.1.2 := by
    unfold bodyD
    rw [h0]
    exact padB_same _ _ (by have := natText_pos h; omega)
  unfold textD intStrB
  rw [if_pos h, if_pos (partsD h).ok, hb, h0]
  unfold pointB
  have e : ¬ (0 : Int) < 0 := by decide
  rw [if_neg e]
/-- its parts, with one -/
theorem text_some {a : DI} (h : okD a = true) (h0 : 0 < a.2) {K : Nat} (hK : ((bodyD a).size : Int) - a.2 = K) :
    textD a = (if a.1.1 = true then (⟨#[45]⟩ : ByteArray) else ⟨#[]⟩) ++ ((bodyD a).extract 0 K ++ ⟨#[46]⟩ ++ (bodyD a).extract K (bodyD a).size) := by
  have e : (bodyD a).size - a.2.toNat = K := by omega
  unfold textD pointB
  rw [if_pos h, if_pos h0, e]
  cases a.1.1 with
  | true => rfl
  | false =>
    apply ByteArray.ext
    simp
theorem body_K {a : DI} (h : okD a = true) : ∃ K : Nat, ((bodyD a).size : Int) - a.2 = K ∧ K ≤ (bodyD a).size ∧ (bodyD a).size ≤ 100 := by
  obtain ⟨n, m, b⟩ := body_of h
  have h1 := b.long
  have h2 := b.size
  have h3 := (partsD h).lo
  exact ⟨(bodyD a).size - a.2.toNat, by omega, by omega, h2⟩
theorem box_rowD {g : Nat} {cs : Array Value} {T : TypeId} {w : World} (h : BoxAt g cs T w) : Row w 0 w.heap.size (.slice (some ⟨g, 0, none⟩) cs.size cs.size) cs.toList := by
  have hg := (Array.getElem?_eq_some_iff.1 h).1
  refine ⟨some ⟨g, 0, none⟩, cs.size, by simp, fun j u hj => ⟨⟨g, 0, none⟩, rfl, Nat.zero_le _, hg, ?_⟩⟩
  have e1 : (Addr.add ⟨g, 0, none⟩ j) = ⟨g, j, none⟩ := by
    unfold Addr.add
    cases j with
    | zero => rfl
    | succ n => simp
  rw [e1, Lib.cell_of_heap h]
  simpa using hj
theorem box_drewD {g : Nat} {cs : Array Value} {T : TypeId} {w : World} (h : BoxAt g cs T w) : BoxAt g cs T w.drew := h
theorem join_four (S A C : ByteArray) : joinB ⟨#[]⟩ [S, A, ⟨#[46]⟩, C] = S ++ (A ++ ⟨#[46]⟩ ++ C) := by
  apply ByteArray.ext
  simp [joinB, joinTo]
theorem four_small {S A C : ByteArray} (h1 : S.size ≤ 1048576) (h2 : A.size ≤ 1048576) (h3 : C.size ≤ 1048576) : ∀ s ∈ [S, A, (⟨#[46]⟩ : ByteArray), C], s.size ≤ 1048576 := fun s hs => by
  simp at hs
  rcases hs with rfl | rfl | rfl | rfl
  · exact h1
  · exact h2
  · decide
  · exact h3
theorem join4_at (S A C T0 : ByteArray) (g : Nat) (W : World) (T : TypeId) (h1 : S.size ≤ 1048576) (h2 : A.size ≤ 1048576) (h3 : C.size ≤ 1048576) (hT : S ++ (A ++ ⟨#[46]⟩ ++ C) = T0) (hb : BoxAt g #[.string S, .string A, .string ⟨#[46]⟩, .string C] T W) :
    Calls Tryd.prog 66 #[.string ⟨#[]⟩, .slice (some ⟨g, 0, none⟩) 4 4] W (PostT T0 W) := by
  have h := joinAll_any ⟨#[]⟩ (.slice (some ⟨g, 0, none⟩) 4 4) [S, A, ⟨#[46]⟩, C] 0 _ W (Nat.le_refl _) (by simp) (by decide) (four_small h1 h2 h3) (box_rowD hb)
  rw [join_four, hT] at h
  exact h
set_option maxHeartbeats 4000000 in
set_option maxRecDepth 100000 in
theorem implDecText_any (va : Value) (a : DI) (w : World) (hla : a.1.2.length ≤ 1048576) (ha : OwnD va a w) (ht : Tab w) :
    Calls Tryd.prog 20 #[va] w (PostT (textD a) w) := by
  have HT := Lib.hid ht
  clear ht
  have Ha := Lib.hid ha
  obtain ⟨Aa, ca, rfl⟩ := ownD_form ha
  have ODa := Lib.hid (show ∀ W, Below w.heap.size w W → OwnD (.agg #[.bool a.1.1, .slice Aa a.1.2.length ca, .int .i64 a.2]) a W from fun W hb => OwnD.below Ha.out hb)
  have OIa := Lib.hid (show ∀ W, Below w.heap.size w W → OwnI (.slice Aa a.1.2.length ca) a.1.2 W from fun W hb => ownD_open (ODa.out W hb))
  have OSa := Lib.hid (show ∀ W, Below w.heap.size w W → OwnS (.agg #[.bool a.1.1, .slice Aa a.1.2.length ca]) a.1 W from fun W hb => OwnS.mk (OIa.out W hb))
  clear ha
  have bb0 : Below w.heap.size w (w.alloc (.cells #[.bool a.1.1, .slice Aa a.1.2.length ca, .int .i64 a.2] 33)) := below_al (Below.refl _ _) _
  have ka := (box_new w #[.bool a.1.1, .slice Aa a.1.2.length ca, .int .i64 a.2] 33)
  obtain ⟨T, hT⟩ : ∃ T, textD a = T := ⟨_, rfl⟩
  have ET := Lib.hid hT
  rw [hT]
  clear hT
  go_enter Tryd.func20, Tryd.ntmps20
  have ka_c0 := ka.here.cell 0 _ rfl
  have ka_c1 := ka.here.cell 1 _ rfl
  have ka_c2 := ka.here.cell 2 _ rfl
  go_wp2_with fail
  clear ka_c0 ka_c1 ka_c2
  refine (implDecOk_any _ a _ hla (ODa.out _ bb0)).mono ?_
  rintro e w1 ⟨rfl, b1⟩
  have bb1 := Below.next bb0 b1
  replace ka := ka.below b1
  by_cases ok : okD a = true
  · rw [ok]
    have HO := Lib.hid ok
    have qa := partsD ok
    have ta := qa.lo
    have ta2 := qa.hi
    clear ok qa
    by_cases hs : a.2 = 0
    · have HV := Lib.hid (show intStrB a.1 = T from (text_zero HO.out hs).symm.trans ET.out)
      have hs2 : (a.2 == 0) = true := by rw [beq_iff_eq]; exact hs
      have ka_c0 := ka.here.cell 0 _ rfl
      have ka_c1 := ka.here.cell 1 _ rfl
      have ka_c2 := ka.here.cell 2 _ rfl
      go_wp2_with fail
      clear ka_c0 ka_c1 ka_c2
      refine (implIntStr_any _ a.1 _ hla (OwnS.rd (OSa.out _ bb1)) (HT.out.below bb1)).mono ?_
      rintro e w2 ⟨rfl, b2⟩
      have bb2 := Below.next bb1 b2
      replace ka := ka.below b2
      clear ka
      go_wp2
      go_ret
      exact ⟨ret_strD HV.out, bb2⟩
    · have hs2 : (a.2 == 0) = false := by rw [beq_eq_false_iff_ne]; exact hs
      have h0 : 0 < a.2 := by omega
      obtain ⟨K, hK, hKl, hB⟩ := body_K HO.out
      have HV := Lib.hid ((text_some HO.out h0 hK).symm.trans ET.out)
      obtain ⟨n1, hn1⟩ : ∃ n, IntKind.i64.wrap (a.2 + 1) = n := ⟨_, rfl⟩
      have hn2 : n1 = a.2 + 1 := by rw [← hn1]; exact IntWalk.i64_in _ (by omega)
      obtain ⟨D, hD⟩ : ∃ D, natTextB a.1.2 = D := ⟨_, rfl⟩
      have hDs : D.size ≤ 1048576 := by rw [← hD]; have := natTextB_size a.1.2; omega
      have EB := Lib.hid (show padB D n1 = bodyD a by rw [← hD, hn2]; rfl)
      have hn3 : n1 ≤ 2000 := by omega
      have hn4 : -9223372036854775808 ≤ n1 := by omega
      generalize bodyD a = B at *
      have ED := Lib.hid hD
      have hKw : IntKind.i64.wrap ((B.size : Int) - a.2) = (K : Int) := by rw [hK]; exact IntWalk.i64_in _ (by omega)
      have c1 : (0 : Int) ≤ (K : Int) := by omega
      have c2 : (K : Int) ≤ (B.size : Int) := by omega
      clear hD hn2 hK hs
      cases hneg : a.1.1 with
      | true =>
        rw [hneg] at HV
        have HG := Lib.hid hneg
        have ka_c0 := ka.here.cell 0 _ rfl
        have ka_c1 := ka.here.cell 1 _ rfl
        have ka_c2 := ka.here.cell 2 _ rfl
        rw [show (#[.bool a.1.1, .slice Aa a.1.2.length ca, .int .i64 a.2] : Array Value)[0] = .bool true from by show Value.bool a.1.1 = _; rw [hneg]] at ka_c0
        clear hneg
        go_wp2_with fail
        have HC0 := Lib.hid (show Chg [] w1 w1.drew from (Chg.refl _ _).drew1)
        have HCr := Lib.hid (show Chg [] w1 w1 from Chg.refl _ _)
        have KL := Lib.hid (show ∀ W, Chg [] w1 W → W.cell? ⟨w.heap.size, 0, none⟩ = some (.bool a.1.1) ∧ W.cell? ⟨w.heap.size, 1, none⟩ = some (.slice Aa a.1.2.length ca) ∧ W.cell? ⟨w.heap.size, 2, none⟩ = some (.int .i64 a.2) ∧ Hid (Chg [] w1 W) from fun W hc => ⟨(ka.chg hc (fun i hi hm => by simp at hm)).here.cell 0 _ rfl, (ka.chg hc (fun i hi hm => by simp at hm)).here.cell 1 _ rfl, (ka.chg hc (fun i hi hm => by simp at hm)).here.cell 2 _ rfl, Lib.hid hc⟩)
        have BBF := Lib.hid (show ∀ W, Chg [] w1 W → Below w.heap.size w W from fun W hc => below_chg bb1 hc bb1.size (fun i hi => by simp at hi))
        clear ka_c0 ka_c1 ka_c2
        go_region_held3 (fun W => W.cell? ⟨w.heap.size, 0, none⟩ = some (.bool a.1.1) ∧ W.cell? ⟨w.heap.size, 1, none⟩ = some (.slice Aa a.1.2.length ca) ∧ W.cell? ⟨w.heap.size, 2, none⟩ = some (.int .i64 a.2) ∧ Hid (Chg [] w1 W))
          ((refine KL.out _ ?_; (first | exact HC3.out | exact HC2.out | exact HCr.out | exact HC0.out | exact HC3.out.drew1 | exact HC2.out.drew1 | exact HCr.out.drew1 | exact HC0.out.drew1 | exact HC3.out.trans (Chg.of_below (below_al (Below.refl _ _) _)) | exact HC2.out.trans (Chg.of_below (below_al (Below.refl _ _) _)) | exact HCr.out.trans (Chg.of_below (below_al (Below.refl _ _) _)) | exact HC0.out.trans (Chg.of_below (below_al (Below.refl _ _) _)) | fail)))
          (first
            | (go_at_call 65; (have hBB := (‹_ ∧ _ ∧ _ ∧ Hid (Chg [] w1 _)›).2.2.2); (with_reducible refine ((implNatText_any _ a.1.2 0 _ _ hla (Nat.le_refl _) (OIa.out _ (BBF.out _ hBB.out)).row (HT.out.below (BBF.out _ hBB.out))).mono fun _ _ h => postT_eqD ED.out h).mono ?_); rintro e w2 ⟨rfl, b2⟩; have HC2 := Lib.hid (hBB.out.trans (Chg.of_below b2)); have HBZ2 := Lib.hid hBB.out.size; clear hBB)
            | (go_at_call 64; (have hBB := (‹_ ∧ _ ∧ _ ∧ Hid (Chg [] w1 _)›).2.2.2); (with_reducible refine ((implPad_any D n1 _ hDs hn3 hn4).mono fun _ _ h => postT_eqD EB.out h).mono ?_); rintro e w3 ⟨rfl, b3⟩; have HC3 := Lib.hid (hBB.out.trans (Chg.of_below b3)); have HBZ3 := Lib.hid hBB.out.size; clear hBB))
        all_goals
          have bb3 := BBF.out _ HC3.out
          replace ka := ka.chg HC3.out (fun i hi hm => by simp at hm)
          have hj1 : (⟨#[45]⟩ : ByteArray).size ≤ 1048576 := by decide
          have hj2 : (B.extract 0 K).size ≤ 1048576 := by rw [ByteArray.size_extract]; omega
          have hj3 : (B.extract K B.size).size ≤ 1048576 := by rw [ByteArray.size_extract]; omega
          have HVV := Lib.hid (show (⟨#[45]⟩ : ByteArray) ++ (B.extract 0 K ++ ⟨#[46]⟩ ++ B.extract K B.size) = T from by have h := HV.out; first | exact h | (rw [if_pos rfl] at h; exact h) | (rw [if_neg (by decide)] at h; exact h))
          have ka_c0 := ka.here.cell 0 _ rfl
          have ka_c1 := ka.here.cell 1 _ rfl
          have ka_c2 := ka.here.cell 2 _ rfl
          go_wp2_with fail
          have HC0 := Lib.hid (show Chg [] w3 w3.drew from (Chg.refl _ _).drew1)
          have HCr := Lib.hid (show Chg [] w3 w3 from Chg.refl _ _)
          have KL := Lib.hid (show ∀ W, Chg [] w3 W → W.cell? ⟨w.heap.size, 0, none⟩ = some (.bool a.1.1) ∧ W.cell? ⟨w.heap.size, 1, none⟩ = some (.slice Aa a.1.2.length ca) ∧ W.cell? ⟨w.heap.size, 2, none⟩ = some (.int .i64 a.2) ∧ Hid (Chg [] w3 W) from fun W hc => ⟨(ka.chg hc (fun i hi hm => by simp at hm)).here.cell 0 _ rfl, (ka.chg hc (fun i hi hm => by simp at hm)).here.cell 1 _ rfl, (ka.chg hc (fun i hi hm => by simp at hm)).here.cell 2 _ rfl, Lib.hid hc⟩)
          have BBF := Lib.hid (show ∀ W, Chg [] w3 W → Below w.heap.size w W from fun W hc => below_chg bb3 hc bb3.size (fun i hi => by simp at hi))
          clear ka_c0 ka_c1 ka_c2
          go_region_held3 (fun W => W.cell? ⟨w.heap.size, 0, none⟩ = some (.bool a.1.1) ∧ W.cell? ⟨w.heap.size, 1, none⟩ = some (.slice Aa a.1.2.length ca) ∧ W.cell? ⟨w.heap.size, 2, none⟩ = some (.int .i64 a.2) ∧ Hid (Chg [] w3 W))
            ((refine KL.out _ ?_; (first | exact HC4.out | exact HCr.out | exact HC0.out | exact HC4.out.drew1 | exact HCr.out.drew1 | exact HC0.out.drew1 | exact HC4.out.trans (Chg.of_below (below_al (Below.refl _ _) _)) | exact HCr.out.trans (Chg.of_below (below_al (Below.refl _ _) _)) | exact HC0.out.trans (Chg.of_below (below_al (Below.refl _ _) _)) | fail)))
            (first
              | (go_at_call 66; (have hBB := (‹_ ∧ _ ∧ _ ∧ Hid (Chg [] w3 _)›).2.2.2); (with_reducible refine (join4_at ⟨#[45]⟩ (B.extract 0 K) (B.extract K B.size) T _ _ _ hj1 hj2 hj3 HVV.out (by first | exact (box_new _ _ 9).here | exact box_drewD (box_new _ _ 9).here)).mono ?_); rintro e w4 ⟨rfl, b4⟩; have HC4 := Lib.hid (hBB.out.trans (Chg.of_below b4)); have HBZ4 := Lib.hid hBB.out.size; clear hBB))
          all_goals
            have bb4 := BBF.out _ HC4.out
            replace ka := ka.chg HC4.out (fun i hi hm => by simp at hm)
            go_wp2
            go_ret
            exact ⟨rfl, bb4⟩
      | false =>
        rw [hneg] at HV
        have HG := Lib.hid hneg
        have ka_c0 := ka.here.cell 0 _ rfl
        have ka_c1 := ka.here.cell 1 _ rfl
        have ka_c2 := ka.here.cell 2 _ rfl
        rw [show (#[.bool a.1.1, .slice Aa a.1.2.length ca, .int .i64 a.2] : Array Value)[0] = .bool false from by show Value.bool a.1.1 = _; rw [hneg]] at ka_c0
        clear hneg
        go_wp2_with fail
        have HC0 := Lib.hid (show Chg [] w1 w1.drew from (Chg.refl _ _).drew1)
        have HCr := Lib.hid (show Chg [] w1 w1 from Chg.refl _ _)
        have KL := Lib.hid (show ∀ W, Chg [] w1 W → W.cell? ⟨w.heap.size, 0, none⟩ = some (.bool a.1.1) ∧ W.cell? ⟨w.heap.size, 1, none⟩ = some (.slice Aa a.1.2.length ca) ∧ W.cell? ⟨w.heap.size, 2, none⟩ = some (.int .i64 a.2) ∧ Hid (Chg [] w1 W) from fun W hc => ⟨(ka.chg hc (fun i hi hm => by simp at hm)).here.cell 0 _ rfl, (ka.chg hc (fun i hi hm => by simp at hm)).here.cell 1 _ rfl, (ka.chg hc (fun i hi hm => by simp at hm)).here.cell 2 _ rfl, Lib.hid hc⟩)
        have BBF := Lib.hid (show ∀ W, Chg [] w1 W → Below w.heap.size w W from fun W hc => below_chg bb1 hc bb1.size (fun i hi => by simp at hi))
        clear ka_c0 ka_c1 ka_c2
        go_region_held3 (fun W => W.cell? ⟨w.heap.size, 0, none⟩ = some (.bool a.1.1) ∧ W.cell? ⟨w.heap.size, 1, none⟩ = some (.slice Aa a.1.2.length ca) ∧ W.cell? ⟨w.heap.size, 2, none⟩ = some (.int .i64 a.2) ∧ Hid (Chg [] w1 W))
          ((refine KL.out _ ?_; (first | exact HC3.out | exact HC2.out | exact HCr.out | exact HC0.out | exact HC3.out.drew1 | exact HC2.out.drew1 | exact HCr.out.drew1 | exact HC0.out.drew1 | exact HC3.out.trans (Chg.of_below (below_al (Below.refl _ _) _)) | exact HC2.out.trans (Chg.of_below (below_al (Below.refl _ _) _)) | exact HCr.out.trans (Chg.of_below (below_al (Below.refl _ _) _)) | exact HC0.out.trans (Chg.of_below (below_al (Below.refl _ _) _)) | fail)))
          (first
            | (go_at_call 65; (have hBB := (‹_ ∧ _ ∧ _ ∧ Hid (Chg [] w1 _)›).2.2.2); (with_reducible refine ((implNatText_any _ a.1.2 0 _ _ hla (Nat.le_refl _) (OIa.out _ (BBF.out _ hBB.out)).row (HT.out.below (BBF.out _ hBB.out))).mono fun _ _ h => postT_eqD ED.out h).mono ?_); rintro e w2 ⟨rfl, b2⟩; have HC2 := Lib.hid (hBB.out.trans (Chg.of_below b2)); have HBZ2 := Lib.hid hBB.out.size; clear hBB)
            | (go_at_call 64; (have hBB := (‹_ ∧ _ ∧ _ ∧ Hid (Chg [] w1 _)›).2.2.2); (with_reducible refine ((implPad_any D n1 _ hDs hn3 hn4).mono fun _ _ h => postT_eqD EB.out h).mono ?_); rintro e w3 ⟨rfl, b3⟩; have HC3 := Lib.hid (hBB.out.trans (Chg.of_below b3)); have HBZ3 := Lib.hid hBB.out.size; clear hBB))
        all_goals
          have bb3 := BBF.out _ HC3.out
          replace ka := ka.chg HC3.out (fun i hi hm => by simp at hm)
          have hj1 : (⟨#[]⟩ : ByteArray).size ≤ 1048576 := by decide
          have hj2 : (B.extract 0 K).size ≤ 1048576 := by rw [ByteArray.size_extract]; omega
          have hj3 : (B.extract K B.size).size ≤ 1048576 := by rw [ByteArray.size_extract]; omega
          have HVV := Lib.hid (show (⟨#[]⟩ : ByteArray) ++ (B.extract 0 K ++ ⟨#[46]⟩ ++ B.extract K B.size) = T from by have h := HV.out; first | exact h | (rw [if_pos rfl] at h; exact h) | (rw [if_neg (by decide)] at h; exact h))
          have ka_c0 := ka.here.cell 0 _ rfl
          have ka_c1 := ka.here.cell 1 _ rfl
          have ka_c2 := ka.here.cell 2 _ rfl
          go_wp2_with fail
          have HC0 := Lib.hid (show Chg [] w3 w3.drew from (Chg.refl _ _).drew1)
          have HCr := Lib.hid (show Chg [] w3 w3 from Chg.refl _ _)
          have KL := Lib.hid (show ∀ W, Chg [] w3 W → W.cell? ⟨w.heap.size, 0, none⟩ = some (.bool a.1.1) ∧ W.cell? ⟨w.heap.size, 1, none⟩ = some (.slice Aa a.1.2.length ca) ∧ W.cell? ⟨w.heap.size, 2, none⟩ = some (.int .i64 a.2) ∧ Hid (Chg [] w3 W) from fun W hc => ⟨(ka.chg hc (fun i hi hm => by simp at hm)).here.cell 0 _ rfl, (ka.chg hc (fun i hi hm => by simp at hm)).here.cell 1 _ rfl, (ka.chg hc (fun i hi hm => by simp at hm)).here.cell 2 _ rfl, Lib.hid hc⟩)
          have BBF := Lib.hid (show ∀ W, Chg [] w3 W → Below w.heap.size w W from fun W hc => below_chg bb3 hc bb3.size (fun i hi => by simp at hi))
          clear ka_c0 ka_c1 ka_c2
          go_region_held3 (fun W => W.cell? ⟨w.heap.size, 0, none⟩ = some (.bool a.1.1) ∧ W.cell? ⟨w.heap.size, 1, none⟩ = some (.slice Aa a.1.2.length ca) ∧ W.cell? ⟨w.heap.size, 2, none⟩ = some (.int .i64 a.2) ∧ Hid (Chg [] w3 W))
            ((refine KL.out _ ?_; (first | exact HC4.out | exact HCr.out | exact HC0.out | exact HC4.out.drew1 | exact HCr.out.drew1 | exact HC0.out.drew1 | exact HC4.out.trans (Chg.of_below (below_al (Below.refl _ _) _)) | exact HCr.out.trans (Chg.of_below (below_al (Below.refl _ _) _)) | exact HC0.out.trans (Chg.of_below (below_al (Below.refl _ _) _)) | fail)))
            (first
              | (go_at_call 66; (have hBB := (‹_ ∧ _ ∧ _ ∧ Hid (Chg [] w3 _)›).2.2.2); (with_reducible refine (join4_at ⟨#[]⟩ (B.extract 0 K) (B.extract K B.size) T _ _ _ hj1 hj2 hj3 HVV.out (by first | exact (box_new _ _ 9).here | exact box_drewD (box_new _ _ 9).here)).mono ?_); rintro e w4 ⟨rfl, b4⟩; have HC4 := Lib.hid (hBB.out.trans (Chg.of_below b4)); have HBZ4 := Lib.hid hBB.out.size; clear hBB))
          all_goals
            have bb4 := BBF.out _ HC4.out
            replace ka := ka.chg HC4.out (fun i hi hm => by simp at hm)
            go_wp2
            go_ret
            exact ⟨rfl, bb4⟩
  · have ok' : okD a = false := by simpa using ok
    have HV := Lib.hid (show (⟨#[]⟩ : ByteArray) = T by rw [← ET.out]; unfold textD; rw [if_neg ok])
    rw [ok']
    clear ok ok' ka
    go_wp2
    go_ret
    exact ⟨ret_strD HV.out, bb1⟩
set_option maxHeartbeats 4000000 in
set_option maxRecDepth 100000 in
theorem implTextDec_any (s : ByteArray) (w : World) (hs : s.size ≤ 1048576) (ht : Tab w) :
    Calls Tryd.prog 22 #[.string s] w (PostDb (trD s).1 (trD s).2 w) := by
  have HT := Lib.hid ht
  clear ht
  have bb0 : Below w.heap.size w (w.alloc (.cells #[.bool false, .slice none 0 0, .int .i64 0] 33)) := below_al (Below.refl _ _) _
  have ko := (box_new w #[.bool false, .slice none 0 0, .int .i64 0] 33)
  have HKO := Lib.hid (ko.lt w.heap.size (by simp))
  have e0 := trD_impl s
  have hp : parseI s = ((negB s, tnR ⟨(Lib.trimLeftB (preB (bareB s) ++ postB (bareB s)).data.toList 48).toArray⟩), ((postB (bareB s)).size : Int)) := rfl
  rw [hp] at e0
  clear hp
  have hb := bareB_le s
  have hpp := pre_post_size (bareB s)
  have h1 := hpp.1
  have h2 := hpp.2.1
  have h3 := hpp.2.2
  clear hpp
  obtain ⟨P, hP⟩ : ∃ P, trD s = P := ⟨_, rfl⟩
  rw [hP] at e0 ⊢
  clear hP
  go_enter Tryd.func22, Tryd.ntmps22
  go_wp2_with fail
  refine (cutPrefix_any s _).mono ?_
  rintro e w_ ⟨rfl, rfl⟩
  generalize negB s = N at *
  generalize bareB s = D at *
  go_wp2_with fail
  refine (cutP_any D _ (by omega)).mono ?_
  rintro e w1 ⟨bc, rfl, b1⟩
  have bb1 := Below.next bb0 b1
  replace ko := ko.below b1
  generalize preB D = H at *
  generalize postB D = L at *
  obtain ⟨J, hJ⟩ : ∃ J, H ++ L = J := ⟨_, rfl⟩
  have hJs : J.size ≤ 1048576 := by rw [← hJ, ByteArray.size_append]; omega
  have hq1 : ¬ (9223372036854775807 < H.size + L.size) := by omega
  rw [hJ] at e0
  go_wp2_with fail
  try rw [hJ]
  skip
  refine (trimLeft_any J _).mono ?_
  rintro e w2 ⟨rfl, b2⟩
  have bb2 := Below.next bb1 b2
  replace ko := ko.below b2
  obtain ⟨Z, hZ⟩ : ∃ Z : ByteArray, (⟨(Lib.trimLeftB J.data.toList 48).toArray⟩ : ByteArray) = Z := ⟨_, rfl⟩
  have hZs : Z.size ≤ 1048576 := by rw [← hZ]; have h := trim_size J.data.toList 48; have h5 := listB_len J; show (List.toArray _).size ≤ _; rw [List.size_toArray]; omega
  rw [hZ] at e0 ⊢
  clear hZ
  go_wp2_with fail
  refine (implTextNat_any Z _ (by omega) (HT.out.below bb2)).mono ?_
  rintro e w3 ⟨u2, rfl, od, b3⟩
  obtain ⟨A2, c2, rfl⟩ := own_len od
  have bb3 := Below.next bb2 b3
  replace ko := ko.below b3
  have hxl := tnR_len Z
  generalize tnR Z = xs at *
  have kd := box_new (w3) #[.bool N, .slice A2 xs.length c2, .int .i64 (L.size : Int)] 33
  have ald := below_al (Below.refl (w3).heap.size (w3)) (.cells #[.bool N, .slice A2 xs.length c2, .int .i64 (L.size : Int)] 33)
  have bbd := Below.next bb3 ald
  replace ko := ko.below ald
  have of : At _ (OwnD (.agg #[.bool N, .slice A2 xs.length c2, .int .i64 (L.size : Int)]) ((N, xs), (L.size : Int))) _ := ((own_at' od).imp (fun _ h => (OwnD.mk (q := ((N, xs), (L.size : Int))) h))).below ald
  have lf0 := own_within od
  clear od
  obtain ⟨X, hX⟩ : ∃ X : DI, (((N, xs), (L.size : Int)) : DI) = X := ⟨_, rfl⟩
  have hX1 : X.1.2.length ≤ 1048576 := by rw [← hX]; show xs.length ≤ _; omega
  rw [hX] at e0 of
  clear hX
  obtain ⟨T, hT⟩ : ∃ T, textD X = T := ⟨_, rfl⟩
  have ET := Lib.hid hT
  rw [hT] at e0
  clear hT
  have kd_c0 := kd.here.cell 0 _ rfl
  have kd_c1 := kd.here.cell 1 _ rfl
  have kd_c2 := kd.here.cell 2 _ rfl
  go_wp2_with fail
  clear kd_c0 kd_c1 kd_c2
  refine ((implDecText_any _ X _ hX1 of.here (HT.out.below bbd)).mono fun _ _ h => postT_isD ET.out h).mono ?_
  rintro e w4 ⟨rfl, b4⟩
  have bb4 := Below.next bbd b4
  replace ko := ko.below b4
  replace kd := kd.below b4
  replace of := of.below b4
  by_cases hx : T = s
  · have HV := Lib.hid (show P = (X, true) by rw [← e0]; exact if_pos hx)
    have hse := bytes_eqP hx
    clear e0 hx
    have HW := Lib.hid (postDb_chg (b := true) (T := [w.heap.size]) of (fun i hi hm => by have := lf0 i hi; have := HKO.out; have := b1.size; have := b2.size; simp at hm; omega) (fun i hi => by simp at hi; omega) (fun i hi => by have := lf0 i hi; have := HKO.out; have := b1.size; have := b2.size; omega) bb4)
    have kd_c0 := kd.here.cell 0 _ rfl
    have kd_c1 := kd.here.cell 1 _ rfl
    have kd_c2 := kd.here.cell 2 _ rfl
    have cz0 := ko.here.cell 0 _ rfl
    have fz0 := Lib.frozen_of_heap ko.here 0
    have cz1 := ko.here.cell 1 _ rfl
    have fz1 := Lib.frozen_of_heap ko.here 1
    have cz2 := ko.here.cell 2 _ rfl
    have fz2 := Lib.frozen_of_heap ko.here 2
    clear of kd ko
    go_wp2
    refine bodyPost_ret (v := .tuple #[.agg #[.bool N, .slice A2 xs.length c2, .int .i64 (L.size : Int)], .bool true]) (by simp [results, Tryd.results22, go_sem, cz0, cz1, cz2]) rfl ?_
    rw [HV.out]
    refine HW.out _ ?_
    repeat (first | exact Chg.refl _ _ | refine Chg.setCell ?_ (by simp) _)
  · have HV := Lib.hid (show P = (zeroD, false) by rw [← e0]; exact if_neg hx)
    have hse := bytes_neP hx
    clear e0 hx of kd
    have cz0 := ko.here.cell 0 _ rfl
    have fz0 := Lib.frozen_of_heap ko.here 0
    have cz1 := ko.here.cell 1 _ rfl
    have fz1 := Lib.frozen_of_heap ko.here 1
    have cz2 := ko.here.cell 2 _ rfl
    have fz2 := Lib.frozen_of_heap ko.here 2
    go_wp2
    refine bodyPost_ret (v := .tuple #[.agg #[.bool false, .slice none 0 0, .int .i64 0], .bool false]) (by simp [results, Tryd.results22, go_sem, cz0, cz1, cz2]) rfl ?_
    rw [HV.out]
    first | exact newDb_zero _ bb4 | exact newDb_zero _ (below_set3 bb4 (by omega))
end Go.Proofs.YthfkdofnoomhaaaDoor

namespace Go.Proofs.YthfkdofnoomhaaaDoor
open Go.RowKit

theorem specPadT (s : ByteArray) (n : Int) (w : World) (T : ByteArray) (hs : s.size ≤ 1048576) (hn : n ≤ 2000) (hT : padB s n = T) : Calls Tryd.prog 61 #[.string s, .int .i64 n] w (PostT T w) := by
  subst hT
  refine (specPad_any s n w hs hn).mono ?_
  rintro e w' ⟨rfl, rfl⟩
  exact ⟨rfl, Below.refl _ _⟩
set_option maxHeartbeats 4000000 in
set_option maxRecDepth 100000 in
theorem specDecText_any (va : Value) (a : DI) (w : World) (hla : a.1.2.length ≤ 1048576) (ha : OwnD va a w) :
    Calls Tryd.prog 19 #[va] w (PostT (textD a) w) := by
  have Ha := Lib.hid ha
  obtain ⟨Aa, ca, rfl⟩ := ownD_form ha
  have ODa := Lib.hid (show ∀ W, Below w.heap.size w W → OwnD (.agg #[.bool a.1.1, .slice Aa a.1.2.length ca, .int .i64 a.2]) a W from fun W hb => OwnD.below Ha.out hb)
  have OIa := Lib.hid (show ∀ W, Below w.heap.size w W → OwnI (.slice Aa a.1.2.length ca) a.1.2 W from fun W hb => ownD_open (ODa.out W hb))
  have OSa := Lib.hid (show ∀ W, Below w.heap.size w W → OwnS (.agg #[.bool a.1.1, .slice Aa a.1.2.length ca]) a.1 W from fun W hb => OwnS.mk (OIa.out W hb))
  clear ha
  have bb0 : Below w.heap.size w (w.alloc (.cells #[.bool a.1.1, .slice Aa a.1.2.length ca, .int .i64 a.2] 33)) := below_al (Below.refl _ _) _
  have ka := (box_new w #[.bool a.1.1, .slice Aa a.1.2.length ca, .int .i64 a.2] 33)
  obtain ⟨T, hT⟩ : ∃ T, textD a = T := ⟨_, rfl⟩
  have ET := Lib.hid hT
  rw [hT]
  clear hT
  go_enter Tryd.func19, Tryd.ntmps19
  have ka_c0 := ka.here.cell 0 _ rfl
  have ka_c1 := ka.here.cell 1 _ rfl
  have ka_c2 := ka.here.cell 2 _ rfl
  go_wp2_with fail
  clear ka_c0 ka_c1 ka_c2
  refine (specDecOk_any _ a _ hla (ODa.out _ bb0)).mono ?_
  rintro e w1 ⟨rfl, b1⟩
  have bb1 := Below.next bb0 b1
  replace ka := ka.below b1
  by_cases ok : okD a = true
  · rw [ok]
    have HO := Lib.hid ok
    have qa := partsD ok
    have ta := qa.lo
    have ta2 := qa.hi
    obtain ⟨K, hK, hKl, hB⟩ := body_K ok
    have HV := Lib.hid (show T = if a.1.1 = true then (⟨#[45]⟩ : ByteArray) ++ pointB (bodyD a) a.2 else pointB (bodyD a) a.2 by rw [← ET.out]; unfold textD; rw [if_pos HO.out])
    have hP0 : ¬ 0 < a.2 → pointB (bodyD a) a.2 = bodyD a := fun h => by unfold pointB; rw [if_neg h]
    have hP1 : 0 < a.2 → pointB (bodyD a) a.2 = (bodyD a).extract 0 K ++ ⟨#[46]⟩ ++ (bodyD a).extract K (bodyD a).size := fun h => by unfold pointB; rw [if_pos h, show (bodyD a).size - a.2.toNat = K by omega]
    obtain ⟨n1, hn1⟩ : ∃ n, IntKind.i64.wrap (a.2 + 1) = n := ⟨_, rfl⟩
    have hn2 : n1 = a.2 + 1 := by rw [← hn1]; exact IntWalk.i64_in _ (by omega)
    obtain ⟨D, hD⟩ : ∃ D, natTextB a.1.2 = D := ⟨_, rfl⟩
    have hDs : D.size ≤ 1048576 := by rw [← hD]; have := natTextB_size a.1.2; omega
    have EB := Lib.hid (show padB D n1 = bodyD a by rw [← hD, hn2]; rfl)
    have hn3 : n1 ≤ 2000 := by omega
    obtain ⟨Q, hQ⟩ : ∃ Q, pointB (bodyD a) a.2 = Q := ⟨_, rfl⟩
    rw [hQ] at HV hP0 hP1
    generalize bodyD a = B at *
    have ED := Lib.hid hD
    have hKw : IntKind.i64.wrap ((B.size : Int) - a.2) = (K : Int) := by rw [hK]; exact IntWalk.i64_in _ (by omega)
    have c1 : (0 : Int) ≤ (K : Int) := by omega
    have c2 : (K : Int) ≤ (B.size : Int) := by omega
    have HP0 := Lib.hid hP0
    have HP1 := Lib.hid hP1
    have hQs : Q.size ≤ 200 := by
      by_cases h : 0 < a.2
      · rw [hP1 h, ByteArray.size_append, ByteArray.size_append, ByteArray.size_extract, ByteArray.size_extract]; have e : (⟨#[46]⟩ : ByteArray).size = 1 := rfl; omega
      · rw [hP0 h]; omega
    clear hD hn2 hK ok qa hP0 hP1 hQ
    have ka_c0 := ka.here.cell 0 _ rfl
    have ka_c1 := ka.here.cell 1 _ rfl
    have ka_c2 := ka.here.cell 2 _ rfl
    go_wp2_with fail
    have HC0 := Lib.hid (show Chg [] w1 w1.drew from (Chg.refl _ _).drew1)
    have HCr := Lib.hid (show Chg [] w1 w1 from Chg.refl _ _)
    have KL := Lib.hid (show ∀ W, Chg [] w1 W → W.cell? ⟨w.heap.size, 0, none⟩ = some (.bool a.1.1) ∧ W.cell? ⟨w.heap.size, 1, none⟩ = some (.slice Aa a.1.2.length ca) ∧ W.cell? ⟨w.heap.size, 2, none⟩ = some (.int .i64 a.2) ∧ Hid (Chg [] w1 W) from fun W hc => ⟨(ka.chg hc (fun i hi hm => by simp at hm)).here.cell 0 _ rfl, (ka.chg hc (fun i hi hm => by simp at hm)).here.cell 1 _ rfl, (ka.chg hc (fun i hi hm => by simp at hm)).here.cell 2 _ rfl, Lib.hid hc⟩)
    have BBF := Lib.hid (show ∀ W, Chg [] w1 W → Below w.heap.size w W from fun W hc => below_chg bb1 hc bb1.size (fun i hi => by simp at hi))
    clear ka_c0 ka_c1 ka_c2
    go_region_held3 (fun W => W.cell? ⟨w.heap.size, 0, none⟩ = some (.bool a.1.1) ∧ W.cell? ⟨w.heap.size, 1, none⟩ = some (.slice Aa a.1.2.length ca) ∧ W.cell? ⟨w.heap.size, 2, none⟩ = some (.int .i64 a.2) ∧ Hid (Chg [] w1 W))
      ((refine KL.out _ ?_; (first | exact HC3.out | exact HC2.out | exact HCr.out | exact HC0.out | exact HC3.out.drew1 | exact HC2.out.drew1 | exact HCr.out.drew1 | exact HC0.out.drew1 | exact HC3.out.trans (Chg.of_below (below_al (Below.refl _ _) _)) | exact HC2.out.trans (Chg.of_below (below_al (Below.refl _ _) _)) | exact HCr.out.trans (Chg.of_below (below_al (Below.refl _ _) _)) | exact HC0.out.trans (Chg.of_below (below_al (Below.refl _ _) _)) | fail)))
      (first
        | (go_at_call 62; (have hBB := (‹_ ∧ _ ∧ _ ∧ Hid (Chg [] w1 _)›).2.2.2); (with_reducible refine ((specNatText_any _ a.1.2 0 _ _ hla (Nat.le_refl _) (OIa.out _ (BBF.out _ hBB.out)).row).mono fun _ _ h => postT_eqD ED.out h).mono ?_); rintro e w2 ⟨rfl, b2⟩; have HC2 := Lib.hid (hBB.out.trans (Chg.of_below b2)); have HBZ2 := Lib.hid hBB.out.size; clear hBB)
        | (go_at_call 61; (have hBB := (‹_ ∧ _ ∧ _ ∧ Hid (Chg [] w1 _)›).2.2.2); (with_reducible refine (specPadT D n1 _ B hDs hn3 EB.out).mono ?_); rintro e w3 ⟨rfl, b3⟩; have HC3 := Lib.hid (hBB.out.trans (Chg.of_below b3)); have HBZ3 := Lib.hid hBB.out.size; clear hBB))
    all_goals
      have bb3 := BBF.out _ HC3.out
      replace ka := ka.chg HC3.out (fun i hi hm => by simp at hm)
      (try (rename _ ∧ _ ∧ _ ∧ Hid (Chg _ _ _) => hgone; clear hgone))
      have hq1 : ¬ (9223372036854775807 < (1 : Int) + Q.size) := by omega
      by_cases h0 : 0 < a.2
      · have EQ := Lib.hid (HP1.out (by omega))
        have hs1 : (B.extract 0 K).size = K := by rw [ByteArray.size_extract]; omega
        have hs2 : (B.extract K B.size).size = B.size - K := by rw [ByteArray.size_extract]; omega
        cases hneg : a.1.1 with
        | true =>
          have HVV := Lib.hid (show T = (⟨#[45]⟩ : ByteArray) ++ (B.extract 0 K ++ ⟨#[46]⟩ ++ B.extract K B.size) by have h := HV.out; rw [hneg, EQ.out] at h; exact h)
          rw [hneg] at ka
          clear hneg
          have ka_c0 := ka.here.cell 0 _ rfl
          have ka_c1 := ka.here.cell 1 _ rfl
          have ka_c2 := ka.here.cell 2 _ rfl
          go_wp2
          go_quiet (fail)
          go_wp2
          go_ret
          exact ⟨ret_strD HVV.out.symm, below_drewN bb3 _⟩
        | false =>
          have HVV := Lib.hid (show T = (B.extract 0 K ++ ⟨#[46]⟩ ++ B.extract K B.size) by have h := HV.out; rw [hneg, EQ.out] at h; exact h)
          rw [hneg] at ka
          clear hneg
          have ka_c0 := ka.here.cell 0 _ rfl
          have ka_c1 := ka.here.cell 1 _ rfl
          have ka_c2 := ka.here.cell 2 _ rfl
          go_wp2
          go_quiet (fail)
          go_wp2
          go_ret
          exact ⟨ret_strD HVV.out.symm, below_drewN bb3 _⟩
      · have EQ := Lib.hid (HP0.out (by omega))
        cases hneg : a.1.1 with
        | true =>
          have HVV := Lib.hid (show T = (⟨#[45]⟩ : ByteArray) ++ B by have h := HV.out; rw [hneg, EQ.out] at h; exact h)
          rw [hneg] at ka
          clear hneg
          have ka_c0 := ka.here.cell 0 _ rfl
          have ka_c1 := ka.here.cell 1 _ rfl
          have ka_c2 := ka.here.cell 2 _ rfl
          go_wp2
          go_ret
          exact ⟨ret_strD HVV.out.symm, bb3⟩
        | false =>
          have HVV := Lib.hid (show T = B by have h := HV.out; rw [hneg, EQ.out] at h; exact h)
          rw [hneg] at ka
          clear hneg
          have ka_c0 := ka.here.cell 0 _ rfl
          have ka_c1 := ka.here.cell 1 _ rfl
          have ka_c2 := ka.here.cell 2 _ rfl
          go_wp2
          go_ret
          exact ⟨ret_strD HVV.out.symm, bb3⟩
  · have ok' : okD a = false := by simpa using ok
    have HV := Lib.hid (show (⟨#[]⟩ : ByteArray) = T by rw [← ET.out]; unfold textD; rw [if_neg ok])
    rw [ok']
    clear ok ok' ka
    go_wp2
    go_ret
    exact ⟨ret_strD HV.out, bb1⟩
end Go.Proofs.YthfkdofnoomhaaaDoor

namespace Go.Proofs.YthfkdofnoomhaaaDoor
open Go.ChangeShapes Go.WideShapes Go.ChangeAt Go.RowKit

theorem Tryd.own : ownKnob Tryd.prog.godebug = none := by kernel_rfl
theorem Tryd.laidOut : laidOutB Tryd.prog = true := by kernel_rfl

section
variable {H : Type} {enc : TypeId × Value → H} {P : Program}

/-- the types of a list can all be read, and all lie in the program's table -/
def legible (P : Program) (ts : List TypeId) : Bool := ts.all fun t => P.readableRec t && decide (t < P.types.size)

theorem args_below (hl : laidOutB P = true) {W W' : World} (hb : Below W.heap.size W W') :
    ∀ {ts : List TypeId} {vs : List Value} {ds : List (DataW H)} {ps : List MemPlace}, legible P ts = true → DataW.TrodAll enc P W 0 (fun _ => true) true ts vs ds ps → (∀ x ∈ ps, x.block < W.heap.size) →
      DataW.TrodAll enc P W' 0 (fun b => decide (b < W.heap.size)) true ts vs ds ps
  | [], _, _, _, _, h, _ => by
    obtain ⟨rfl, rfl, rfl⟩ := trodAll_nil h
    rfl
  | t :: ts, _, _, _, hr, h, hlt => by
    obtain ⟨v, vs, d, ds, p, q, rfl, rfl, rfl, h1, h2⟩ := trodAll_cons h
    simp only [legible, List.all_cons, Bool.and_eq_true, decide_eq_true_eq] at hr
    exact ⟨p, q, Below.trod hl hr.1.1 hr.1.2 h1 hb (fun x hx => hlt x (List.mem_append_left _ hx)), args_below hl hb (by simpa only [legible] using hr.2) h2 (fun x hx => hlt x (List.mem_append_right _ hx)), rfl⟩

/-- the post of a law that lists no variable -/
theorem law_post (hl : laidOutB P = true) {f : Func} {s : ChangeSpec} {tb : TypeId} {W W' : World} {args : Array Value} {ds gs : List (DataW H)} {before : List MemPlace}
    (hr : legible P f.params.toList = true) (hty : f.resultTypes = #[tb]) (htb : P.underlying tb = some .bool) (hvars : s.vars = [])
    (hfn : s.fn H ds = { results := [.lit (.bool true)], args := ds })
    (hW : DataW.Whole enc P f.params.toList s.vars false W args.toList ds gs before) (hb : Below W.heap.size W W') :
    s.post enc P f false true false false W args (.bool true) W' := by
  have hW' := hW
  obtain ⟨p, q, hA, hV, rfl, _, _⟩ := hW
  rw [hvars] at hV
  obtain ⟨rfl, rfl⟩ := trodVars_none hV
  have hlt : ∀ x ∈ p, x.block < W.heap.size := fun x hx => hW'.lt x (by simpa using hx)
  have e : s.fn H (ds ++ []) = { results := [.lit (.bool true)], args := ds } := by rw [List.append_nil]; exact hfn
  refine ⟨ds, [], p ++ [], [], p, [], hW', ?_, ?_, ?_, hb.frame _, fun h => by cases h⟩
  · rw [e, hty]
    exact trodAll_mk1 (shut_bool htb _)
  · rw [e]
    exact args_below hl hb hr hA hlt
  · rw [e, hvars]
    rfl
end

set_option maxRecDepth 100000 in
/-- a law that lists no variable: from the walk at every argument to the lifted row -/
theorem law_lifted {H : Type} {enc : TypeId × Value → H} {os : Os} (started : os.Started) {f : FuncId} {fn : Func} {s : ChangeSpec} {conds : List PathCond} {tb : TypeId}
    (noInit : Tryd.prog.inits.idxOf? f = none) (hfun : Tryd.prog.funcs[f]? = some fn)
    (hr : legible Tryd.prog fn.params.toList = true) (hty : fn.resultTypes = #[tb]) (htb : Tryd.prog.underlying tb = some .bool) (hvars : s.vars = [])
    (witness : ∃ (w : World) (tape : Tape) (i : Input), w.os = os ∧ (w.forCall tape i).Shaped Tryd.checked.prog ∧ i.vars = [] ∧ Input.okWide Tryd.checked.prog (w.forCall tape i) .any w.heap.size f i ∧
      s.pre6 enc Tryd.checked.prog fn conds false (w.forCall tape i).memory i.args ∧ Assume.holds {} Tryd.checked.prog (lone (Frame.enter Tryd.checked.prog f i.args .normal) [] (w.forCall tape i)))
    (walk : ∀ (W : World) (base : Nat) (args : Array Value) (ds : List (DataW H)) (p : List MemPlace),
      (∀ (j : Nat) t v, fn.params[j]? = some t → args[j]? = some v → Value.okWide Tryd.prog W .any base t v) →
      DataW.TrodAll enc Tryd.prog W 0 (fun _ => true) true fn.params.toList args.toList ds p → (∀ x ∈ p, x.block < W.heap.size) → W.noneFrozen p →
      s.fn H ds = { results := [.lit (.bool true)], args := ds } ∧ Calls Tryd.prog f args W fun e W' => e = .returned (.bool true) ∧ Below W.heap.size W W') :
    ReturnsInHanded {} Tryd.checked os f .any (s.pre6 enc Tryd.prog fn conds false) (s.post enc Tryd.prog fn false true false false) := by
  refine returnsInHanded_of_change (C := Tryd.checked) Tryd.own started noInit hfun witness ?_
  intro W base args ds gs before hval hW _ _
  have hW' := hW
  obtain ⟨p, q, hA, hV, rfl, hz, _⟩ := hW
  rw [hvars] at hV
  obtain ⟨rfl, rfl⟩ := trodVars_none hV
  obtain ⟨hfn, hc⟩ := walk W base args ds p hval hA (fun x hx => hW'.lt x (by simpa using hx)) (by simpa using hz)
  refine hc.mono fun e W' ⟨he, hb⟩ => ?_
  subst he
  exact ⟨_, rfl, law_post Tryd.laidOut hr hty htb hvars hfn hW' hb⟩
end Go.Proofs.YthfkdofnoomhaaaDoor

namespace Go.Proofs.YthfkdofnoomhaaaDoor
open Go.ChangeShapes Go.WideShapes Go.ChangeAt Go.RowKit

section
variable {H : Type} {enc : TypeId × Value → H} {P : Program} {W : World} {base : Nat} {t e : TypeId} {v : Value} {d : DataW H} {p : List MemPlace}

theorem arg_strings (ht : P.underlying t = some (.slice e)) (he : P.underlying e = some .string) (hc : P.cellsOf e = 1) (hv : Value.okWide P W .any base t v) (h : DataW.Trod enc P W 0 (fun _ => true) true t v d p) :
    ∃ ss : List ByteArray, Row W 0 W.heap.size v (ss.map Value.string) ∧ ss.length ≤ maxLen ∧ ∀ s ∈ ss, s.size ≤ maxLen := by
  obtain ⟨a0, len0, cap0, rfl⟩ := okWide_slice ht hv
  obtain ⟨fuel, hf⟩ := h
  rcases open_strings ht he hc hf with ⟨hcs, _⟩ | ⟨a, len, cap, ss, hcs, _, hl, hm, hz, _, hcell, hsz⟩
  · have hcs' : Value.slice a0 len0 cap0 = .slice none 0 0 := by simpa [Value.cells] using hcs
    cases hcs'
    exact ⟨[], Row.nil_ _ _, by simp, by simp⟩
  · have hcs' : Value.slice a0 len0 cap0 = .slice (some a) len cap := by simpa [Value.cells] using hcs
    obtain ⟨rfl, rfl, rfl⟩ : a0 = some a ∧ len = len0 ∧ cap = cap0 := by cases hcs'; exact ⟨rfl, rfl, rfl⟩
    have hzl : ss.length = cap := by simpa using hz
    have hlen : (ss.take len).length = len := by rw [List.length_take]; omega
    refine ⟨ss.take len, ⟨some a, cap, by rw [List.length_map, hlen], fun j u hu => ?_⟩, by omega, fun s hs => hsz s (List.mem_of_mem_take hs)⟩
    rw [List.getElem?_map] at hu
    obtain ⟨s, hs, rfl⟩ := Option.map_eq_some_iff.1 hu
    have hj : j < len := by rw [← hlen]; exact (List.getElem?_eq_some_iff.1 hs).1
    have hs' : ss[j]? = some s := by rw [← hs, List.getElem?_take_of_lt hj]
    have hc1 := hcell j (by omega)
    rw [List.getD_eq_getElem?_getD, hs'] at hc1
    exact ⟨a, rfl, Nat.zero_le _, by have := cell_lt hc1; rwa [block_add] at this, hc1⟩

theorem arg_ints (ht : P.underlying t = some (.slice e)) (he : P.underlying e = some (.int .i64)) (hc : P.cellsOf e = 1) (hv : Value.okWide P W .any base t v) (h : DataW.Trod enc P W 0 (fun _ => true) true t v d p) :
    ∃ xs : List Int, Row W 0 W.heap.size v (xs.map (Value.int .i64)) ∧ xs.length ≤ maxLen ∧ ∀ x ∈ xs, -9223372036854775808 ≤ x ∧ x ≤ 9223372036854775807 := by
  obtain ⟨a0, len0, cap0, rfl⟩ := okWide_slice ht hv
  obtain ⟨fuel, hf⟩ := h
  rcases open_ints ht he hc hf with ⟨hcs, _⟩ | ⟨a, len, cap, ss, hcs, _, hl, hm, hz, _, hcell, hsz⟩
  · have hcs' : Value.slice a0 len0 cap0 = .slice none 0 0 := by simpa [Value.cells] using hcs
    cases hcs'
    exact ⟨[], Row.nil_ _ _, by simp, by simp⟩
  · have hcs' : Value.slice a0 len0 cap0 = .slice (some a) len cap := by simpa [Value.cells] using hcs
    obtain ⟨rfl, rfl, rfl⟩ : a0 = some a ∧ len = len0 ∧ cap = cap0 := by cases hcs'; exact ⟨rfl, rfl, rfl⟩
    have hzl : ss.length = cap := by simpa using hz
    have hlen : (ss.take len).length = len := by rw [List.length_take]; omega
    refine ⟨ss.take len, ⟨some a, cap, by rw [List.length_map, hlen], fun j u hu => ?_⟩, by omega, fun s hs => ?_⟩
    · rw [List.getElem?_map] at hu
      obtain ⟨s, hs, rfl⟩ := Option.map_eq_some_iff.1 hu
      have hj : j < len := by rw [← hlen]; exact (List.getElem?_eq_some_iff.1 hs).1
      have hs' : ss[j]? = some s := by rw [← hs, List.getElem?_take_of_lt hj]
      have hc1 := hcell j (by omega)
      rw [List.getD_eq_getElem?_getD, hs'] at hc1
      exact ⟨a, rfl, Nat.zero_le _, by have := cell_lt hc1; rwa [block_add] at this, hc1⟩
    · have := hsz s (List.mem_of_mem_take hs)
      simpa [Lit.wf, IntKind.min, IntKind.max, IntKind.signed, IntKind.bits] using this

theorem arg_bytes (ht : P.underlying t = some (.slice e)) (he : P.underlying e = some (.int .u8)) (hc : P.cellsOf e = 1) (hv : Value.okWide P W .any base t v) (h : DataW.Trod enc P W 0 (fun _ => true) true t v d p) :
    ∃ bs : List Nat, Row W 0 W.heap.size v (bs.map fun b : Nat => Value.int .u8 (b : Int)) ∧ bs.length ≤ maxLen ∧ ∀ b ∈ bs, b < 256 := by
  obtain ⟨a0, len0, cap0, rfl⟩ := okWide_slice ht hv
  obtain ⟨fuel, hf⟩ := h
  rcases open_ints ht he hc hf with ⟨hcs, _⟩ | ⟨a, len, cap, ss, hcs, _, hl, hm, hz, _, hcell, hsz⟩
  · have hcs' : Value.slice a0 len0 cap0 = .slice none 0 0 := by simpa [Value.cells] using hcs
    cases hcs'
    exact ⟨[], Row.nil_ _ _, by simp, by simp⟩
  · have hcs' : Value.slice a0 len0 cap0 = .slice (some a) len cap := by simpa [Value.cells] using hcs
    obtain ⟨rfl, rfl, rfl⟩ : a0 = some a ∧ len = len0 ∧ cap = cap0 := by cases hcs'; exact ⟨rfl, rfl, rfl⟩
    have hzl : ss.length = cap := by simpa using hz
    have hlen : (ss.take len).length = len := by rw [List.length_take]; omega
    have hr : ∀ x ∈ ss.take len, 0 ≤ x ∧ x ≤ 255 := fun x hx => by
      have := hsz x (List.mem_of_mem_take hx)
      simpa [Lit.wf, IntKind.min, IntKind.max, IntKind.signed, IntKind.bits] using this
    refine ⟨(ss.take len).map Int.toNat, ⟨some a, cap, by rw [List.length_map, List.length_map, hlen], fun j u hu => ?_⟩, by rw [List.length_map]; omega, fun s hs => ?_⟩
    · rw [List.getElem?_map, List.getElem?_map] at hu
      obtain ⟨y, hy, rfl⟩ := Option.map_eq_some_iff.1 hu
      obtain ⟨s, hs, rfl⟩ := Option.map_eq_some_iff.1 hy
      have hj : j < len := by rw [← hlen]; exact (List.getElem?_eq_some_iff.1 hs).1
      have hs' : ss[j]? = some s := by rw [← hs, List.getElem?_take_of_lt hj]
      have hc1 := hcell j (by omega)
      rw [List.getD_eq_getElem?_getD, hs'] at hc1
      have h0 := hr s (List.mem_of_getElem? hs)
      have e0 : ((s.toNat : Nat) : Int) = s := by omega
      rw [e0]
      exact ⟨a, rfl, Nat.zero_le _, by have := cell_lt hc1; rwa [block_add] at this, hc1⟩
    · obtain ⟨x, hx, rfl⟩ := List.mem_map.1 hs
      have := hr x hx
      omega
end
end Go.Proofs.YthfkdofnoomhaaaDoor

namespace Go.Proofs.YthfkdofnoomhaaaDoor
open Go.ChangeShapes Go.WideShapes Go.ChangeAt Go.RowKit Go.Joins

section
variable {H : Type} {enc : TypeId × Value → H} {P : Program} {W : World} {base : Nat} {t e : TypeId}

/-- the cell of a slice of ints, wherever it stands -/
theorem cell_ints {fuel : Nat} {a0 : Option Addr} {len0 cap0 : Nat} {x : DataW H × List MemPlace} (ht : P.underlying t = some (.slice e)) (he : P.underlying e = some (.int .i64)) (hc : P.cellsOf e = 1)
    (hf : DataW.trod enc P W 0 (fun _ => true) true fuel t [.slice a0 len0 cap0] = some x) :
    ∃ xs : List Int, Row W 0 W.heap.size (.slice a0 len0 cap0) (xs.map (Value.int .i64)) ∧ xs.length ≤ maxLen := by
  rcases open_ints ht he hc hf with ⟨hcs, _⟩ | ⟨a, len, cap, ss, hcs, _, hl, hm, hz, _, hcell, hsz⟩
  · have hcs' : Value.slice a0 len0 cap0 = .slice none 0 0 := by simpa using hcs
    cases hcs'
    exact ⟨[], Row.nil_ _ _, by simp⟩
  · have hcs' : Value.slice a0 len0 cap0 = .slice (some a) len cap := by simpa using hcs
    obtain ⟨rfl, rfl, rfl⟩ : a0 = some a ∧ len = len0 ∧ cap = cap0 := by cases hcs'; exact ⟨rfl, rfl, rfl⟩
    have hzl : ss.length = cap := by simpa using hz
    have hlen : (ss.take len).length = len := by rw [List.length_take]; omega
    refine ⟨ss.take len, ⟨some a, cap, by rw [List.length_map, hlen], fun j u hu => ?_⟩, by omega⟩
    rw [List.getElem?_map] at hu
    obtain ⟨s, hs, rfl⟩ := Option.map_eq_some_iff.1 hu
    have hj : j < len := by rw [← hlen]; exact (List.getElem?_eq_some_iff.1 hs).1
    have hs' : ss[j]? = some s := by rw [← hs, List.getElem?_take_of_lt hj]
    have hc1 := hcell j (by omega)
    rw [List.getD_eq_getElem?_getD, hs'] at hc1
    exact ⟨a, rfl, Nat.zero_le _, by have := cell_lt hc1; rwa [block_add] at this, hc1⟩
end

theorem Tryd.cellsSigned : Tryd.prog.cellsOf 24 = 2 := by kernel_rfl
theorem Tryd.cellsInt1 : Tryd.prog.cellsOf 3 = 1 := by kernel_rfl
set_option maxHeartbeats 400000 in
set_option maxRecDepth 100000 in
theorem arg_signed {H : Type} {enc : TypeId × Value → H} {W : World} {base : Nat} {v : Value} {d : DataW H} {p : List MemPlace}
    (hv : Value.okWide Tryd.prog W .any base 24 v) (h : DataW.Trod enc Tryd.prog W 0 (fun _ => true) true 24 v d p) : ∃ x : SI, RdS W v x ∧ x.2.length ≤ maxLen := by
  obtain ⟨c0, c1, y0, y1, m, rfl, rfl, rfl, hy0, hy1⟩ := open_agg2 Tryd.underlying24 (by kernel_rfl) Tryd.cellsSigned hv h
  obtain ⟨b, e0, rfl⟩ := DataW.trod_bool Tryd.underlying4 hy0
  obtain ⟨a, l, c, e1⟩ := slice_form Tryd.underlying22 hy1
  simp at e0 e1
  subst e0 e1
  obtain ⟨xs, hr, hl⟩ := cell_ints Tryd.underlying22 Tryd.underlying3 Tryd.cellsInt1 hy1
  exact ⟨(b, xs), ⟨_, rfl, hr⟩, hl⟩
end Go.Proofs.YthfkdofnoomhaaaDoor

namespace Go.Proofs.YthfkdofnoomhaaaDoor
open Go.ChangeShapes Go.WideShapes Go.ChangeAt Go.RowKit Go.Joins

theorem Tryd.cellsDec : Tryd.prog.cellsOf 26 = 3 := by kernel_rfl
set_option maxHeartbeats 400000 in
set_option maxRecDepth 100000 in
theorem arg_dec {H : Type} {enc : TypeId × Value → H} {W : World} {base : Nat} {v : Value} {d : DataW H} {p : List MemPlace}
    (hv : Value.okWide Tryd.prog W .any base 26 v) (h : DataW.Trod enc Tryd.prog W 0 (fun _ => true) true 26 v d p) : ∃ x : DI, RdD W v x ∧ x.1.2.length ≤ maxLen ∧ (-9223372036854775808 ≤ x.2 ∧ x.2 ≤ 9223372036854775807) := by
  obtain ⟨cs, rfl, hsz⟩ := okWide_struct Tryd.underlying26 hv
  obtain ⟨c0, c1, c2, rfl⟩ := array3 (hsz.trans Tryd.cellsDec)
  obtain ⟨fuel, hf⟩ := h
  obtain ⟨y0, y1, n, hx, _, h0, h1⟩ := trod_struct2 Tryd.underlying26 hf
  have k0 : Tryd.prog.cellsOf 24 = 2 := Tryd.cellsSigned
  have k1 : Tryd.prog.cellsOf 22 = 1 := by kernel_rfl
  have k2 : Tryd.prog.cellsOf 3 = 1 := Tryd.cellsInt1
  have kb : Tryd.prog.cellsOf 4 = 1 := by kernel_rfl
  simp only [Value.cells, k0, k2, List.drop_zero, List.take_succ_cons, List.take_zero, List.drop_succ_cons] at h0 h1
  obtain ⟨z0, z1, m, _, _, g0, g1⟩ := trod_struct2 Tryd.underlying24 h0
  simp only [kb, k1, List.drop_zero, List.take_succ_cons, List.take_zero, List.drop_succ_cons] at g0 g1
  obtain ⟨b, e0, _⟩ := DataW.trod_bool Tryd.underlying4 g0
  obtain ⟨a1, l1, cc1, e1⟩ := slice_form Tryd.underlying22 g1
  obtain ⟨k, e2, _, hw⟩ := DataW.trod_int Tryd.underlying3 h1
  simp at e0 e1 e2
  subst e0 e1 e2
  obtain ⟨xs, hr, hl⟩ := cell_ints Tryd.underlying22 Tryd.underlying3 Tryd.cellsInt1 g1
  exact ⟨((b, xs), k), ⟨_, rfl, hr⟩, hl, by simpa [Lit.wf, IntKind.min, IntKind.max, IntKind.signed, IntKind.bits] using hw⟩
end Go.Proofs.YthfkdofnoomhaaaDoor

namespace Go.Proofs.YthfkdofnoomhaaaDoor
open Go.ChangeShapes Go.WideShapes Go.ChangeAt Go.RowKit

/-- the three tables, as the rows list them -/
abbrev laid3 : List (String × DataW Unit) := [("math/bits.deBruijn32tab", Rows.laid_math_bits_deBruijn32tab), ("math/bits.deBruijn64tab", Rows.laid_math_bits_deBruijn64tab), ("internal/strconv.uint64pow10", Rows.laid_internal_strconv_uint64pow10)]
theorem powType : (Tryd.prog.globals[6]?).map (·.type) = some 220 := by kernel_rfl
theorem powCells : Tryd.prog.cellsOf 220 = 20 := by kernel_rfl
theorem u64Cells : Tryd.prog.cellsOf 198 = 1 := by kernel_rfl
theorem powData : (Rows.laid_internal_strconv_uint64pow10 : DataW Unit) = Lib.tabData .u64 Lib.pow10Tab := by kernel_rfl

theorem tab_of {W : World} (h : laidMetH Tryd.prog laid3 W) : Tab W := by
  obtain ⟨ps, ⟨_, _, _, _, _, _, _, _, _, _, ⟨_, _, _, _, _, _, _, _, _, _, ⟨g3, t3, cs3, fuel3, p3, q3, hg3, ht3, hvar3, hd3, _, _⟩, _⟩, _⟩, _⟩ := (show laidMet Tryd.prog laid3 W from h)
  obtain rfl := Option.some.inj (powGlobal.symm.trans hg3)
  obtain rfl := Option.some.inj (powType.symm.trans ht3)
  rw [powData] at hd3
  unfold Tab Lib.TabIs
  rw [hvar3, ← Lib.cells_of_tab Tryd.underlying220 Tryd.underlying198 u64Cells powCells hd3]

/-- a world for the witness: the settled one, the tables holding what their initialisers lay -/
def tabCells (k : IntKind) : List (DataW Unit) → List Value
  | .lit (.int _ z) :: r => .int k z :: tabCells k r
  | _ => []
def aggOf : DataW Unit → List (DataW Unit)
  | .agg l => l
  | _ => []
def putCells (cs : Array Value) : Obj → Obj
  | .cells _ t frozen => .cells cs t frozen
  | o => o
noncomputable def laidWorld (os : Os) : World :=
  { World.holding Tryd.prog os ⟨#[], #[], []⟩ with heap := (((World.holding Tryd.prog os ⟨#[], #[], []⟩).heap.modify 7 (putCells (tabCells .u8 (aggOf Rows.laid_math_bits_deBruijn32tab)).toArray)).modify 8 (putCells (tabCells .u8 (aggOf Rows.laid_math_bits_deBruijn64tab)).toArray)).modify 6 (putCells (tabCells .u64 (aggOf Rows.laid_internal_strconv_uint64pow10)).toArray) }

set_option maxRecDepth 100000 in
/-- from the walk at every argument, the table at hand, to the lifted row -/
theorem law_lifted_laid {H : Type} {enc : TypeId × Value → H} {os : Os} (started : os.Started) {F : Stop.Interp} {f : FuncId} {fn : Func} {s : ChangeSpec} {conds : List PathCond} {tb : TypeId}
    (noInit : Tryd.prog.inits.idxOf? f = none) (hfun : Tryd.prog.funcs[f]? = some fn)
    (hr : legible Tryd.prog fn.params.toList = true) (hty : fn.resultTypes = #[tb]) (htb : Tryd.prog.underlying tb = some .bool) (hvars : s.vars = [])
    (witness : ∃ (w : World) (tape : Tape) (i : Input), w.os = os ∧ (w.forCall tape i).Shaped Tryd.checked.prog ∧ i.vars = [] ∧ Input.okWide Tryd.checked.prog (w.forCall tape i) .any w.heap.size f i ∧
      (OpenSpec.ofChange s).preRow enc Tryd.checked.prog fn conds false laid3 (w.forCall tape i).memory i.args ∧ Assume.holds {} Tryd.checked.prog (lone (Frame.enter Tryd.checked.prog f i.args .normal) [] (w.forCall tape i)))
    (walk : ∀ (W : World) (base : Nat) (args : Array Value) (ds : List (DataW H)) (p : List MemPlace),
      (∀ (j : Nat) t v, fn.params[j]? = some t → args[j]? = some v → Value.okWide Tryd.prog W .any base t v) →
      DataW.TrodAll enc Tryd.prog W 0 (fun _ => true) true fn.params.toList args.toList ds p → (∀ x ∈ p, x.block < W.heap.size) → Tab W →
      s.fn H ds = { results := [.lit (.bool true)], args := ds } ∧ Calls Tryd.prog f args W fun e W' => e = .returned (.bool true) ∧ Below W.heap.size W W') :
    ReturnsInHanded {} Tryd.checked os f .any ((OpenSpec.ofChange s).preRow enc Tryd.prog fn conds false laid3) (((OpenSpec.ofChange s).at F).post enc Tryd.prog fn false true false false) := by
  refine returnsInHanded_of_row (C := Tryd.checked) (s := OpenSpec.ofChange s) Tryd.own started noInit hfun witness ?_
  intro W base args ds gs before hval hW0 _ _ _ hL _ _
  have hW : DataW.Whole enc Tryd.prog fn.params.toList s.vars false W args.toList ds gs before := hW0
  have hW' := hW
  obtain ⟨p, q, hA, hV, rfl, _, _⟩ := hW
  rw [hvars] at hV
  obtain ⟨rfl, rfl⟩ := trodVars_none hV
  obtain ⟨hfn, hc⟩ := walk W base args ds p hval hA (fun x hx => hW'.lt x (by simpa using hx)) (tab_of hL)
  refine hc.mono fun e W' ⟨he, hb⟩ => ?_
  subst he
  exact ⟨_, rfl, law_post Tryd.laidOut hr hty htb hvars hfn hW' hb⟩
end Go.Proofs.YthfkdofnoomhaaaDoor

namespace Go.Proofs.YthfkdofnoomhaaaDoor
open Go.RowKit

set_option maxHeartbeats 4000000 in
set_option maxRecDepth 100000 in
theorem lawTextDec_walk (a : ByteArray) (R0 : DI) (R1 : Bool) (w : World)
    (hS : ∀ (W : World), Calls Tryd.prog 21 #[.string a] W (PostDb R0 R1 W))
    (hI : ∀ (W : World), Tab W → Calls Tryd.prog 22 #[.string a] W (PostDb R0 R1 W))
    (ht0 : Tab w) (hla : a.size ≤ 1048576) (hlR0 : szD R0 ≤ 1048576)  :
    Calls Tryd.prog 5 #[.string a] w fun e w' => e = .returned (.bool true) ∧ Below w.heap.size w w' := by
  have HS := Lib.hid hS
  have HI := Lib.hid hI
  clear hS hI
  have HT0 := Lib.hid ht0
  clear ht0
  have hsR0 := szD_nonneg R0
  have bb0 : Below w.heap.size w w := Below.refl _ _
  go_enter Tryd.func5, Tryd.ntmps5
  go_upto_region 3 with fail
  go_cut [3, 4] (fun s t1 wx => NewLocV 33 (fun v => OwnD v R0) w s wx ∧ t1 = .bool R1)
  case first =>
    go_wp2_with fail
    refine (HS.out  _ ).mono ?_
    rintro e wf ⟨uf, Sf, rfl, of, lf, bf⟩
    obtain ⟨Af, cf, rfl⟩ := ownD_form of.here
    have bwf := bf
    go_wp2_with fail
    go_meet
    exact ⟨newLocV_last of lf (Nat.le_refl _) bwf, rfl⟩
  rename World => w1
  obtain ⟨⟨gw0, csw0, Sw0, rfl, kw0, ow0, nw0, lw0, b1⟩, rfl⟩ := hcut
  obtain ⟨Aw0, cw0, ew0⟩ := ownD_form ow0.here
  injection ew0 with ew0
  subst ew0
  have bb1 := Below.next bb0 b1
  go_upto_region 4 with fail
  go_cut [5, 6] (fun s t1 wx => NewLocV 33 (fun v => OwnD v R0) w1 s wx ∧ t1 = .bool R1)
  case first =>
    go_wp2_with fail
    refine (HI.out  _  (HT0.out.below bb1)).mono ?_
    rintro e wf ⟨uf, Sf, rfl, of, lf, bf⟩
    obtain ⟨Af, cf, rfl⟩ := ownD_form of.here
    go_wp2_with fail
    go_meet
    exact ⟨newLocV_last of lf (Nat.le_refl _) bf, rfl⟩
  rename World => w2
  obtain ⟨⟨gg0, csg0, Sg0, rfl, kg0, og0, ng0, lg0, b2⟩, rfl⟩ := hcut
  obtain ⟨Ag0, cg0, eg0⟩ := ownD_form og0.here
  injection eg0 with eg0
  subst eg0
  have bb2 := Below.next bb1 b2
  replace kw0 := kw0.below b2
  replace ow0 := ow0.below b2
  have kg0_c0 := kg0.here.cell 0 _ rfl
  have kg0_c1 := kg0.here.cell 1 _ rfl
  have kg0_c2 := kg0.here.cell 2 _ rfl
  have kw0_c0 := kw0.here.cell 0 _ rfl
  have kw0_c1 := kw0.here.cell 1 _ rfl
  have kw0_c2 := kw0.here.cell 2 _ rfl
  go_wp2_with fail
  clear kg0_c0 kg0_c1 kg0_c2 kw0_c0 kw0_c1 kw0_c2
  refine (eqD_cal _ _ R0 R0 _ (capD_of (by omega)) (OwnD.rd og0.here) (OwnD.rd ow0.here)).mono ?_
  rintro e w3 ⟨rfl, b3⟩
  rw [decide_refl]
  have bb3 := Below.next bb2 b3
  replace kw0 := kw0.below b3
  replace ow0 := ow0.below b3
  replace kg0 := kg0.below b3
  replace og0 := og0.below b3
  have z1 := b1.size
  have z2 := b2.size
  have z3 := b3.size
  have AP_w0_g0 := Lib.hid (Within.apart lw0 lg0 (.inl (by omega)))
  have F_g0 := Lib.hid (Within.from (B := w.heap.size) lg0 (by have := bb0.size; omega))
  have N_g0 := Lib.hid ng0
  clear z1 z2 z3
  have kg0_c0 := kg0.here.cell 0 _ rfl
  have kg0_c1 := kg0.here.cell 1 _ rfl
  have kg0_c2 := kg0.here.cell 2 _ rfl
  go_wp2_with fail
  clear kg0_c0 kg0_c1 kg0_c2
  refine (markD_cal _ R0 _ (1) _ (by omega) (by omega) og0).mono ?_
  rintro e w4 ⟨rfl, mkg0, c4⟩
  clear og0
  have bb4 := below_chg bb3 c4 bb3.size (fun i hi => F_g0.out i (List.mem_cons_of_mem _ hi))
  replace kw0 := kw0.chg c4 (fun i hi hm => AP_w0_g0.out i (by simp at hi; subst hi; exact List.mem_cons_self ..) (List.mem_cons_of_mem _ hm))
  replace ow0 := ow0.chg c4 (fun i hi hm => AP_w0_g0.out i (List.mem_cons_of_mem _ hi) (List.mem_cons_of_mem _ hm))
  replace kg0 := kg0.chg c4 (fun i hi hm => by simp at hi; subst hi; exact N_g0.out hm)
  have kg0_c0 := kg0.here.cell 0 _ rfl
  have kg0_c1 := kg0.here.cell 1 _ rfl
  have kg0_c2 := kg0.here.cell 2 _ rfl
  go_wp2_with fail
  clear kg0_c0 kg0_c1 kg0_c2
  refine (heldD_cal _ R0 (1) _ (by omega) (by omega) mkg0.here).mono ?_
  rintro e w5 ⟨rfl, b5⟩
  have bb5 := Below.next bb4 b5
  replace kw0 := kw0.below b5
  replace ow0 := ow0.below b5
  replace kg0 := kg0.below b5
  replace mkg0 := mkg0.below b5
  have hq5 : decide ((1 : Int) + szD R0 < 0) = false := decide_eq_false (by omega)
  go_upto_region 15 with fail
  go_cut [9, 10] (fun s t1 wx => NewLocV 33 (fun v => OwnD v R0) w5 s wx ∧ t1 = .bool R1)
  case first =>
    go_wp2_with fail
    refine (HI.out  _  (HT0.out.below bb5)).mono ?_
    rintro e wf ⟨uf, Sf, rfl, of, lf, bf⟩
    obtain ⟨Af, cf, rfl⟩ := ownD_form of.here
    have bwf := bf
    go_wp2_with fail
    go_meet
    exact ⟨newLocV_last of lf (Nat.le_refl _) bwf, rfl⟩
  rename World => w6
  obtain ⟨⟨gh0, csh0, Sh0, rfl, kh0, oh0, nh0, lh0, b6⟩, rfl⟩ := hcut
  obtain ⟨Ah0, ch0, eh0⟩ := ownD_form oh0.here
  injection eh0 with eh0
  subst eh0
  have bb6 := Below.next bb5 b6
  replace kw0 := kw0.below b6
  replace ow0 := ow0.below b6
  replace kg0 := kg0.below b6
  replace mkg0 := mkg0.below b6
  have kh0_c0 := kh0.here.cell 0 _ rfl
  have kh0_c1 := kh0.here.cell 1 _ rfl
  have kh0_c2 := kh0.here.cell 2 _ rfl
  have kw0_c0 := kw0.here.cell 0 _ rfl
  have kw0_c1 := kw0.here.cell 1 _ rfl
  have kw0_c2 := kw0.here.cell 2 _ rfl
  go_wp2_with fail
  clear kh0_c0 kh0_c1 kh0_c2 kw0_c0 kw0_c1 kw0_c2
  refine (eqD_cal _ _ R0 R0 _ (capD_of (by omega)) (OwnD.rd oh0.here) (OwnD.rd ow0.here)).mono ?_
  rintro e w7 ⟨rfl, b7⟩
  rw [decide_refl]
  have bb7 := Below.next bb6 b7
  replace kw0 := kw0.below b7
  replace ow0 := ow0.below b7
  replace kg0 := kg0.below b7
  replace mkg0 := mkg0.below b7
  replace kh0 := kh0.below b7
  replace oh0 := oh0.below b7
  have kg0_c0 := kg0.here.cell 0 _ rfl
  have kg0_c1 := kg0.here.cell 1 _ rfl
  have kg0_c2 := kg0.here.cell 2 _ rfl
  go_wp2_with fail
  clear kg0_c0 kg0_c1 kg0_c2
  refine (heldD_cal _ R0 (1) _ (by omega) (by omega) mkg0.here).mono ?_
  rintro e w8 ⟨rfl, b8⟩
  have bb8 := Below.next bb7 b8
  replace kw0 := kw0.below b8
  replace ow0 := ow0.below b8
  replace kg0 := kg0.below b8
  replace mkg0 := mkg0.below b8
  replace kh0 := kh0.below b8
  replace oh0 := oh0.below b8
  have hq8 : decide ((1 : Int) + szD R0 < 0) = false := decide_eq_false (by omega)
  go_wp2
  go_ret
  exact ⟨rfl, bb8⟩
end Go.Proofs.YthfkdofnoomhaaaDoor

namespace Go.Proofs.YthfkdofnoomhaaaDoor
open Go.RowKit

/-- what a call answers: two new signed numbers (and an int) -/
def PostSS (X Y : SI) (w : World) (e : Ending) (w' : World) : Prop :=
  ∃ (u v : Value) (S T : List Nat), e = .returned (.tuple #[u, v]) ∧ At S (OwnS u X) w' ∧ At T (OwnS v Y) w' ∧ Within S w.heap.size w'.heap.size ∧ Within T w.heap.size w'.heap.size ∧ Below w.heap.size w w'
def PostSSn (X Y : SI) (n : Int) (w : World) (e : Ending) (w' : World) : Prop :=
  ∃ (u v : Value) (S T : List Nat), e = .returned (.tuple #[u, v, .int .i64 n]) ∧ At S (OwnS u X) w' ∧ At T (OwnS v Y) w' ∧ Within S w.heap.size w'.heap.size ∧ Within T w.heap.size w'.heap.size ∧ Below w.heap.size w w'
theorem postSSn_chg {S T R : List Nat} {u v : Value} {X Y : SI} {n : Int} {w W : World} (o : At S (OwnS u X) W) (q : At T (OwnS v Y) W) (hS : ∀ i ∈ S, i ∉ R) (hT : ∀ i ∈ T, i ∉ R) (hR : ∀ i ∈ R, w.heap.size ≤ i) (lS : ∀ i ∈ S, w.heap.size ≤ i) (lT : ∀ i ∈ T, w.heap.size ≤ i) (hW : Below w.heap.size w W) :
    ∀ W', Chg R W W' → PostSSn X Y n w (.returned (.tuple #[u, v, .int .i64 n])) W' :=
  fun _ hc => ⟨u, v, S, T, rfl, o.chg hc hS, q.chg hc hT, fun i hi => ⟨lS i hi, Nat.lt_of_lt_of_le (o.lt i hi) hc.size⟩, fun i hi => ⟨lT i hi, Nat.lt_of_lt_of_le (q.lt i hi) hc.size⟩, below_chg hW hc hW.size hR⟩
theorem postSS_chg {S T R : List Nat} {u v : Value} {X Y : SI} {w W : World} (o : At S (OwnS u X) W) (q : At T (OwnS v Y) W) (hS : ∀ i ∈ S, i ∉ R) (hT : ∀ i ∈ T, i ∉ R) (hR : ∀ i ∈ R, w.heap.size ≤ i) (lS : ∀ i ∈ S, w.heap.size ≤ i) (lT : ∀ i ∈ T, w.heap.size ≤ i) (hW : Below w.heap.size w W) :
    ∀ W', Chg R W W' → PostSS X Y w (.returned (.tuple #[u, v])) W' :=
  fun _ hc => ⟨u, v, S, T, rfl, o.chg hc hS, q.chg hc hT, fun i hi => ⟨lS i hi, Nat.lt_of_lt_of_le (o.lt i hi) hc.size⟩, fun i hi => ⟨lT i hi, Nat.lt_of_lt_of_le (q.lt i hi) hc.size⟩, below_chg hW hc hW.size hR⟩
theorem newVS_eqD {x y : SI} (h : x = y) {w w' : World} {e : Ending} (k : NewV (fun v => OwnS v x) w e w') : NewV (fun v => OwnS v y) w e w' := h ▸ k
theorem newS_is {x y : SI} (h : x = y) {w w' : World} {e : Ending} (k : NewS x w e w') : NewV (fun v => OwnS v y) w e w' := by subst h; exact k.newV
/-- a number at the greater scale -/
def upS (a : DI) (s : Int) : SI := mulS a.1 (tenS (s - a.2))
theorem upS_len (a : DI) (s : Int) : (upS a s).2.length ≤ 50 := by unfold upS mulS; split; exact ofZ_len _; decide
theorem tenS_len (k : Int) : (tenS k).2.length ≤ 1048576 := by have := tenN_len k; show (tenN k).length ≤ _; omega
theorem topD_max (a b : DI) : max a.2 b.2 = topD a b := by unfold topD; split <;> omega
theorem topD_lt {a b : DI} (h : a.2 < b.2) : topD a b = b.2 := if_pos h
theorem topD_ge {a b : DI} (h : ¬ a.2 < b.2) : topD a b = a.2 := if_neg h
end Go.Proofs.YthfkdofnoomhaaaDoor

namespace Go.Proofs.YthfkdofnoomhaaaDoor
open Go.RowKit

theorem raw_step (l : List UInt8) (k : Nat) (h : k < l.length) : rawL (l.take (k + 1)) = rawL (l.take k) ++ (if l[k] != 46 && l[k] != 45 then [l[k]] else []) := by
  rw [List.take_succ_eq_append_getElem h, raw_app]
  congr 1
  unfold rawL
  rw [List.filter_cons]
  rfl
theorem at_list (s : ByteArray) (k : Nat) (h : k < s.size) : s.data.toList[k]'h = s[k] := Array.getElem_toList ..
theorem eq_nat {c : UInt8} {n : Nat} (hn : n < 256) (h : c.toNat = n) : c = UInt8.ofNat n := UInt8.toNat_inj.1 (by rw [h, UInt8.toNat_ofNat']; omega)
theorem raw_skip (s : ByteArray) (k : Nat) (h : k < s.size) (hc : s[k].toNat = 46 ∨ s[k].toNat = 45) : rawL (s.data.toList.take (k + 1)) = rawL (s.data.toList.take k) := by
  rw [raw_step _ k h, at_list]
  rcases hc with hc | hc
  · rw [show s[k] = 46 from eq_nat (by decide) hc]; exact List.append_nil _
  · rw [show s[k] = 45 from eq_nat (by decide) hc]; exact List.append_nil _
theorem raw_more (s : ByteArray) (k : Nat) (h : k < s.size) (h1 : ¬ s[k].toNat = 46) (h2 : ¬ s[k].toNat = 45) {G : ByteArray} (hG : G.data.toList = rawL (s.data.toList.take k)) : (G ++ s.extract k (k + 1)).data.toList = rawL (s.data.toList.take (k + 1)) := by
  have hk : k < s.data.toList.length := h
  have e : (s.extract k (k + 1)).data.toList = [s[k]] := by
    rw [extract_listD, List.take_succ_eq_append_getElem hk, List.drop_append_of_le_length (by rw [List.length_take]; omega), List.drop_of_length_le (by rw [List.length_take]; omega), at_list]
    rfl
  rw [ByteArray.data_append, Array.toList_append, hG, e, raw_step _ k h, at_list]
  have b1 : (s[k] != 46) = true := by rw [bne_iff_ne]; intro e; exact h1 (by rw [e]; rfl)
  have b2 : (s[k] != 45) = true := by rw [bne_iff_ne]; intro e; exact h2 (by rw [e]; rfl)
  rw [b1, b2]
  rfl
theorem scale_dot (s : ByteArray) (k : Nat) (h : k < s.size) (hc : s[k].toNat = 46) : scaleF s.data.toList (k + 1) = (s.size : Int) - 1 - k := by
  have e : s.data.toList.getD k 0 = 46 := getD_of (by rw [List.getElem?_eq_getElem h, at_list]; exact congrArg some (eq_nat (by decide) hc))
  exact scale_hit e
theorem scale_keep (s : ByteArray) (k : Nat) (h : k < s.size) (hc : ¬ s[k].toNat = 46) : scaleF s.data.toList (k + 1) = scaleF s.data.toList k := by
  have e : s.data.toList.getD k 0 = s[k] := getD_of (by rw [List.getElem?_eq_getElem h, at_list])
  show (if s.data.toList.getD k 0 = 46 then _ else _) = _
  rw [e, if_neg]
  intro e2
  exact hc (by rw [e2]; rfl)
theorem scale_bound (l : List UInt8) : ∀ k, k ≤ l.length → 0 ≤ scaleF l k ∧ scaleF l k ≤ l.length
  | 0, _ => ⟨Int.le_refl _, by show (0 : Int) ≤ _; omega⟩
  | k + 1, h => by
    show 0 ≤ (if l.getD k 0 = 46 then _ else _) ∧ (if l.getD k 0 = 46 then _ else _) ≤ _
    split
    · omega
    · exact scale_bound l k (by omega)
theorem two_cons (G : ByteArray) (h1 : 1 < G.size) : ∃ c e r, G.data.toList = c :: e :: r ∧ G[0] = c := by
  have h := listB_len G
  have e0 := at_list G 0 (by omega)
  cases hl : G.data.toList with
  | nil => rw [hl] at h; simp at h; omega
  | cons c r =>
    cases r with
    | nil => rw [hl] at h; simp at h; omega
    | cons e r =>
      refine ⟨c, e, r, rfl, ?_⟩
      rw [← e0]
      simp [hl]
theorem strip_step (G : ByteArray) (h1 : 1 < G.size) (h48 : G[0].toNat = 48) : stripL (G.extract 1 G.size).data.toList = stripL G.data.toList := by
  obtain ⟨c, e, r, hl, h0⟩ := two_cons G h1
  rw [extract_listD, List.take_of_length_le (Nat.le_of_eq (listB_len G)), hl]
  have hc : c = 48 := by rw [← h0]; exact eq_nat (by decide) h48
  rw [hc]
  rfl
theorem strip_stay (G : ByteArray) (h1 : 1 < G.size) (h48 : ¬ G[0].toNat = 48) : stripL G.data.toList = G.data.toList := by
  obtain ⟨c, e, r, hl, h0⟩ := two_cons G h1
  rw [hl]
  show (if c = 48 then _ else _) = _
  rw [if_neg]
  intro hc
  exact h48 (by rw [h0, hc]; rfl)
theorem strip_short (G : ByteArray) (h1 : ¬ 1 < G.size) : stripL G.data.toList = G.data.toList := by
  have h := listB_len G
  cases hl : G.data.toList with
  | nil => rfl
  | cons c r =>
    cases r with
    | nil => rfl
    | cons e r => rw [hl] at h; simp at h; omega
theorem raw_end {s G : ByteArray} (h : stripL G.data.toList = G.data.toList) (e : stripL G.data.toList = stripL (rawL s.data.toList)) : G = rawB s := listB (by rw [← h, e]; rfl)
theorem head_no {s : ByteArray} (h : ¬ 0 < s.size) : decide (s.data.toList.headD 0 = 45) = false := by
  have hl := listB_len s
  cases he : s.data.toList with
  | nil => rfl
  | cons c r => rw [he] at hl; simp at hl; omega
theorem head_yes {s : ByteArray} (h : 0 < s.size) : decide (s.data.toList.headD 0 = 45) = ((s[0].toNat : Int) == 45) := by
  rw [head_get s h]
  by_cases e : s[0].toNat = 45
  · rw [decide_eq_true (show s[0] = 45 from eq_nat (by decide) e)]
    exact (beq_iff_eq.2 (by omega)).symm
  · rw [decide_eq_false (fun h => e (by rw [h]; rfl))]
    exact (beq_eq_false_iff_ne.2 (by omega)).symm
/-- the answer by what the two readings say -/
theorem trD_bad1 {s : ByteArray} (h : decOk (rawB s) = false) : trD s = (zeroD, false) := by unfold trD readD; rw [h]; rfl
theorem trD_bad2 {s : ByteArray} (h : okD (parseD s) = false) : trD s = (zeroD, false) := by
  unfold trD
  rw [if_neg]
  unfold readD
  rw [h, Bool.false_and, Bool.and_false]
  decide
theorem trD_bad3 {s : ByteArray} (h : ¬ textD (parseD s) = s) : trD s = (zeroD, false) := by
  unfold trD
  rw [if_neg]
  unfold readD
  rw [decide_eq_false h, Bool.and_false, Bool.and_false]
  decide
theorem trD_good {s : ByteArray} (h1 : decOk (rawB s) = true) (h2 : okD (parseD s) = true) (h3 : textD (parseD s) = s) : trD s = (parseD s, true) := by
  unfold trD
  rw [if_pos]
  unfold readD
  rw [h1, h2, decide_eq_true h3]
  rfl
set_option maxHeartbeats 4000000 in
set_option maxRecDepth 100000 in
theorem specTextDec_any (s : ByteArray) (w : World) (hs : s.size ≤ 1048576) :
    Calls Tryd.prog 21 #[.string s] w (PostDb (trD s).1 (trD s).2 w) := by
  have bb0 : Below w.heap.size w (w.alloc (.cells #[.bool false, .slice none 0 0, .int .i64 0] 33)) := below_al (Below.refl _ _) _
  have ko := (box_new w #[.bool false, .slice none 0 0, .int .i64 0] 33)
  obtain ⟨P, hP⟩ : ∃ P, trD s = P := ⟨_, rfl⟩
  have EP := Lib.hid hP
  rw [hP]
  clear hP
  obtain ⟨W0, hW0⟩ : ∃ W0, W0 = (w.alloc (.cells #[.bool false, .slice none 0 0, .int .i64 0] 33)) := ⟨_, rfl⟩
  rw [← hW0] at bb0 ko 
  have HW0 := Lib.hid hW0
  clear hW0
  go_enter Tryd.func21, Tryd.ntmps21
  go_wp2_with fail
  rw [← HW0.out]
  go_loopw [4, 5, 6] (fun g c i wx => ∃ (k : Nat) (G : ByteArray), k ≤ s.size ∧ G.size ≤ k ∧ i = .int .i64 k ∧ g = .string G ∧ c = .int .i64 (scaleF s.data.toList k) ∧ Hid (G.data.toList = rawL (s.data.toList.take k)) ∧ At [w.heap.size] (BoxAt w.heap.size #[.bool false, .slice none 0 0, .int .i64 0] 33) wx ∧ Below w.heap.size w wx) (fun _ _ i _ => s.size - (intOf i).toNat)
  case atStart => exact ⟨0, ⟨#[]⟩, Nat.zero_le _, Nat.le_refl _, rfl, rfl, rfl, Lib.hid rfl, ko, bb0⟩
  case round =>
    clear ko bb0
    obtain ⟨k, G, hk, hGk, rfl, rfl, rfl, HG, ko, bbr⟩ := hrel
    by_cases hlt : k < s.size
    · by_cases h46 : s[k].toNat = 46
      · have HR := Lib.hid (raw_skip s k hlt (.inl h46))
        have HS := Lib.hid (scale_dot s k hlt h46)
        have b46 : ((s[k].toNat : Int) == 46) = true := by rw [beq_iff_eq]; omega
        clear h46
        go_wp2
        go_roundw
        case rel => exact ⟨k + 1, G, by omega, by omega, by go_num, rfl, by (rw [HS.out]; try go_num), Lib.hid (HG.out.trans HR.out.symm), ko, bbr⟩
        case measure => simp [intOf]; omega
      · have HS := Lib.hid (scale_keep s k hlt h46)
        have b46 : ((s[k].toNat : Int) == 46) = false := by rw [beq_eq_false_iff_ne]; omega
        by_cases h45 : s[k].toNat = 45
        · have HR := Lib.hid (raw_skip s k hlt (.inr h45))
          have b45 : ((s[k].toNat : Int) == 45) = true := by rw [beq_iff_eq]; omega
          have b45n : ((s[k].toNat : Int) != 45) = false := by rw [bne, b45]; rfl
          clear h45 h46
          go_wp2
          go_roundw
          case rel => exact ⟨k + 1, G, by omega, by omega, by go_num, rfl, by rw [HS.out], Lib.hid (HG.out.trans HR.out.symm), ko, bbr⟩
          case measure => simp [intOf]; omega
        · have HR := Lib.hid (raw_more s k hlt h46 h45 HG.out)
          have b45 : ((s[k].toNat : Int) == 45) = false := by rw [beq_eq_false_iff_ne]; omega
          have b45n : ((s[k].toNat : Int) != 45) = true := by rw [bne, b45]; rfl
          clear h45 h46
          have h1s : (s.extract k (k + 1)).size = 1 := by rw [ByteArray.size_extract]; omega
          have hq1 : ¬ (9223372036854775807 < G.size + (s.extract k (k + 1)).size) := by omega
          have c0 : (0 : Int) ≤ (k : Int) := by omega
          have c1 : (k : Int) ≤ (k : Int) + 1 := by omega
          have c2 : (k : Int) + 1 ≤ (s.size : Int) := by omega
          go_wp2
          go_roundw
          case rel => exact ⟨k + 1, _, by omega, by rw [ByteArray.size_append]; omega, by go_num, rfl, by rw [HS.out], Lib.hid HR.out, ko, bbr⟩
          case measure => simp [intOf]; omega
    · obtain rfl : k = s.size := by omega
      have HG2 := Lib.hid (show stripL G.data.toList = stripL (rawL s.data.toList) by rw [HG.out, take_full])
      clear HG
      have hsc := scale_bound s.data.toList s.size (Nat.le_refl _)
      have hs1 := hsc.1
      have hs2 := hsc.2
      clear hsc
      rw [listB_len] at hs2
      obtain ⟨K, hK⟩ : ∃ K, scaleF s.data.toList s.size = K := ⟨_, rfl⟩
      have EK := Lib.hid hK
      rw [hK] at hs1 hs2 ⊢
      clear hK hlt hk
      go_wp2
      go_loopw [4] (fun g wx => ∃ G : ByteArray, G.size ≤ s.size ∧ g = .string G ∧ Hid (stripL G.data.toList = stripL (rawL s.data.toList)) ∧ At [w.heap.size] (BoxAt w.heap.size #[.bool false, .slice none 0 0, .int .i64 0] 33) wx ∧ Below w.heap.size w wx) (fun g _ => strSize g)
      case atStart => exact ⟨G, hGk, rfl, HG2, ko, bbr⟩
      case round =>
        clear ko bbr HG2 hGk
        obtain ⟨G, hGk, rfl, HG, ko, bbr⟩ := hrel
        by_cases h1 : 1 < G.size
        · have h1i : (1 : Int) < (G.size : Int) := by omega
          by_cases h48 : G[0].toNat = 48
          · have b48 : ((G[0].toNat : Int) == 48) = true := by rw [beq_iff_eq]; omega
            have HS := Lib.hid (strip_step G h1 h48)
            clear h48
            have hxs : (G.extract 1 G.size).size = G.size - 1 := by rw [ByteArray.size_extract]; omega
            go_wp2
            go_roundw
            case rel => exact ⟨_, by rw [hxs]; omega, rfl, Lib.hid (HS.out.trans HG.out), ko, bbr⟩
            case measure => simp only [strSize, hxs]; omega
          · have b48 : ((G[0].toNat : Int) == 48) = false := by rw [beq_eq_false_iff_ne]; omega
            have hG := raw_end (strip_stay G h1 h48) HG.out
            clear h48
            have HGE := Lib.hid hG
            clear hG HG
            have HK := Lib.hid (ko.lt w.heap.size (by simp))
            obtain ⟨N, hN⟩ : ∃ N, decide (s.data.toList.headD 0 = 45) = N := ⟨_, rfl⟩
            obtain ⟨xs, hxs⟩ : ∃ xs, tnR G = xs := ⟨_, rfl⟩
            obtain ⟨oky, hoky⟩ : ∃ o, decOk G = o := ⟨_, rfl⟩
            have hxl : xs.length ≤ 1048576 := by rw [← hxs]; have := tnR_len G; omega
            have HX := Lib.hid (show parseD s = ((N, xs), K) by rw [← hN, ← hxs, HGE.out, ← EK.out]; rfl)
            have HB1 := Lib.hid (fun h : oky = false => (show P = (zeroD, false) by rw [← EP.out]; exact trD_bad1 (by rw [← HGE.out, hoky]; exact h)))
            have HB2 := Lib.hid (fun h : okD ((N, xs), K) = false => (show P = (zeroD, false) by rw [← EP.out]; exact trD_bad2 (by rw [HX.out]; exact h)))
            have HB3 := Lib.hid (fun h : ¬ textD ((N, xs), K) = s => (show P = (zeroD, false) by rw [← EP.out]; exact trD_bad3 (by rw [HX.out]; exact h)))
            have HGD := Lib.hid (fun (h1 : oky = true) (h2 : okD ((N, xs), K) = true) (h3 : textD ((N, xs), K) = s) => (show P = (((N, xs), K), true) by rw [← EP.out, ← HX.out]; exact trD_good (by rw [← HGE.out, hoky]; exact h1) (by rw [HX.out]; exact h2) (by rw [HX.out]; exact h3)))
            have ET0 := Lib.hid hxs
            have ET1 := Lib.hid hoky
            have HNN := Lib.hid hN
            clear hN hxs hoky
            go_wp2_with fail
            refine (((specTextNat_any G _ (by omega)).mono fun _ _ h => h.new)).mono ?_
            rintro e w1 ⟨vq, rfl, oq0, b1⟩
            rw [ET0.out] at oq0
            rw [ET1.out]
            obtain ⟨Aq, cq, rfl⟩ := own_len oq0
            have oq := own_at' oq0
            have lq := own_within oq0
            clear oq0
            have bb1 := Below.next bbr b1
            replace ko := ko.below b1
            have os := oq.imp (fun _ h => (OwnS.mk (x := (N, xs)) h : OwnS (.agg #[.bool N, .slice Aq xs.length cq]) (N, xs) _))
            clear oq
            by_cases h0 : 0 < s.size
            · have h0i : (0 : Int) < (s.size : Int) := by omega
              have hn : ((s[0].toNat : Int) == 45) = N := (head_yes h0).symm.trans HNN.out
              by_cases ok : okD ((N, xs), K) = true
              · have EV := Lib.hid (show decD (N, xs) K = (((N, xs), K), true) by unfold decD; rw [if_pos ok])
                have HO := Lib.hid ok
                clear ok
                go_wp2_with fail
                go_wp2_with fail
                refine ((l07Dec_any _ (N, xs) K _ _ hxl os).mono fun _ _ h => keptD_eq EV.out h).mono ?_
                rintro e w2 ⟨uf, Sf, rfl, of, sf, b2⟩
                obtain ⟨Af, cf, rfl⟩ := ownD_form of.here
                have bb2 := Below.next bb1 b2
                replace ko := ko.below b2
                replace os := os.below b2
                have lf : ∀ i ∈ Sf, w.heap.size < i := fun i hi => by have h1 := lq i (sf i hi); have h2 := HK.out; have h3 := h1.1; omega
                clear os
                obtain ⟨Y, hY⟩ : ∃ Y : DI, (((N, xs), K) : DI) = Y := ⟨_, rfl⟩
                have EY := Lib.hid hY
                rw [hY] at of ⊢
                clear hY
                have kd := box_new (w2) #[.bool Y.1.1, .slice Af Y.1.2.length cf, .int .i64 Y.2] 33
                have ald := below_al (Below.refl (w2).heap.size (w2)) (.cells #[.bool Y.1.1, .slice Af Y.1.2.length cf, .int .i64 Y.2] 33)
                have bbd := Below.next bb2 ald
                replace ko := ko.below ald
                replace of := of.below ald
                cases oky with
                | false =>
                  have HV0 := Lib.hid (HB1.out rfl)
                  clear kd of
                  have cz0 := ko.here.cell 0 _ rfl
                  have fz0 := Lib.frozen_of_heap ko.here 0
                  have cz1 := ko.here.cell 1 _ rfl
                  have fz1 := Lib.frozen_of_heap ko.here 1
                  have cz2 := ko.here.cell 2 _ rfl
                  have fz2 := Lib.frozen_of_heap ko.here 2
                  go_wp2
                  refine bodyPost_ret (v := .tuple #[.agg #[.bool false, .slice none 0 0, .int .i64 0], .bool false]) (by simp [results, Tryd.results21, go_sem, cz0, cz1, cz2]) rfl ?_
                  rw [HV0.out]
                  first | exact newDb_zero _ bbd | exact newDb_zero _ (below_set3 bbd (by omega))
                | true =>
                  obtain ⟨T, hT⟩ : ∃ T, textD Y = T := ⟨_, rfl⟩
                  have ET := Lib.hid hT
                  have hX1 : Y.1.2.length ≤ 1048576 := by rw [← EY.out]; exact hxl
                  clear hT
                  have kd_c0 := kd.here.cell 0 _ rfl
                  have kd_c1 := kd.here.cell 1 _ rfl
                  have kd_c2 := kd.here.cell 2 _ rfl
                  go_wp2_with fail
                  clear kd_c0 kd_c1 kd_c2
                  refine ((specDecText_any _ Y _ hX1 of.here).mono fun _ _ h => postT_isD ET.out h).mono ?_
                  rintro e w3 ⟨rfl, b3⟩
                  have bb3 := Below.next bbd b3
                  replace ko := ko.below b3
                  replace of := of.below b3
                  replace kd := kd.below b3
                  by_cases hx : T = s
                  · have HV := Lib.hid (show P = (Y, true) by rw [← EY.out]; exact HGD.out (by simp) HO.out (by rw [EY.out, ET.out]; exact hx))
                    have hse := bytes_eqP hx
                    clear hx
                    have HW := Lib.hid (postDb_chg (b := true) (T := [w.heap.size]) of (fun i hi hm => by have := lf i hi; simp at hm; omega) (fun i hi => by simp at hi; omega) (fun i hi => by have := lf i hi; omega) bb3)
                    have kd_c0 := kd.here.cell 0 _ rfl
                    have kd_c1 := kd.here.cell 1 _ rfl
                    have kd_c2 := kd.here.cell 2 _ rfl
                    have cz0 := ko.here.cell 0 _ rfl
                    have fz0 := Lib.frozen_of_heap ko.here 0
                    have cz1 := ko.here.cell 1 _ rfl
                    have fz1 := Lib.frozen_of_heap ko.here 1
                    have cz2 := ko.here.cell 2 _ rfl
                    have fz2 := Lib.frozen_of_heap ko.here 2
                    clear of kd ko
                    go_wp2
                    refine bodyPost_ret (v := .tuple #[.agg #[.bool Y.1.1, .slice Af Y.1.2.length cf, .int .i64 Y.2], .bool true]) (by simp [results, Tryd.results21, go_sem, cz0, cz1, cz2]) rfl ?_
                    rw [HV.out]
                    refine HW.out _ ?_
                    repeat (first | exact Chg.refl _ _ | refine Chg.setCell ?_ (by simp) _)
                  · have HV := Lib.hid (HB3.out (by rw [EY.out, ET.out]; exact hx))
                    have hse := bytes_neP hx
                    clear hx of kd
                    have cz0 := ko.here.cell 0 _ rfl
                    have fz0 := Lib.frozen_of_heap ko.here 0
                    have cz1 := ko.here.cell 1 _ rfl
                    have fz1 := Lib.frozen_of_heap ko.here 1
                    have cz2 := ko.here.cell 2 _ rfl
                    have fz2 := Lib.frozen_of_heap ko.here 2
                    go_wp2
                    refine bodyPost_ret (v := .tuple #[.agg #[.bool false, .slice none 0 0, .int .i64 0], .bool false]) (by simp [results, Tryd.results21, go_sem, cz0, cz1, cz2]) rfl ?_
                    rw [HV.out]
                    first | exact newDb_zero _ bb3 | exact newDb_zero _ (below_set3 bb3 (by omega))
              · have EV := Lib.hid (show decD (N, xs) K = (zeroD, false) by unfold decD; rw [if_neg ok])
                have HV := Lib.hid (HB2.out (by simpa using ok))
                clear ok
                go_wp2_with fail
                go_wp2_with fail
                refine ((l07Dec_any _ (N, xs) K _ _ hxl os).mono fun _ _ h => keptD_eq EV.out h).mono ?_
                rintro e w2 ⟨uf, Sf, rfl, of, sf, b2⟩
                obtain ⟨Af, cf, rfl⟩ := ownD_form of.here
                have bb2 := Below.next bb1 b2
                replace ko := ko.below b2
                replace os := os.below b2
                have lf : ∀ i ∈ Sf, w.heap.size < i := fun i hi => by have h1 := lq i (sf i hi); have h2 := HK.out; have h3 := h1.1; omega
                clear os
                obtain ⟨Y, hY⟩ : ∃ Y : DI, (zeroD : DI) = Y := ⟨_, rfl⟩
                have EY := Lib.hid hY
                rw [hY] at of ⊢
                clear hY
                have kd := box_new (w2) #[.bool Y.1.1, .slice Af Y.1.2.length cf, .int .i64 Y.2] 33
                have ald := below_al (Below.refl (w2).heap.size (w2)) (.cells #[.bool Y.1.1, .slice Af Y.1.2.length cf, .int .i64 Y.2] 33)
                have bbd := Below.next bb2 ald
                replace ko := ko.below ald
                replace of := of.below ald
                cases oky with
                | false =>
                  have HV0 := Lib.hid (HB1.out rfl)
                  clear kd of
                  have cz0 := ko.here.cell 0 _ rfl
                  have fz0 := Lib.frozen_of_heap ko.here 0
                  have cz1 := ko.here.cell 1 _ rfl
                  have fz1 := Lib.frozen_of_heap ko.here 1
                  have cz2 := ko.here.cell 2 _ rfl
                  have fz2 := Lib.frozen_of_heap ko.here 2
                  go_wp2
                  refine bodyPost_ret (v := .tuple #[.agg #[.bool false, .slice none 0 0, .int .i64 0], .bool false]) (by simp [results, Tryd.results21, go_sem, cz0, cz1, cz2]) rfl ?_
                  rw [HV0.out]
                  first | exact newDb_zero _ bbd | exact newDb_zero _ (below_set3 bbd (by omega))
                | true =>
                  clear kd of
                  have cz0 := ko.here.cell 0 _ rfl
                  have fz0 := Lib.frozen_of_heap ko.here 0
                  have cz1 := ko.here.cell 1 _ rfl
                  have fz1 := Lib.frozen_of_heap ko.here 1
                  have cz2 := ko.here.cell 2 _ rfl
                  have fz2 := Lib.frozen_of_heap ko.here 2
                  go_wp2
                  refine bodyPost_ret (v := .tuple #[.agg #[.bool false, .slice none 0 0, .int .i64 0], .bool false]) (by simp [results, Tryd.results21, go_sem, cz0, cz1, cz2]) rfl ?_
                  rw [HV.out]
                  first | exact newDb_zero _ bbd | exact newDb_zero _ (below_set3 bbd (by omega))
            · exfalso; omega
        · have h1i : ¬ (1 : Int) < (G.size : Int) := by omega
          have hG := raw_end (strip_short G h1) HG.out
          have HGE := Lib.hid hG
          clear hG HG
          have HK := Lib.hid (ko.lt w.heap.size (by simp))
          obtain ⟨N, hN⟩ : ∃ N, decide (s.data.toList.headD 0 = 45) = N := ⟨_, rfl⟩
          obtain ⟨xs, hxs⟩ : ∃ xs, tnR G = xs := ⟨_, rfl⟩
          obtain ⟨oky, hoky⟩ : ∃ o, decOk G = o := ⟨_, rfl⟩
          have hxl : xs.length ≤ 1048576 := by rw [← hxs]; have := tnR_len G; omega
          have HX := Lib.hid (show parseD s = ((N, xs), K) by rw [← hN, ← hxs, HGE.out, ← EK.out]; rfl)
          have HB1 := Lib.hid (fun h : oky = false => (show P = (zeroD, false) by rw [← EP.out]; exact trD_bad1 (by rw [← HGE.out, hoky]; exact h)))
          have HB2 := Lib.hid (fun h : okD ((N, xs), K) = false => (show P = (zeroD, false) by rw [← EP.out]; exact trD_bad2 (by rw [HX.out]; exact h)))
          have HB3 := Lib.hid (fun h : ¬ textD ((N, xs), K) = s => (show P = (zeroD, false) by rw [← EP.out]; exact trD_bad3 (by rw [HX.out]; exact h)))
          have HGD := Lib.hid (fun (h1 : oky = true) (h2 : okD ((N, xs), K) = true) (h3 : textD ((N, xs), K) = s) => (show P = (((N, xs), K), true) by rw [← EP.out, ← HX.out]; exact trD_good (by rw [← HGE.out, hoky]; exact h1) (by rw [HX.out]; exact h2) (by rw [HX.out]; exact h3)))
          have ET0 := Lib.hid hxs
          have ET1 := Lib.hid hoky
          have HNN := Lib.hid hN
          clear hN hxs hoky
          go_wp2_with fail
          refine (((specTextNat_any G _ (by omega)).mono fun _ _ h => h.new)).mono ?_
          rintro e w1 ⟨vq, rfl, oq0, b1⟩
          rw [ET0.out] at oq0
          rw [ET1.out]
          obtain ⟨Aq, cq, rfl⟩ := own_len oq0
          have oq := own_at' oq0
          have lq := own_within oq0
          clear oq0
          have bb1 := Below.next bbr b1
          replace ko := ko.below b1
          have os := oq.imp (fun _ h => (OwnS.mk (x := (N, xs)) h : OwnS (.agg #[.bool N, .slice Aq xs.length cq]) (N, xs) _))
          clear oq
          by_cases h0 : 0 < s.size
          · have h0i : (0 : Int) < (s.size : Int) := by omega
            have hn : ((s[0].toNat : Int) == 45) = N := (head_yes h0).symm.trans HNN.out
            by_cases ok : okD ((N, xs), K) = true
            · have EV := Lib.hid (show decD (N, xs) K = (((N, xs), K), true) by unfold decD; rw [if_pos ok])
              have HO := Lib.hid ok
              clear ok
              go_wp2_with fail
              go_wp2_with fail
              refine ((l07Dec_any _ (N, xs) K _ _ hxl os).mono fun _ _ h => keptD_eq EV.out h).mono ?_
              rintro e w2 ⟨uf, Sf, rfl, of, sf, b2⟩
              obtain ⟨Af, cf, rfl⟩ := ownD_form of.here
              have bb2 := Below.next bb1 b2
              replace ko := ko.below b2
              replace os := os.below b2
              have lf : ∀ i ∈ Sf, w.heap.size < i := fun i hi => by have h1 := lq i (sf i hi); have h2 := HK.out; have h3 := h1.1; omega
              clear os
              obtain ⟨Y, hY⟩ : ∃ Y : DI, (((N, xs), K) : DI) = Y := ⟨_, rfl⟩
              have EY := Lib.hid hY
              rw [hY] at of ⊢
              clear hY
              have kd := box_new (w2) #[.bool Y.1.1, .slice Af Y.1.2.length cf, .int .i64 Y.2] 33
              have ald := below_al (Below.refl (w2).heap.size (w2)) (.cells #[.bool Y.1.1, .slice Af Y.1.2.length cf, .int .i64 Y.2] 33)
              have bbd := Below.next bb2 ald
              replace ko := ko.below ald
              replace of := of.below ald
              cases oky with
              | false =>
                have HV0 := Lib.hid (HB1.out rfl)
                clear kd of
                have cz0 := ko.here.cell 0 _ rfl
                have fz0 := Lib.frozen_of_heap ko.here 0
                have cz1 := ko.here.cell 1 _ rfl
                have fz1 := Lib.frozen_of_heap ko.here 1
                have cz2 := ko.here.cell 2 _ rfl
                have fz2 := Lib.frozen_of_heap ko.here 2
                go_wp2
                refine bodyPost_ret (v := .tuple #[.agg #[.bool false, .slice none 0 0, .int .i64 0], .bool false]) (by simp [results, Tryd.results21, go_sem, cz0, cz1, cz2]) rfl ?_
                rw [HV0.out]
                first | exact newDb_zero _ bbd | exact newDb_zero _ (below_set3 bbd (by omega))
              | true =>
                obtain ⟨T, hT⟩ : ∃ T, textD Y = T := ⟨_, rfl⟩
                have ET := Lib.hid hT
                have hX1 : Y.1.2.length ≤ 1048576 := by rw [← EY.out]; exact hxl
                clear hT
                have kd_c0 := kd.here.cell 0 _ rfl
                have kd_c1 := kd.here.cell 1 _ rfl
                have kd_c2 := kd.here.cell 2 _ rfl
                go_wp2_with fail
                clear kd_c0 kd_c1 kd_c2
                refine ((specDecText_any _ Y _ hX1 of.here).mono fun _ _ h => postT_isD ET.out h).mono ?_
                rintro e w3 ⟨rfl, b3⟩
                have bb3 := Below.next bbd b3
                replace ko := ko.below b3
                replace of := of.below b3
                replace kd := kd.below b3
                by_cases hx : T = s
                · have HV := Lib.hid (show P = (Y, true) by rw [← EY.out]; exact HGD.out (by simp) HO.out (by rw [EY.out, ET.out]; exact hx))
                  have hse := bytes_eqP hx
                  clear hx
                  have HW := Lib.hid (postDb_chg (b := true) (T := [w.heap.size]) of (fun i hi hm => by have := lf i hi; simp at hm; omega) (fun i hi => by simp at hi; omega) (fun i hi => by have := lf i hi; omega) bb3)
                  have kd_c0 := kd.here.cell 0 _ rfl
                  have kd_c1 := kd.here.cell 1 _ rfl
                  have kd_c2 := kd.here.cell 2 _ rfl
                  have cz0 := ko.here.cell 0 _ rfl
                  have fz0 := Lib.frozen_of_heap ko.here 0
                  have cz1 := ko.here.cell 1 _ rfl
                  have fz1 := Lib.frozen_of_heap ko.here 1
                  have cz2 := ko.here.cell 2 _ rfl
                  have fz2 := Lib.frozen_of_heap ko.here 2
                  clear of kd ko
                  go_wp2
                  refine bodyPost_ret (v := .tuple #[.agg #[.bool Y.1.1, .slice Af Y.1.2.length cf, .int .i64 Y.2], .bool true]) (by simp [results, Tryd.results21, go_sem, cz0, cz1, cz2]) rfl ?_
                  rw [HV.out]
                  refine HW.out _ ?_
                  repeat (first | exact Chg.refl _ _ | refine Chg.setCell ?_ (by simp) _)
                · have HV := Lib.hid (HB3.out (by rw [EY.out, ET.out]; exact hx))
                  have hse := bytes_neP hx
                  clear hx of kd
                  have cz0 := ko.here.cell 0 _ rfl
                  have fz0 := Lib.frozen_of_heap ko.here 0
                  have cz1 := ko.here.cell 1 _ rfl
                  have fz1 := Lib.frozen_of_heap ko.here 1
                  have cz2 := ko.here.cell 2 _ rfl
                  have fz2 := Lib.frozen_of_heap ko.here 2
                  go_wp2
                  refine bodyPost_ret (v := .tuple #[.agg #[.bool false, .slice none 0 0, .int .i64 0], .bool false]) (by simp [results, Tryd.results21, go_sem, cz0, cz1, cz2]) rfl ?_
                  rw [HV.out]
                  first | exact newDb_zero _ bb3 | exact newDb_zero _ (below_set3 bb3 (by omega))
            · have EV := Lib.hid (show decD (N, xs) K = (zeroD, false) by unfold decD; rw [if_neg ok])
              have HV := Lib.hid (HB2.out (by simpa using ok))
              clear ok
              go_wp2_with fail
              go_wp2_with fail
              refine ((l07Dec_any _ (N, xs) K _ _ hxl os).mono fun _ _ h => keptD_eq EV.out h).mono ?_
              rintro e w2 ⟨uf, Sf, rfl, of, sf, b2⟩
              obtain ⟨Af, cf, rfl⟩ := ownD_form of.here
              have bb2 := Below.next bb1 b2
              replace ko := ko.below b2
              replace os := os.below b2
              have lf : ∀ i ∈ Sf, w.heap.size < i := fun i hi => by have h1 := lq i (sf i hi); have h2 := HK.out; have h3 := h1.1; omega
              clear os
              obtain ⟨Y, hY⟩ : ∃ Y : DI, (zeroD : DI) = Y := ⟨_, rfl⟩
              have EY := Lib.hid hY
              rw [hY] at of ⊢
              clear hY
              have kd := box_new (w2) #[.bool Y.1.1, .slice Af Y.1.2.length cf, .int .i64 Y.2] 33
              have ald := below_al (Below.refl (w2).heap.size (w2)) (.cells #[.bool Y.1.1, .slice Af Y.1.2.length cf, .int .i64 Y.2] 33)
              have bbd := Below.next bb2 ald
              replace ko := ko.below ald
              replace of := of.below ald
              cases oky with
              | false =>
                have HV0 := Lib.hid (HB1.out rfl)
                clear kd of
                have cz0 := ko.here.cell 0 _ rfl
                have fz0 := Lib.frozen_of_heap ko.here 0
                have cz1 := ko.here.cell 1 _ rfl
                have fz1 := Lib.frozen_of_heap ko.here 1
                have cz2 := ko.here.cell 2 _ rfl
                have fz2 := Lib.frozen_of_heap ko.here 2
                go_wp2
                refine bodyPost_ret (v := .tuple #[.agg #[.bool false, .slice none 0 0, .int .i64 0], .bool false]) (by simp [results, Tryd.results21, go_sem, cz0, cz1, cz2]) rfl ?_
                rw [HV0.out]
                first | exact newDb_zero _ bbd | exact newDb_zero _ (below_set3 bbd (by omega))
              | true =>
                clear kd of
                have cz0 := ko.here.cell 0 _ rfl
                have fz0 := Lib.frozen_of_heap ko.here 0
                have cz1 := ko.here.cell 1 _ rfl
                have fz1 := Lib.frozen_of_heap ko.here 1
                have cz2 := ko.here.cell 2 _ rfl
                have fz2 := Lib.frozen_of_heap ko.here 2
                go_wp2
                refine bodyPost_ret (v := .tuple #[.agg #[.bool false, .slice none 0 0, .int .i64 0], .bool false]) (by simp [results, Tryd.results21, go_sem, cz0, cz1, cz2]) rfl ?_
                rw [HV.out]
                first | exact newDb_zero _ bbd | exact newDb_zero _ (below_set3 bbd (by omega))
          · have h0i : ¬ (0 : Int) < (s.size : Int) := by omega
            have hn : false = N := (head_no h0).symm.trans HNN.out
            subst hn
            by_cases ok : okD ((false, xs), K) = true
            · have EV := Lib.hid (show decD (false, xs) K = (((false, xs), K), true) by unfold decD; rw [if_pos ok])
              have HO := Lib.hid ok
              clear ok
              go_wp2_with fail
              go_wp2_with fail
              refine ((l07Dec_any _ (false, xs) K _ _ hxl os).mono fun _ _ h => keptD_eq EV.out h).mono ?_
              rintro e w2 ⟨uf, Sf, rfl, of, sf, b2⟩
              obtain ⟨Af, cf, rfl⟩ := ownD_form of.here
              have bb2 := Below.next bb1 b2
              replace ko := ko.below b2
              replace os := os.below b2
              have lf : ∀ i ∈ Sf, w.heap.size < i := fun i hi => by have h1 := lq i (sf i hi); have h2 := HK.out; have h3 := h1.1; omega
              clear os
              obtain ⟨Y, hY⟩ : ∃ Y : DI, (((false, xs), K) : DI) = Y := ⟨_, rfl⟩
              have EY := Lib.hid hY
              rw [hY] at of ⊢
              clear hY
              have kd := box_new (w2) #[.bool Y.1.1, .slice Af Y.1.2.length cf, .int .i64 Y.2] 33
              have ald := below_al (Below.refl (w2).heap.size (w2)) (.cells #[.bool Y.1.1, .slice Af Y.1.2.length cf, .int .i64 Y.2] 33)
              have bbd := Below.next bb2 ald
              replace ko := ko.below ald
              replace of := of.below ald
              cases oky with
              | false =>
                have HV0 := Lib.hid (HB1.out rfl)
                clear kd of
                have cz0 := ko.here.cell 0 _ rfl
                have fz0 := Lib.frozen_of_heap ko.here 0
                have cz1 := ko.here.cell 1 _ rfl
                have fz1 := Lib.frozen_of_heap ko.here 1
                have cz2 := ko.here.cell 2 _ rfl
                have fz2 := Lib.frozen_of_heap ko.here 2
                go_wp2
                refine bodyPost_ret (v := .tuple #[.agg #[.bool false, .slice none 0 0, .int .i64 0], .bool false]) (by simp [results, Tryd.results21, go_sem, cz0, cz1, cz2]) rfl ?_
                rw [HV0.out]
                first | exact newDb_zero _ bbd | exact newDb_zero _ (below_set3 bbd (by omega))
              | true =>
                obtain ⟨T, hT⟩ : ∃ T, textD Y = T := ⟨_, rfl⟩
                have ET := Lib.hid hT
                have hX1 : Y.1.2.length ≤ 1048576 := by rw [← EY.out]; exact hxl
                clear hT
                have kd_c0 := kd.here.cell 0 _ rfl
                have kd_c1 := kd.here.cell 1 _ rfl
                have kd_c2 := kd.here.cell 2 _ rfl
                go_wp2_with fail
                clear kd_c0 kd_c1 kd_c2
                refine ((specDecText_any _ Y _ hX1 of.here).mono fun _ _ h => postT_isD ET.out h).mono ?_
                rintro e w3 ⟨rfl, b3⟩
                have bb3 := Below.next bbd b3
                replace ko := ko.below b3
                replace of := of.below b3
                replace kd := kd.below b3
                by_cases hx : T = s
                · have HV := Lib.hid (show P = (Y, true) by rw [← EY.out]; exact HGD.out (by simp) HO.out (by rw [EY.out, ET.out]; exact hx))
                  have hse := bytes_eqP hx
                  clear hx
                  have HW := Lib.hid (postDb_chg (b := true) (T := [w.heap.size]) of (fun i hi hm => by have := lf i hi; simp at hm; omega) (fun i hi => by simp at hi; omega) (fun i hi => by have := lf i hi; omega) bb3)
                  have kd_c0 := kd.here.cell 0 _ rfl
                  have kd_c1 := kd.here.cell 1 _ rfl
                  have kd_c2 := kd.here.cell 2 _ rfl
                  have cz0 := ko.here.cell 0 _ rfl
                  have fz0 := Lib.frozen_of_heap ko.here 0
                  have cz1 := ko.here.cell 1 _ rfl
                  have fz1 := Lib.frozen_of_heap ko.here 1
                  have cz2 := ko.here.cell 2 _ rfl
                  have fz2 := Lib.frozen_of_heap ko.here 2
                  clear of kd ko
                  go_wp2
                  refine bodyPost_ret (v := .tuple #[.agg #[.bool Y.1.1, .slice Af Y.1.2.length cf, .int .i64 Y.2], .bool true]) (by simp [results, Tryd.results21, go_sem, cz0, cz1, cz2]) rfl ?_
                  rw [HV.out]
                  refine HW.out _ ?_
                  repeat (first | exact Chg.refl _ _ | refine Chg.setCell ?_ (by simp) _)
                · have HV := Lib.hid (HB3.out (by rw [EY.out, ET.out]; exact hx))
                  have hse := bytes_neP hx
                  clear hx of kd
                  have cz0 := ko.here.cell 0 _ rfl
                  have fz0 := Lib.frozen_of_heap ko.here 0
                  have cz1 := ko.here.cell 1 _ rfl
                  have fz1 := Lib.frozen_of_heap ko.here 1
                  have cz2 := ko.here.cell 2 _ rfl
                  have fz2 := Lib.frozen_of_heap ko.here 2
                  go_wp2
                  refine bodyPost_ret (v := .tuple #[.agg #[.bool false, .slice none 0 0, .int .i64 0], .bool false]) (by simp [results, Tryd.results21, go_sem, cz0, cz1, cz2]) rfl ?_
                  rw [HV.out]
                  first | exact newDb_zero _ bb3 | exact newDb_zero _ (below_set3 bb3 (by omega))
            · have EV := Lib.hid (show decD (false, xs) K = (zeroD, false) by unfold decD; rw [if_neg ok])
              have HV := Lib.hid (HB2.out (by simpa using ok))
              clear ok
              go_wp2_with fail
              go_wp2_with fail
              refine ((l07Dec_any _ (false, xs) K _ _ hxl os).mono fun _ _ h => keptD_eq EV.out h).mono ?_
              rintro e w2 ⟨uf, Sf, rfl, of, sf, b2⟩
              obtain ⟨Af, cf, rfl⟩ := ownD_form of.here
              have bb2 := Below.next bb1 b2
              replace ko := ko.below b2
              replace os := os.below b2
              have lf : ∀ i ∈ Sf, w.heap.size < i := fun i hi => by have h1 := lq i (sf i hi); have h2 := HK.out; have h3 := h1.1; omega
              clear os
              obtain ⟨Y, hY⟩ : ∃ Y : DI, (zeroD : DI) = Y := ⟨_, rfl⟩
              have EY := Lib.hid hY
              rw [hY] at of ⊢
              clear hY
              have kd := box_new (w2) #[.bool Y.1.1, .slice Af Y.1.2.length cf, .int .i64 Y.2] 33
              have ald := below_al (Below.refl (w2).heap.size (w2)) (.cells #[.bool Y.1.1, .slice Af Y.1.2.length cf, .int .i64 Y.2] 33)
              have bbd := Below.next bb2 ald
              replace ko := ko.below ald
              replace of := of.below ald
              cases oky with
              | false =>
                have HV0 := Lib.hid (HB1.out rfl)
                clear kd of
                have cz0 := ko.here.cell 0 _ rfl
                have fz0 := Lib.frozen_of_heap ko.here 0
                have cz1 := ko.here.cell 1 _ rfl
                have fz1 := Lib.frozen_of_heap ko.here 1
                have cz2 := ko.here.cell 2 _ rfl
                have fz2 := Lib.frozen_of_heap ko.here 2
                go_wp2
                refine bodyPost_ret (v := .tuple #[.agg #[.bool false, .slice none 0 0, .int .i64 0], .bool false]) (by simp [results, Tryd.results21, go_sem, cz0, cz1, cz2]) rfl ?_
                rw [HV0.out]
                first | exact newDb_zero _ bbd | exact newDb_zero _ (below_set3 bbd (by omega))
              | true =>
                clear kd of
                have cz0 := ko.here.cell 0 _ rfl
                have fz0 := Lib.frozen_of_heap ko.here 0
                have cz1 := ko.here.cell 1 _ rfl
                have fz1 := Lib.frozen_of_heap ko.here 1
                have cz2 := ko.here.cell 2 _ rfl
                have fz2 := Lib.frozen_of_heap ko.here 2
                go_wp2
                refine bodyPost_ret (v := .tuple #[.agg #[.bool false, .slice none 0 0, .int .i64 0], .bool false]) (by simp [results, Tryd.results21, go_sem, cz0, cz1, cz2]) rfl ?_
                rw [HV.out]
                first | exact newDb_zero _ bbd | exact newDb_zero _ (below_set3 bbd (by omega))
end Go.Proofs.YthfkdofnoomhaaaDoor
