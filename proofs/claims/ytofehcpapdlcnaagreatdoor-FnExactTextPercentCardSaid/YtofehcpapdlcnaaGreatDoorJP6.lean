/-
  DecTextImpl, DecTextSpec, PctS, DecImpl2, SignImpl4, TaxOkI, RatImplPlain, Div64, Guess
-/
import Derived.Deep.RegionHeld3
import Derived.Deep.DeepCutAuto
import Derived.IntWalk
import Derived.Deep.LoopGhost
import Derived.Deep.Cut
import Derived.Deep.CutBlock
import Derived.Laws.Bits64b
import Derived.Lib.BitFns
import Derived.Laws.Externs
import Derived.Test.YtofehcpapdlcnaaGreatDoorJP5
namespace Go.Proofs.YtofehcpapdlcnaaGreatDoor
open Go.RowKit

theorem ret_strD {a b : ByteArray} (h : a = b) : Ending.returned (.string a) = Ending.returned (.string b) := by rw [h]
theorem postT_eqD {a b : ByteArray} (h : a = b) {w w' : World} {e : Ending} (k : e = .returned (.string a) ∧ Below w.heap.size w w') : PostT b w e w' := by rw [← h]; exact k
theorem postT_isD {a b : ByteArray} (h : a = b) {w w' : World} {e : Ending} (k : PostT a w e w') : PostT b w e w' := h ▸ k
theorem natText_pos {a : DI} (h : okD a = true) : 1 ≤ (natTextB a.1.2).size := by
  obtain ⟨n, m, b⟩ := body_of h
  have hd := (dig_dec n).2
  have e := b.digits
  have hl := listB_len (natTextB a.1.2)
  rw [e] at hl
  cases hq : Lib.decDigits n with
  | nil => exact absurd hq hd
  | cons c r => rw [hq] at hl; simp at hl; omega
/-- the text of a number without a scale -/
theorem text_zero {a : DI} (h : okD a = true) (h0 : a.2 = 0) : textD a = intStrB a.1 := by
  have hb : bodyD a = natTextB a.1.2 := by
    unfold bodyD
    rw [h0]
    exact padB_same _ _ (by have := natText_pos h; omega)
  unfold textD intStrB
  rw [if_pos h, if_pos (partsD h).ok, hb, h0]
  unfold pointB
  have e : ¬ (0 : Int) < 0 := by decide
  rw [if_neg e]
/-- its parts, with one -/
theorem text_some {a : DI} (h : okD a = true) (h0 : 0 < a.2) {K : Nat} (hK : ((bodyD a).size : Int) - a.2 = K) :
    textD a = (if a.1.1 = true then (⟨#[45]⟩ : ByteArray) else ⟨#[]⟩) ++ ((bodyD a).extract 0 K ++ ⟨#[46]⟩ ++ (bodyD a).extract K (bodyD a).size) := by
  have e : (bodyD a).size - a.2.toNat = K := by omega
  unfold textD pointB
  rw [if_pos h, if_pos h0, e]
  cases a.1.1 with
  | true => rfl
  | false =>
    apply ByteArray.ext
    simp
theorem body_K {a : DI} (h : okD a = true) : ∃ K : Nat, ((bodyD a).size : Int) - a.2 = K ∧ K ≤ (bodyD a).size ∧ (bodyD a).size ≤ 100 := by
  obtain ⟨n, m, b⟩ := body_of h
  have h1 := b.long
  have h2 := b.size
  have h3 := (partsD h).lo
  exact ⟨(bodyD a).size - a.2.toNat, by omega, by omega, h2⟩
theorem box_rowD {g : Nat} {cs : Array Value} {T : TypeId} {w : World} (h : BoxAt g cs T w) : Row w 0 w.heap.size (.slice (some ⟨g, 0, none⟩) cs.size cs.size) cs.toList := by
  have hg := (Array.getElem?_eq_some_iff.1 h).1
  refine ⟨some ⟨g, 0, none⟩, cs.size, by simp, fun j u hj => ⟨⟨g, 0, none⟩, rfl, Nat.zero_le _, hg, ?_⟩⟩
  have e1 : (Addr.add ⟨g, 0, none⟩ j) = ⟨g, j, none⟩ := by
    unfold Addr.add
    cases j with
    | zero => rfl
    | succ n => simp
  rw [e1, Lib.cell_of_heap h]
  simpa using hj
theorem box_drewD {g : Nat} {cs : Array Value} {T : TypeId} {w : World} (h : BoxAt g cs T w) : BoxAt g cs T w.drew := h
theorem join_four (S A C : ByteArray) : joinB ⟨#[]⟩ [S, A, ⟨#[46]⟩, C] = S ++ (A ++ ⟨#[46]⟩ ++ C) := by
  apply ByteArray.ext
  simp [joinB, joinTo]
theorem four_small {S A C : ByteArray} (h1 : S.size ≤ 1048576) (h2 : A.size ≤ 1048576) (h3 : C.size ≤ 1048576) : ∀ s ∈ [S, A, (⟨#[46]⟩ : ByteArray), C], s.size ≤ 1048576 := fun s hs => by
  simp at hs
  rcases hs with rfl | rfl | rfl | rfl
  · exact h1
  · exact h2
  · decide
  · exact h3
theorem join4_at (S A C T0 : ByteArray) (g : Nat) (W : World) (T : TypeId) (h1 : S.size ≤ 1048576) (h2 : A.size ≤ 1048576) (h3 : C.size ≤ 1048576) (hT : S ++ (A ++ ⟨#[46]⟩ ++ C) = T0) (hb : BoxAt g #[.string S, .string A, .string ⟨#[46]⟩, .string C] T W) :
    Calls Tryz.prog 111 #[.string ⟨#[]⟩, .slice (some ⟨g, 0, none⟩) 4 4] W (PostT T0 W) := by
  have h := joinAll_any ⟨#[]⟩ (.slice (some ⟨g, 0, none⟩) 4 4) [S, A, ⟨#[46]⟩, C] 0 _ W (Nat.le_refl _) (by simp) (by decide) (four_small h1 h2 h3) (box_rowD hb)
  rw [join_four, hT] at h
  exact h
set_option maxHeartbeats 4000000 in
set_option maxRecDepth 100000 in
theorem implDecText_any (va : Value) (a : DI) (w : World) (hla : a.1.2.length ≤ 1048576) (ha : OwnD va a w) (ht : Tab w) :
    Calls Tryz.prog 61 #[va] w (PostT (textD a) w) := by
  have HT := Lib.hid ht
  clear ht
  have Ha := Lib.hid ha
  obtain ⟨Aa, ca, rfl⟩ := ownD_form ha
  have ODa := Lib.hid (show ∀ W, Below w.heap.size w W → OwnD (.agg #[.bool a.1.1, .slice Aa a.1.2.length ca, .int .i64 a.2]) a W from fun W hb => OwnD.below Ha.out hb)
  have OIa := Lib.hid (show ∀ W, Below w.heap.size w W → OwnI (.slice Aa a.1.2.length ca) a.1.2 W from fun W hb => ownD_open (ODa.out W hb))
  have OSa := Lib.hid (show ∀ W, Below w.heap.size w W → OwnS (.agg #[.bool a.1.1, .slice Aa a.1.2.length ca]) a.1 W from fun W hb => OwnS.mk (OIa.out W hb))
  clear ha
  have bb0 : Below w.heap.size w (w.alloc (.cells #[.bool a.1.1, .slice Aa a.1.2.length ca, .int .i64 a.2] 40)) := below_al (Below.refl _ _) _
  have ka := (box_new w #[.bool a.1.1, .slice Aa a.1.2.length ca, .int .i64 a.2] 40)
  obtain ⟨T, hT⟩ : ∃ T, textD a = T := ⟨_, rfl⟩
  have ET := Lib.hid hT
  rw [hT]
  clear hT
  go_enter Tryz.func61, Tryz.ntmps61
  have ka_c0 := ka.here.cell 0 _ rfl
  have ka_c1 := ka.here.cell 1 _ rfl
  have ka_c2 := ka.here.cell 2 _ rfl
  go_wp2_with fail
  clear ka_c0 ka_c1 ka_c2
  refine (implDecOk_any _ a _ hla (ODa.out _ bb0)).mono ?_
  rintro e w1 ⟨rfl, b1⟩
  have bb1 := Below.next bb0 b1
  replace ka := ka.below b1
  by_cases ok : okD a = true
  · rw [ok]
    have HO := Lib.hid ok
    have qa := partsD ok
    have ta := qa.lo
    have ta2 := qa.hi
    clear ok qa
    by_cases hs : a.2 = 0
    · have HV := Lib.hid (show intStrB a.1 = T from (text_zero HO.out hs).symm.trans ET.out)
      have hs2 : (a.2 == 0) = true := by rw [beq_iff_eq]; exact hs
      have ka_c0 := ka.here.cell 0 _ rfl
      have ka_c1 := ka.here.cell 1 _ rfl
      have ka_c2 := ka.here.cell 2 _ rfl
      go_wp2_with fail
      clear ka_c0 ka_c1 ka_c2
      refine (implIntStr_any _ a.1 _ hla (OwnS.rd (OSa.out _ bb1)) (HT.out.below bb1)).mono ?_
      rintro e w2 ⟨rfl, b2⟩
      have bb2 := Below.next bb1 b2
      replace ka := ka.below b2
      clear ka
      go_wp2
      go_ret
      exact ⟨ret_strD HV.out, bb2⟩
    · have hs2 : (a.2 == 0) = false := by rw [beq_eq_false_iff_ne]; exact hs
      have h0 : 0 < a.2 := by omega
      obtain ⟨K, hK, hKl, hB⟩ := body_K HO.out
      have HV := Lib.hid ((text_some HO.out h0 hK).symm.trans ET.out)
      obtain ⟨n1, hn1⟩ : ∃ n, IntKind.i64.wrap (a.2 + 1) = n := ⟨_, rfl⟩
      have hn2 : n1 = a.2 + 1 := by rw [← hn1]; exact IntWalk.i64_in _ (by omega)
      obtain ⟨D, hD⟩ : ∃ D, natTextB a.1.2 = D := ⟨_, rfl⟩
      have hDs : D.size ≤ 1048576 := by rw [← hD]; have := natTextB_size a.1.2; omega
      have EB := Lib.hid (show padB D n1 = bodyD a by rw [← hD, hn2]; rfl)
      have hn3 : n1 ≤ 2000 := by omega
      have hn4 : -9223372036854775808 ≤ n1 := by omega
      generalize bodyD a = B at *
      have ED := Lib.hid hD
      have hKw : IntKind.i64.wrap ((B.size : Int) - a.2) = (K : Int) := by rw [hK]; exact IntWalk.i64_in _ (by omega)
      have c1 : (0 : Int) ≤ (K : Int) := by omega
      have c2 : (K : Int) ≤ (B.size : Int) := by omega
      clear hD hn2 hK hs
      cases hneg : a.1.1 with
      | true =>
        rw [hneg] at HV
        have HG := Lib.hid hneg
        have ka_c0 := ka.here.cell 0 _ rfl
        have ka_c1 := ka.here.cell 1 _ rfl
        have ka_c2 := ka.here.cell 2 _ rfl
        rw [show (#[.bool a.1.1, .slice Aa a.1.2.length ca, .int .i64 a.2] : Array Value)[0] = .bool true from by show Value.bool a.1.1 = _; rw [hneg]] at ka_c0
        clear hneg
        go_wp2_with fail
        have HC0 := Lib.hid (show Chg [] w1 w1.drew from (Chg.refl _ _).drew1)
        have HCr := Lib.hid (show Chg [] w1 w1 from Chg.refl _ _)
        have KL := Lib.hid (show ∀ W, Chg [] w1 W → W.cell? ⟨w.heap.size, 0, none⟩ = some (.bool a.1.1) ∧ W.cell? ⟨w.heap.size, 1, none⟩ = some (.slice Aa a.1.2.length ca) ∧ W.cell? ⟨w.heap.size, 2, none⟩ = some (.int .i64 a.2) ∧ Hid (Chg [] w1 W) from fun W hc => ⟨(ka.chg hc (fun i hi hm => by simp at hm)).here.cell 0 _ rfl, (ka.chg hc (fun i hi hm => by simp at hm)).here.cell 1 _ rfl, (ka.chg hc (fun i hi hm => by simp at hm)).here.cell 2 _ rfl, Lib.hid hc⟩)
        have BBF := Lib.hid (show ∀ W, Chg [] w1 W → Below w.heap.size w W from fun W hc => below_chg bb1 hc bb1.size (fun i hi => by simp at hi))
        clear ka_c0 ka_c1 ka_c2
        go_region_held3 (fun W => W.cell? ⟨w.heap.size, 0, none⟩ = some (.bool a.1.1) ∧ W.cell? ⟨w.heap.size, 1, none⟩ = some (.slice Aa a.1.2.length ca) ∧ W.cell? ⟨w.heap.size, 2, none⟩ = some (.int .i64 a.2) ∧ Hid (Chg [] w1 W))
          ((refine KL.out _ ?_; (first | exact HC3.out | exact HC2.out | exact HCr.out | exact HC0.out | exact HC3.out.drew1 | exact HC2.out.drew1 | exact HCr.out.drew1 | exact HC0.out.drew1 | exact HC3.out.trans (Chg.of_below (below_al (Below.refl _ _) _)) | exact HC2.out.trans (Chg.of_below (below_al (Below.refl _ _) _)) | exact HCr.out.trans (Chg.of_below (below_al (Below.refl _ _) _)) | exact HC0.out.trans (Chg.of_below (below_al (Below.refl _ _) _)) | fail)))
          (first
            | (go_at_call 110; (have hBB := (‹_ ∧ _ ∧ _ ∧ Hid (Chg [] w1 _)›).2.2.2); (with_reducible refine ((implNatText_any _ a.1.2 0 _ _ hla (Nat.le_refl _) (OIa.out _ (BBF.out _ hBB.out)).row (HT.out.below (BBF.out _ hBB.out))).mono fun _ _ h => postT_eqD ED.out h).mono ?_); rintro e w2 ⟨rfl, b2⟩; have HC2 := Lib.hid (hBB.out.trans (Chg.of_below b2)); have HBZ2 := Lib.hid hBB.out.size; clear hBB)
            | (go_at_call 109; (have hBB := (‹_ ∧ _ ∧ _ ∧ Hid (Chg [] w1 _)›).2.2.2); (with_reducible refine ((implPad_any D n1 _ hDs hn3 hn4).mono fun _ _ h => postT_eqD EB.out h).mono ?_); rintro e w3 ⟨rfl, b3⟩; have HC3 := Lib.hid (hBB.out.trans (Chg.of_below b3)); have HBZ3 := Lib.hid hBB.out.size; clear hBB))
        all_goals
          have bb3 := BBF.out _ HC3.out
          replace ka := ka.chg HC3.out (fun i hi hm => by simp at hm)
          have hj1 : (⟨#[45]⟩ : ByteArray).size ≤ 1048576 := by decide
          have hj2 : (B.extract 0 K).size ≤ 1048576 := by rw [ByteArray.size_extract]; omega
          have hj3 : (B.extract K B.size).size ≤ 1048576 := by rw [ByteArray.size_extract]; omega
          have HVV := Lib.hid (show (⟨#[45]⟩ : ByteArray) ++ (B.extract 0 K ++ ⟨#[46]⟩ ++ B.extract K B.size) = T from by have h := HV.out; first | exact h | (rw [if_pos rfl] at h; exact h) | (rw [if_neg (by decide)] at h; exact h))
          have ka_c0 := ka.here.cell 0 _ rfl
          have ka_c1 := ka.here.cell 1 _ rfl
          have ka_c2 := ka.here.cell 2 _ rfl
          go_wp2_with fail
          have HC0 := Lib.hid (show Chg [] w3 w3.drew from (Chg.refl _ _).drew1)
          have HCr := Lib.hid (show Chg [] w3 w3 from Chg.refl _ _)
          have KL := Lib.hid (show ∀ W, Chg [] w3 W → W.cell? ⟨w.heap.size, 0, none⟩ = some (.bool a.1.1) ∧ W.cell? ⟨w.heap.size, 1, none⟩ = some (.slice Aa a.1.2.length ca) ∧ W.cell? ⟨w.heap.size, 2, none⟩ = some (.int .i64 a.2) ∧ Hid (Chg [] w3 W) from fun W hc => ⟨(ka.chg hc (fun i hi hm => by simp at hm)).here.cell 0 _ rfl, (ka.chg hc (fun i hi hm => by simp at hm)).here.cell 1 _ rfl, (ka.chg hc (fun i hi hm => by simp at hm)).here.cell 2 _ rfl, Lib.hid hc⟩)
          have BBF := Lib.hid (show ∀ W, Chg [] w3 W → Below w.heap.size w W from fun W hc => below_chg bb3 hc bb3.size (fun i hi => by simp at hi))
          clear ka_c0 ka_c1 ka_c2
          go_region_held3 (fun W => W.cell? ⟨w.heap.size, 0, none⟩ = some (.bool a.1.1) ∧ W.cell? ⟨w.heap.size, 1, none⟩ = some (.slice Aa a.1.2.length ca) ∧ W.cell? ⟨w.heap.size, 2, none⟩ = some (.int .i64 a.2) ∧ Hid (Chg [] w3 W))
            ((refine KL.out _ ?_; (first | exact HC4.out | exact HCr.out | exact HC0.out | exact HC4.out.drew1 | exact HCr.out.drew1 | exact HC0.out.drew1 | exact HC4.out.trans (Chg.of_below (below_al (Below.refl _ _) _)) | exact HCr.out.trans (Chg.of_below (below_al (Below.refl _ _) _)) | exact HC0.out.trans (Chg.of_below (below_al (Below.refl _ _) _)) | fail)))
            (first
              | (go_at_call 111; (have hBB := (‹_ ∧ _ ∧ _ ∧ Hid (Chg [] w3 _)›).2.2.2); (with_reducible refine (join4_at ⟨#[45]⟩ (B.extract 0 K) (B.extract K B.size) T _ _ _ hj1 hj2 hj3 HVV.out (by first | exact (box_new _ _ 9).here | exact box_drewD (box_new _ _ 9).here)).mono ?_); rintro e w4 ⟨rfl, b4⟩; have HC4 := Lib.hid (hBB.out.trans (Chg.of_below b4)); have HBZ4 := Lib.hid hBB.out.size; clear hBB))
          all_goals
            have bb4 := BBF.out _ HC4.out
            replace ka := ka.chg HC4.out (fun i hi hm => by simp at hm)
            go_wp2
            go_ret
            exact ⟨rfl, bb4⟩
      | false =>
        rw [hneg] at HV
        have HG := Lib.hid hneg
        have ka_c0 := ka.here.cell 0 _ rfl
        have ka_c1 := ka.here.cell 1 _ rfl
        have ka_c2 := ka.here.cell 2 _ rfl
        rw [show (#[.bool a.1.1, .slice Aa a.1.2.length ca, .int .i64 a.2] : Array Value)[0] = .bool false from by show Value.bool a.1.1 = _; rw [hneg]] at ka_c0
        clear hneg
        go_wp2_with fail
        have HC0 := Lib.hid (show Chg [] w1 w1.drew from (Chg.refl _ _).drew1)
        have HCr := Lib.hid (show Chg [] w1 w1 from Chg.refl _ _)
        have KL := Lib.hid (show ∀ W, Chg [] w1 W → W.cell? ⟨w.heap.size, 0, none⟩ = some (.bool a.1.1) ∧ W.cell? ⟨w.heap.size, 1, none⟩ = some (.slice Aa a.1.2.length ca) ∧ W.cell? ⟨w.heap.size, 2, none⟩ = some (.int .i64 a.2) ∧ Hid (Chg [] w1 W) from fun W hc => ⟨(ka.chg hc (fun i hi hm => by simp at hm)).here.cell 0 _ rfl, (ka.chg hc (fun i hi hm => by simp at hm)).here.cell 1 _ rfl, (ka.chg hc (fun i hi hm => by simp at hm)).here.cell 2 _ rfl, Lib.hid hc⟩)
        have BBF := Lib.hid (show ∀ W, Chg [] w1 W → Below w.heap.size w W from fun W hc => below_chg bb1 hc bb1.size (fun i hi => by simp at hi))
        clear ka_c0 ka_c1 ka_c2
        go_region_held3 (fun W => W.cell? ⟨w.heap.size, 0, none⟩ = some (.bool a.1.1) ∧ W.cell? ⟨w.heap.size, 1, none⟩ = some (.slice Aa a.1.2.length ca) ∧ W.cell? ⟨w.heap.size, 2, none⟩ = some (.int .i64 a.2) ∧ Hid (Chg [] w1 W))
          ((refine KL.out _ ?_; (first | exact HC3.out | exact HC2.out | exact HCr.out | exact HC0.out | exact HC3.out.drew1 | exact HC2.out.drew1 | exact HCr.out.drew1 | exact HC0.out.drew1 | exact HC3.out.trans (Chg.of_below (below_al (Below.refl _ _) _)) | exact HC2.out.trans (Chg.of_below (below_al (Below.refl _ _) _)) | exact HCr.out.trans (Chg.of_below (below_al (Below.refl _ _) _)) | exact HC0.out.trans (Chg.of_below (below_al (Below.refl _ _) _)) | fail)))
          (first
            | (go_at_call 110; (have hBB := (‹_ ∧ _ ∧ _ ∧ Hid (Chg [] w1 _)›).2.2.2); (with_reducible refine ((implNatText_any _ a.1.2 0 _ _ hla (Nat.le_refl _) (OIa.out _ (BBF.out _ hBB.out)).row (HT.out.below (BBF.out _ hBB.out))).mono fun _ _ h => postT_eqD ED.out h).mono ?_); rintro e w2 ⟨rfl, b2⟩; have HC2 := Lib.hid (hBB.out.trans (Chg.of_below b2)); have HBZ2 := Lib.hid hBB.out.size; clear hBB)
            | (go_at_call 109; (have hBB := (‹_ ∧ _ ∧ _ ∧ Hid (Chg [] w1 _)›).2.2.2); (with_reducible refine ((implPad_any D n1 _ hDs hn3 hn4).mono fun _ _ h => postT_eqD EB.out h).mono ?_); rintro e w3 ⟨rfl, b3⟩; have HC3 := Lib.hid (hBB.out.trans (Chg.of_below b3)); have HBZ3 := Lib.hid hBB.out.size; clear hBB))
        all_goals
          have bb3 := BBF.out _ HC3.out
          replace ka := ka.chg HC3.out (fun i hi hm => by simp at hm)
          have hj1 : (⟨#[]⟩ : ByteArray).size ≤ 1048576 := by decide
          have hj2 : (B.extract 0 K).size ≤ 1048576 := by rw [ByteArray.size_extract]; omega
          have hj3 : (B.extract K B.size).size ≤ 1048576 := by rw [ByteArray.size_extract]; omega
          have HVV := Lib.hid (show (⟨#[]⟩ : ByteArray) ++ (B.extract 0 K ++ ⟨#[46]⟩ ++ B.extract K B.size) = T from by have h := HV.out; first | exact h | (rw [if_pos rfl] at h; exact h) | (rw [if_neg (by decide)] at h; exact h))
          have ka_c0 := ka.here.cell 0 _ rfl
          have ka_c1 := ka.here.cell 1 _ rfl
          have ka_c2 := ka.here.cell 2 _ rfl
          go_wp2_with fail
          have HC0 := Lib.hid (show Chg [] w3 w3.drew from (Chg.refl _ _).drew1)
          have HCr := Lib.hid (show Chg [] w3 w3 from Chg.refl _ _)
          have KL := Lib.hid (show ∀ W, Chg [] w3 W → W.cell? ⟨w.heap.size, 0, none⟩ = some (.bool a.1.1) ∧ W.cell? ⟨w.heap.size, 1, none⟩ = some (.slice Aa a.1.2.length ca) ∧ W.cell? ⟨w.heap.size, 2, none⟩ = some (.int .i64 a.2) ∧ Hid (Chg [] w3 W) from fun W hc => ⟨(ka.chg hc (fun i hi hm => by simp at hm)).here.cell 0 _ rfl, (ka.chg hc (fun i hi hm => by simp at hm)).here.cell 1 _ rfl, (ka.chg hc (fun i hi hm => by simp at hm)).here.cell 2 _ rfl, Lib.hid hc⟩)
          have BBF := Lib.hid (show ∀ W, Chg [] w3 W → Below w.heap.size w W from fun W hc => below_chg bb3 hc bb3.size (fun i hi => by simp at hi))
          clear ka_c0 ka_c1 ka_c2
          go_region_held3 (fun W => W.cell? ⟨w.heap.size, 0, none⟩ = some (.bool a.1.1) ∧ W.cell? ⟨w.heap.size, 1, none⟩ = some (.slice Aa a.1.2.length ca) ∧ W.cell? ⟨w.heap.size, 2, none⟩ = some (.int .i64 a.2) ∧ Hid (Chg [] w3 W))
            ((refine KL.out _ ?_; (first | exact HC4.out | exact HCr.out | exact HC0.out | exact HC4.out.drew1 | exact HCr.out.drew1 | exact HC0.out.drew1 | exact HC4.out.trans (Chg.of_below (below_al (Below.refl _ _) _)) | exact HCr.out.trans (Chg.of_below (below_al (Below.refl _ _) _)) | exact HC0.out.trans (Chg.of_below (below_al (Below.refl _ _) _)) | fail)))
            (first
              | (go_at_call 111; (have hBB := (‹_ ∧ _ ∧ _ ∧ Hid (Chg [] w3 _)›).2.2.2); (with_reducible refine (join4_at ⟨#[]⟩ (B.extract 0 K) (B.extract K B.size) T _ _ _ hj1 hj2 hj3 HVV.out (by first | exact (box_new _ _ 9).here | exact box_drewD (box_new _ _ 9).here)).mono ?_); rintro e w4 ⟨rfl, b4⟩; have HC4 := Lib.hid (hBB.out.trans (Chg.of_below b4)); have HBZ4 := Lib.hid hBB.out.size; clear hBB))
          all_goals
            have bb4 := BBF.out _ HC4.out
            replace ka := ka.chg HC4.out (fun i hi hm => by simp at hm)
            go_wp2
            go_ret
            exact ⟨rfl, bb4⟩
  · have ok' : okD a = false := by simpa using ok
    have HV := Lib.hid (show (⟨#[]⟩ : ByteArray) = T by rw [← ET.out]; unfold textD; rw [if_neg ok])
    rw [ok']
    clear ok ok' ka
    go_wp2
    go_ret
    exact ⟨ret_strD HV.out, bb1⟩
set_option maxHeartbeats 4000000 in
set_option maxRecDepth 100000 in
theorem implTextDec_any (s : ByteArray) (w : World) (hs : s.size ≤ 1048576) (ht : Tab w) :
    Calls Tryz.prog 65 #[.string s] w (PostDb (trD s).1 (trD s).2 w) := by
  have HT := Lib.hid ht
  clear ht
  have bb0 : Below w.heap.size w (w.alloc (.cells #[.bool false, .slice none 0 0, .int .i64 0] 40)) := below_al (Below.refl _ _) _
  have ko := (box_new w #[.bool false, .slice none 0 0, .int .i64 0] 40)
  have HKO := Lib.hid (ko.lt w.heap.size (by simp))
  have e0 := trD_impl s
  have hp : parseI s = ((negB s, tnR ⟨(Lib.trimLeftB (preB (bareB s) ++ postB (bareB s)).data.toList 48).toArray⟩), ((postB (bareB s)).size : Int)) := rfl
  rw [hp] at e0
  clear hp
  have hb := bareB_le s
  have hpp := pre_post_size (bareB s)
  have h1 := hpp.1
  have h2 := hpp.2.1
  have h3 := hpp.2.2
  clear hpp
  obtain ⟨P, hP⟩ : ∃ P, trD s = P := ⟨_, rfl⟩
  rw [hP] at e0 ⊢
  clear hP
  go_enter Tryz.func65, Tryz.ntmps65
  go_wp2_with fail
  refine (cutPrefix_any s _).mono ?_
  rintro e w_ ⟨rfl, rfl⟩
  generalize negB s = N at *
  generalize bareB s = D at *
  go_wp2_with fail
  refine (cutP_any D _ (by omega)).mono ?_
  rintro e w1 ⟨bc, rfl, b1⟩
  have bb1 := Below.next bb0 b1
  replace ko := ko.below b1
  generalize preB D = H at *
  generalize postB D = L at *
  obtain ⟨J, hJ⟩ : ∃ J, H ++ L = J := ⟨_, rfl⟩
  have hJs : J.size ≤ 1048576 := by rw [← hJ, ByteArray.size_append]; omega
  have hq1 : ¬ (9223372036854775807 < H.size + L.size) := by omega
  rw [hJ] at e0
  go_wp2_with fail
  try rw [hJ]
  skip
  refine (trimLeft_any J _).mono ?_
  rintro e w2 ⟨rfl, b2⟩
  have bb2 := Below.next bb1 b2
  replace ko := ko.below b2
  obtain ⟨Z, hZ⟩ : ∃ Z : ByteArray, (⟨(Lib.trimLeftB J.data.toList 48).toArray⟩ : ByteArray) = Z := ⟨_, rfl⟩
  have hZs : Z.size ≤ 1048576 := by rw [← hZ]; have h := trim_size J.data.toList 48; have h5 := listB_len J; show (List.toArray _).size ≤ _; rw [List.size_toArray]; omega
  rw [hZ] at e0 ⊢
  clear hZ
  go_wp2_with fail
  refine (implTextNat_any Z _ (by omega) (HT.out.below bb2)).mono ?_
  rintro e w3 ⟨u2, rfl, od, b3⟩
  obtain ⟨A2, c2, rfl⟩ := own_len od
  have bb3 := Below.next bb2 b3
  replace ko := ko.below b3
  have hxl := tnR_len Z
  generalize tnR Z = xs at *
  have kd := box_new (w3) #[.bool N, .slice A2 xs.length c2, .int .i64 (L.size : Int)] 40
  have ald := below_al (Below.refl (w3).heap.size (w3)) (.cells #[.bool N, .slice A2 xs.length c2, .int .i64 (L.size : Int)] 40)
  have bbd := Below.next bb3 ald
  replace ko := ko.below ald
  have of : At _ (OwnD (.agg #[.bool N, .slice A2 xs.length c2, .int .i64 (L.size : Int)]) ((N, xs), (L.size : Int))) _ := ((own_at' od).imp (fun _ h => (OwnD.mk (q := ((N, xs), (L.size : Int))) h))).below ald
  have lf0 := own_within od
  clear od
  obtain ⟨X, hX⟩ : ∃ X : DI, (((N, xs), (L.size : Int)) : DI) = X := ⟨_, rfl⟩
  have hX1 : X.1.2.length ≤ 1048576 := by rw [← hX]; show xs.length ≤ _; omega
  rw [hX] at e0 of
  clear hX
  obtain ⟨T, hT⟩ : ∃ T, textD X = T := ⟨_, rfl⟩
  have ET := Lib.hid hT
  rw [hT] at e0
  clear hT
  have kd_c0 := kd.here.cell 0 _ rfl
  have kd_c1 := kd.here.cell 1 _ rfl
  have kd_c2 := kd.here.cell 2 _ rfl
  go_wp2_with fail
  clear kd_c0 kd_c1 kd_c2
  refine ((implDecText_any _ X _ hX1 of.here (HT.out.below bbd)).mono fun _ _ h => postT_isD ET.out h).mono ?_
  rintro e w4 ⟨rfl, b4⟩
  have bb4 := Below.next bbd b4
  replace ko := ko.below b4
  replace kd := kd.below b4
  replace of := of.below b4
  by_cases hx : T = s
  · have HV := Lib.hid (show P = (X, true) by rw [← e0]; exact if_pos hx)
    have hse := bytes_eqP hx
    clear e0 hx
    have HW := Lib.hid (postDb_chg (b := true) (T := [w.heap.size]) of (fun i hi hm => by have := lf0 i hi; have := HKO.out; have := b1.size; have := b2.size; simp at hm; omega) (fun i hi => by simp at hi; omega) (fun i hi => by have := lf0 i hi; have := HKO.out; have := b1.size; have := b2.size; omega) bb4)
    have kd_c0 := kd.here.cell 0 _ rfl
    have kd_c1 := kd.here.cell 1 _ rfl
    have kd_c2 := kd.here.cell 2 _ rfl
    have cz0 := ko.here.cell 0 _ rfl
    have fz0 := Lib.frozen_of_heap ko.here 0
    have cz1 := ko.here.cell 1 _ rfl
    have fz1 := Lib.frozen_of_heap ko.here 1
    have cz2 := ko.here.cell 2 _ rfl
    have fz2 := Lib.frozen_of_heap ko.here 2
    clear of kd ko
    go_wp2
    refine bodyPost_ret (v := .tuple #[.agg #[.bool N, .slice A2 xs.length c2, .int .i64 (L.size : Int)], .bool true]) (by simp [results, Tryz.results65, go_sem, cz0, cz1, cz2]) rfl ?_
    rw [HV.out]
    refine HW.out _ ?_
    repeat (first | exact Chg.refl _ _ | refine Chg.setCell ?_ (by simp) _)
  · have HV := Lib.hid (show P = (zeroD, false) by rw [← e0]; exact if_neg hx)
    have hse := bytes_neP hx
    clear e0 hx of kd
    have cz0 := ko.here.cell 0 _ rfl
    have fz0 := Lib.frozen_of_heap ko.here 0
    have cz1 := ko.here.cell 1 _ rfl
    have fz1 := Lib.frozen_of_heap ko.here 1
    have cz2 := ko.here.cell 2 _ rfl
    have fz2 := Lib.frozen_of_heap ko.here 2
    go_wp2
    refine bodyPost_ret (v := .tuple #[.agg #[.bool false, .slice none 0 0, .int .i64 0], .bool false]) (by simp [results, Tryz.results65, go_sem, cz0, cz1, cz2]) rfl ?_
    rw [HV.out]
    first | exact newDb_zero _ bb4 | exact newDb_zero _ (below_set3 bb4 (by omega))
end Go.Proofs.YtofehcpapdlcnaaGreatDoor

namespace Go.Proofs.YtofehcpapdlcnaaGreatDoor
open Go.RowKit

theorem specPadT (s : ByteArray) (n : Int) (w : World) (T : ByteArray) (hs : s.size ≤ 1048576) (hn : n ≤ 2000) (hT : padB s n = T) : Calls Tryz.prog 100 #[.string s, .int .i64 n] w (PostT T w) := by
  subst hT
  refine (specPad_any s n w hs hn).mono ?_
  rintro e w' ⟨rfl, rfl⟩
  exact ⟨rfl, Below.refl _ _⟩
set_option maxHeartbeats 4000000 in
set_option maxRecDepth 100000 in
theorem specDecText_any (va : Value) (a : DI) (w : World) (hla : a.1.2.length ≤ 1048576) (ha : OwnD va a w) :
    Calls Tryz.prog 57 #[va] w (PostT (textD a) w) := by
  have Ha := Lib.hid ha
  obtain ⟨Aa, ca, rfl⟩ := ownD_form ha
  have ODa := Lib.hid (show ∀ W, Below w.heap.size w W → OwnD (.agg #[.bool a.1.1, .slice Aa a.1.2.length ca, .int .i64 a.2]) a W from fun W hb => OwnD.below Ha.out hb)
  have OIa := Lib.hid (show ∀ W, Below w.heap.size w W → OwnI (.slice Aa a.1.2.length ca) a.1.2 W from fun W hb => ownD_open (ODa.out W hb))
  have OSa := Lib.hid (show ∀ W, Below w.heap.size w W → OwnS (.agg #[.bool a.1.1, .slice Aa a.1.2.length ca]) a.1 W from fun W hb => OwnS.mk (OIa.out W hb))
  clear ha
  have bb0 : Below w.heap.size w (w.alloc (.cells #[.bool a.1.1, .slice Aa a.1.2.length ca, .int .i64 a.2] 40)) := below_al (Below.refl _ _) _
  have ka := (box_new w #[.bool a.1.1, .slice Aa a.1.2.length ca, .int .i64 a.2] 40)
  obtain ⟨T, hT⟩ : ∃ T, textD a = T := ⟨_, rfl⟩
  have ET := Lib.hid hT
  rw [hT]
  clear hT
  go_enter Tryz.func57, Tryz.ntmps57
  have ka_c0 := ka.here.cell 0 _ rfl
  have ka_c1 := ka.here.cell 1 _ rfl
  have ka_c2 := ka.here.cell 2 _ rfl
  go_wp2_with fail
  clear ka_c0 ka_c1 ka_c2
  refine (specDecOk_any _ a _ hla (ODa.out _ bb0)).mono ?_
  rintro e w1 ⟨rfl, b1⟩
  have bb1 := Below.next bb0 b1
  replace ka := ka.below b1
  by_cases ok : okD a = true
  · rw [ok]
    have HO := Lib.hid ok
    have qa := partsD ok
    have ta := qa.lo
    have ta2 := qa.hi
    obtain ⟨K, hK, hKl, hB⟩ := body_K ok
    have HV := Lib.hid (show T = if a.1.1 = true then (⟨#[45]⟩ : ByteArray) ++ pointB (bodyD a) a.2 else pointB (bodyD a) a.2 by rw [← ET.out]; unfold textD; rw [if_pos HO.out])
    have hP0 : ¬ 0 < a.2 → pointB (bodyD a) a.2 = bodyD a := fun h => by unfold pointB; rw [if_neg h]
    have hP1 : 0 < a.2 → pointB (bodyD a) a.2 = (bodyD a).extract 0 K ++ ⟨#[46]⟩ ++ (bodyD a).extract K (bodyD a).size := fun h => by unfold pointB; rw [if_pos h, show (bodyD a).size - a.2.toNat = K by omega]
    obtain ⟨n1, hn1⟩ : ∃ n, IntKind.i64.wrap (a.2 + 1) = n := ⟨_, rfl⟩
    have hn2 : n1 = a.2 + 1 := by rw [← hn1]; exact IntWalk.i64_in _ (by omega)
    obtain ⟨D, hD⟩ : ∃ D, natTextB a.1.2 = D := ⟨_, rfl⟩
    have hDs : D.size ≤ 1048576 := by rw [← hD]; have := natTextB_size a.1.2; omega
    have EB := Lib.hid (show padB D n1 = bodyD a by rw [← hD, hn2]; rfl)
    have hn3 : n1 ≤ 2000 := by omega
    obtain ⟨Q, hQ⟩ : ∃ Q, pointB (bodyD a) a.2 = Q := ⟨_, rfl⟩
    rw [hQ] at HV hP0 hP1
    generalize bodyD a = B at *
    have ED := Lib.hid hD
    have hKw : IntKind.i64.wrap ((B.size : Int) - a.2) = (K : Int) := by rw [hK]; exact IntWalk.i64_in _ (by omega)
    have c1 : (0 : Int) ≤ (K : Int) := by omega
    have c2 : (K : Int) ≤ (B.size : Int) := by omega
    have HP0 := Lib.hid hP0
    have HP1 := Lib.hid hP1
    have hQs : Q.size ≤ 200 := by
      by_cases h : 0 < a.2
      · rw [hP1 h, ByteArray.size_append, ByteArray.size_append, ByteArray.size_extract, ByteArray.size_extract]; have e : (⟨#[46]⟩ : ByteArray).size = 1 := rfl; omega
      · rw [hP0 h]; omega
    clear hD hn2 hK ok qa hP0 hP1 hQ
    have ka_c0 := ka.here.cell 0 _ rfl
    have ka_c1 := ka.here.cell 1 _ rfl
    have ka_c2 := ka.here.cell 2 _ rfl
    go_wp2_with fail
    have HC0 := Lib.hid (show Chg [] w1 w1.drew from (Chg.refl _ _).drew1)
    have HCr := Lib.hid (show Chg [] w1 w1 from Chg.refl _ _)
    have KL := Lib.hid (show ∀ W, Chg [] w1 W → W.cell? ⟨w.heap.size, 0, none⟩ = some (.bool a.1.1) ∧ W.cell? ⟨w.heap.size, 1, none⟩ = some (.slice Aa a.1.2.length ca) ∧ W.cell? ⟨w.heap.size, 2, none⟩ = some (.int .i64 a.2) ∧ Hid (Chg [] w1 W) from fun W hc => ⟨(ka.chg hc (fun i hi hm => by simp at hm)).here.cell 0 _ rfl, (ka.chg hc (fun i hi hm => by simp at hm)).here.cell 1 _ rfl, (ka.chg hc (fun i hi hm => by simp at hm)).here.cell 2 _ rfl, Lib.hid hc⟩)
    have BBF := Lib.hid (show ∀ W, Chg [] w1 W → Below w.heap.size w W from fun W hc => below_chg bb1 hc bb1.size (fun i hi => by simp at hi))
    clear ka_c0 ka_c1 ka_c2
    go_region_held3 (fun W => W.cell? ⟨w.heap.size, 0, none⟩ = some (.bool a.1.1) ∧ W.cell? ⟨w.heap.size, 1, none⟩ = some (.slice Aa a.1.2.length ca) ∧ W.cell? ⟨w.heap.size, 2, none⟩ = some (.int .i64 a.2) ∧ Hid (Chg [] w1 W))
      ((refine KL.out _ ?_; (first | exact HC3.out | exact HC2.out | exact HCr.out | exact HC0.out | exact HC3.out.drew1 | exact HC2.out.drew1 | exact HCr.out.drew1 | exact HC0.out.drew1 | exact HC3.out.trans (Chg.of_below (below_al (Below.refl _ _) _)) | exact HC2.out.trans (Chg.of_below (below_al (Below.refl _ _) _)) | exact HCr.out.trans (Chg.of_below (below_al (Below.refl _ _) _)) | exact HC0.out.trans (Chg.of_below (below_al (Below.refl _ _) _)) | fail)))
      (first
        | (go_at_call 101; (have hBB := (‹_ ∧ _ ∧ _ ∧ Hid (Chg [] w1 _)›).2.2.2); (with_reducible refine ((specNatText_any _ a.1.2 0 _ _ hla (Nat.le_refl _) (OIa.out _ (BBF.out _ hBB.out)).row).mono fun _ _ h => postT_eqD ED.out h).mono ?_); rintro e w2 ⟨rfl, b2⟩; have HC2 := Lib.hid (hBB.out.trans (Chg.of_below b2)); have HBZ2 := Lib.hid hBB.out.size; clear hBB)
        | (go_at_call 100; (have hBB := (‹_ ∧ _ ∧ _ ∧ Hid (Chg [] w1 _)›).2.2.2); (with_reducible refine (specPadT D n1 _ B hDs hn3 EB.out).mono ?_); rintro e w3 ⟨rfl, b3⟩; have HC3 := Lib.hid (hBB.out.trans (Chg.of_below b3)); have HBZ3 := Lib.hid hBB.out.size; clear hBB))
    all_goals
      have bb3 := BBF.out _ HC3.out
      replace ka := ka.chg HC3.out (fun i hi hm => by simp at hm)
      (try (rename _ ∧ _ ∧ _ ∧ Hid (Chg _ _ _) => hgone; clear hgone))
      have hq1 : ¬ (9223372036854775807 < (1 : Int) + Q.size) := by omega
      by_cases h0 : 0 < a.2
      · have EQ := Lib.hid (HP1.out (by omega))
        have hs1 : (B.extract 0 K).size = K := by rw [ByteArray.size_extract]; omega
        have hs2 : (B.extract K B.size).size = B.size - K := by rw [ByteArray.size_extract]; omega
        cases hneg : a.1.1 with
        | true =>
          have HVV := Lib.hid (show T = (⟨#[45]⟩ : ByteArray) ++ (B.extract 0 K ++ ⟨#[46]⟩ ++ B.extract K B.size) by have h := HV.out; rw [hneg, EQ.out] at h; exact h)
          rw [hneg] at ka
          clear hneg
          have ka_c0 := ka.here.cell 0 _ rfl
          have ka_c1 := ka.here.cell 1 _ rfl
          have ka_c2 := ka.here.cell 2 _ rfl
          go_wp2
          go_quiet (fail)
          go_wp2
          go_ret
          exact ⟨ret_strD HVV.out.symm, below_drewN bb3 _⟩
        | false =>
          have HVV := Lib.hid (show T = (B.extract 0 K ++ ⟨#[46]⟩ ++ B.extract K B.size) by have h := HV.out; rw [hneg, EQ.out] at h; exact h)
          rw [hneg] at ka
          clear hneg
          have ka_c0 := ka.here.cell 0 _ rfl
          have ka_c1 := ka.here.cell 1 _ rfl
          have ka_c2 := ka.here.cell 2 _ rfl
          go_wp2
          go_quiet (fail)
          go_wp2
          go_ret
          exact ⟨ret_strD HVV.out.symm, below_drewN bb3 _⟩
      · have EQ := Lib.hid (HP0.out (by omega))
        cases hneg : a.1.1 with
        | true =>
          have HVV := Lib.hid (show T = (⟨#[45]⟩ : ByteArray) ++ B by have h := HV.out; rw [hneg, EQ.out] at h; exact h)
          rw [hneg] at ka
          clear hneg
          have ka_c0 := ka.here.cell 0 _ rfl
          have ka_c1 := ka.here.cell 1 _ rfl
          have ka_c2 := ka.here.cell 2 _ rfl
          go_wp2
          go_ret
          exact ⟨ret_strD HVV.out.symm, bb3⟩
        | false =>
          have HVV := Lib.hid (show T = B by have h := HV.out; rw [hneg, EQ.out] at h; exact h)
          rw [hneg] at ka
          clear hneg
          have ka_c0 := ka.here.cell 0 _ rfl
          have ka_c1 := ka.here.cell 1 _ rfl
          have ka_c2 := ka.here.cell 2 _ rfl
          go_wp2
          go_ret
          exact ⟨ret_strD HVV.out.symm, bb3⟩
  · have ok' : okD a = false := by simpa using ok
    have HV := Lib.hid (show (⟨#[]⟩ : ByteArray) = T by rw [← ET.out]; unfold textD; rw [if_neg ok])
    rw [ok']
    clear ok ok' ka
    go_wp2
    go_ret
    exact ⟨ret_strD HV.out, bb1⟩
end Go.Proofs.YtofehcpapdlcnaaGreatDoor

namespace Go.Proofs.YtofehcpapdlcnaaGreatDoor
open Go.RowKit

set_option maxHeartbeats 4000000 in
set_option maxRecDepth 100000 in
theorem specPercent_any (vd : Value) (d : DI) (w : World) (hl : d.1.2.length ≤ 1048576) (hd : OwnD vd d w) :
    Calls Tryz.prog 23 #[vd] w (PostT (pctT d) w) := by
  have Hd := Lib.hid hd
  obtain ⟨Ad, cd, rfl⟩ := ownD_form hd
  have ODd := Lib.hid (show ∀ W, Below w.heap.size w W → OwnD (.agg #[.bool d.1.1, .slice Ad d.1.2.length cd, .int .i64 d.2]) d W from fun W hb => OwnD.below Hd.out hb)
  have OId := Lib.hid (show ∀ W, Below w.heap.size w W → OwnI (.slice Ad d.1.2.length cd) d.1.2 W from fun W hb => ownD_open (ODd.out W hb))
  have OSd := Lib.hid (show ∀ W, Below w.heap.size w W → OwnS (.agg #[.bool d.1.1, .slice Ad d.1.2.length cd]) d.1 W from fun W hb => OwnS.mk (OId.out W hb))
  clear hd
  have bb0 : Below w.heap.size w (w.alloc (.cells #[.bool d.1.1, .slice Ad d.1.2.length cd, .int .i64 d.2] 40)) := below_al (Below.refl _ _) _
  have kd := (box_new w #[.bool d.1.1, .slice Ad d.1.2.length cd, .int .i64 d.2] 40)
  have EY := Lib.hid (show taxB d = true → pctT d = textD (lowD (mulD (lowD d) hunD).1) ++ ⟨#[37]⟩ from pctT_low)
  have EK := Lib.hid (show taxB d = true → (mulD (lowD d) hunD).2 = true from fun h => (hun_low h).1)
  have EN := Lib.hid (show taxB d = false → pctT d = ⟨#[]⟩ from pctT_no)
  generalize pctT d = T at *
  obtain ⟨tb, htb⟩ : ∃ b, taxB d = b := ⟨_, rfl⟩
  rw [htb] at EY EN EK
  have ETB := Lib.hid htb
  clear htb
  go_enter Tryz.func23, Tryz.ntmps23
  have kd_c0 := kd.here.cell 0 _ rfl
  have kd_c1 := kd.here.cell 1 _ rfl
  have kd_c2 := kd.here.cell 2 _ rfl
  go_wp2_with fail
  clear kd_c0 kd_c1 kd_c2
  refine (specTaxRateOk_any _ d _ hl (ODd.out _ bb0)).mono ?_
  rintro e w1 ⟨rfl, b1⟩
  rw [ETB.out]
  have bb1 := Below.next bb0 b1
  replace kd := kd.below b1
  cases tb with
  | false =>
    have HV := Lib.hid (EN.out rfl)
    clear kd EY EN
    go_wp2
    go_ret
    exact ⟨ret_strP HV.out.symm, bb1⟩
  | true =>
    have HV := Lib.hid (EY.out rfl)
    have HK := Lib.hid (EK.out rfl)
    clear EY EN EK
    obtain ⟨O, hO⟩ : ∃ O, ofZ 100 = O := ⟨_, rfl⟩
    have EO := Lib.hid hO
    have HOL := Lib.hid (show O.2.length ≤ 1048576 by have := ofZ_len 100; rw [hO] at this; omega)
    have hmz := hun_szP (lowD d)
    have hlz := low_lenP (mulD (lowD d) hunD).1
    have hlo := low_lenP d
    obtain ⟨⟨P, pb⟩, hP⟩ : ∃ Q, mulD (lowD d) hunD = Q := ⟨_, rfl⟩
    have EP := Lib.hid (show mulD (lowD d) (O, 0) = (P, pb) by rw [← hO]; exact hP)
    rw [hP] at HV hmz hlz HK
    dsimp only at HV hmz hlz HK
    clear hP hO
    obtain rfl : pb = true := HK.out
    obtain ⟨E, hE⟩ : ∃ E, lowD d = E := ⟨_, rfl⟩
    have EE := Lib.hid hE
    rw [hE] at EP hlo
    clear hE
    obtain ⟨L, hL⟩ : ∃ L, lowD P = L := ⟨_, rfl⟩
    have EL := Lib.hid hL
    rw [hL] at HV hlz
    clear hL
    have kd_c0 := kd.here.cell 0 _ rfl
    have kd_c1 := kd.here.cell 1 _ rfl
    have kd_c2 := kd.here.cell 2 _ rfl
    go_wp2_with fail
    clear kd_c0 kd_c1 kd_c2
    refine ((specDecLow_any _ d _ hl (ODd.out _ bb1)).mono fun _ _ h => newVD_eq EE.out h).mono ?_
    rintro e w2 ⟨ue, Se, rfl, oe, le, b2⟩
    obtain ⟨Ae, ce, rfl⟩ := ownD_form oe.here
    have bb2 := Below.next bb1 b2
    replace kd := kd.below b2
    go_wp2_with fail
    refine ((specIntOf_any 100 _ (by omega) (by omega)).mono fun _ _ h => newS_is EO.out h).mono ?_
    rintro e w3 ⟨ui, Si, rfl, oi, li, b3⟩
    obtain ⟨Ai, ci, rfl⟩ := ownS_form oi.here
    have bb3 := Below.next bb2 b3
    replace kd := kd.below b3
    replace oe := oe.below b3
    go_wp2_with fail
    refine ((specDecMul_any _ _ E (O, 0) _ hlo HOL.out oe.here (OwnD.mk (q := (O, 0)) (ownS_openD oi.here))).mono fun _ _ h => postDb_is EP.out h).mono ?_
    rintro e w4 ⟨uf, Sf, rfl, of, lf, b4⟩
    obtain ⟨Af, cf, rfl⟩ := ownD_form of.here
    have bb4 := Below.next bb3 b4
    replace kd := kd.below b4
    replace oe := oe.below b4
    replace oi := oi.below b4
    clear oe oi kd
    have ky := box_new (w4) #[.bool P.1.1, .slice Af P.1.2.length cf, .int .i64 P.2] 40
    have aly := below_al (Below.refl (w4).heap.size (w4)) (.cells #[.bool P.1.1, .slice Af P.1.2.length cf, .int .i64 P.2] 40)
    have bby := Below.next bb4 aly
    replace of := of.below aly
    have ky_c0 := ky.here.cell 0 _ rfl
    have ky_c1 := ky.here.cell 1 _ rfl
    have ky_c2 := ky.here.cell 2 _ rfl
    go_wp2_with fail
    clear ky_c0 ky_c1 ky_c2
    refine ((specDecLow_any _ P _ hmz of.here).mono fun _ _ h => newVD_eq EL.out h).mono ?_
    rintro e w5 ⟨ug, Sg, rfl, og, lg, b5⟩
    obtain ⟨Ag, cg, rfl⟩ := ownD_form og.here
    have bb5 := Below.next bby b5
    replace of := of.below b5
    replace ky := ky.below b5
    go_wp2_with fail
    refine (specDecText_any _ L _ hlz og.here).mono ?_
    rintro e w6 ⟨rfl, b6⟩
    have bb6 := Below.next bb5 b6
    replace of := of.below b6
    replace ky := ky.below b6
    replace og := og.below b6
    clear of ky og
    have hxs := textD_size L
    generalize textD L = X at *
    have hq1 : ¬ (9223372036854775807 < X.size + 1) := by omega
    have hq2 : ¬ (9223372036854775807 < X.size + (⟨#[37]⟩ : ByteArray).size) := hq1
    go_wp2
    go_ret
    exact ⟨ret_strP HV.out.symm, bb6⟩
end Go.Proofs.YtofehcpapdlcnaaGreatDoor

namespace Go.Proofs.YtofehcpapdlcnaaGreatDoor
open Go.RowKit

set_option maxHeartbeats 2000000 in
set_option maxRecDepth 100000 in
theorem raised_any (va : Value) (a : DI) (s : Int) (B : Nat) (w : World) (hla : a.1.2.length ≤ 1048576) (h0 : 0 ≤ s - a.2) (h1 : s - a.2 ≤ 1000) (ha : OwnD va a w) (hk : At [B] (BoxAt B #[.int .i64 s] 3) w) :
    Calls Tryz.prog 193 #[va, .pointer (some ⟨B, 0, none⟩)] w (NewV (fun v => OwnS v (upS a s)) w) := by
  have Ha := Lib.hid ha
  obtain ⟨Aa, ca, rfl⟩ := ownD_form ha
  have ODa := Lib.hid (show ∀ W, Below w.heap.size w W → OwnD (.agg #[.bool a.1.1, .slice Aa a.1.2.length ca, .int .i64 a.2]) a W from fun W hb => OwnD.below Ha.out hb)
  have OIa := Lib.hid (show ∀ W, Below w.heap.size w W → OwnI (.slice Aa a.1.2.length ca) a.1.2 W from fun W hb => ownD_open (ODa.out W hb))
  have OSa := Lib.hid (show ∀ W, Below w.heap.size w W → OwnS (.agg #[.bool a.1.1, .slice Aa a.1.2.length ca]) a.1 W from fun W hb => OwnS.mk (OIa.out W hb))
  clear ha
  obtain ⟨X, hX⟩ : ∃ X, upS a s = X := ⟨_, rfl⟩
  obtain ⟨ja, hja⟩ : ∃ j, IntKind.i64.wrap (s - a.2) = j := ⟨_, rfl⟩
  have hka : ja = s - a.2 := by rw [← hja]; exact IntWalk.i64_in _ (by omega)
  have Ea := Lib.hid (show mulS a.1 (tenS ja) = X by rw [hka, ← hX]; rfl)
  rw [hX]
  clear hX hka h0 h1
  have HLB := Lib.hid (hk.lt B (by simp))
  have ks := hk
  clear hk
  have bb0 : Below w.heap.size w ((w.alloc (.cells #[.bool a.1.1, .slice Aa a.1.2.length ca, .int .i64 a.2] 40)).alloc (.cells #[.bool false, .slice none 0 0] 31)) := below_al (below_al (Below.refl _ _) _) _
  have ka := (box_new w #[.bool a.1.1, .slice Aa a.1.2.length ca, .int .i64 a.2] 40).below (below_al (Below.refl _ _) (.cells #[.bool false, .slice none 0 0] 31))
  have ko := (box_new (w.alloc (.cells #[.bool a.1.1, .slice Aa a.1.2.length ca, .int .i64 a.2] 40)) #[.bool false, .slice none 0 0] 31)
  rw [show (w.alloc (.cells #[.bool a.1.1, .slice Aa a.1.2.length ca, .int .i64 a.2] 40)).heap.size = w.heap.size + 1 by simp] at ko
  have HKO := Lib.hid (ko.lt (w.heap.size + 1) (by simp))
  replace ks := ks.below bb0
  obtain ⟨W0, hW0⟩ : ∃ W0, W0 = ((w.alloc (.cells #[.bool a.1.1, .slice Aa a.1.2.length ca, .int .i64 a.2] 40)).alloc (.cells #[.bool false, .slice none 0 0] 31)) := ⟨_, rfl⟩
  rw [← hW0] at bb0 ka ko ks HKO
  have HW0 := Lib.hid hW0
  clear hW0
  go_enter Tryz.func193, Tryz.ntmps193
  have hlb := HLB.out
  have hko := HKO.out
  have ka_c0 := ka.here.cell 0 _ rfl
  have ka_c1 := ka.here.cell 1 _ rfl
  have ka_c2 := ka.here.cell 2 _ rfl
  have ks_c0 := ks.here.cell 0 _ rfl
  rw [HW0.out] at ka_c0 ka_c1 ka_c2 ks_c0
  go_wp2_with fail
  rw [← HW0.out]
  clear ka_c0 ka_c1 ka_c2 ks_c0
  have HC0 := Lib.hid (show Chg [w.heap.size + 1] W0 W0.drew from (Chg.refl _ _).drew1)
  have HCr := Lib.hid (show Chg [w.heap.size + 1] W0 W0 from Chg.refl _ _)
  have KL := Lib.hid (show ∀ W, Chg [w.heap.size + 1] W0 W → W.cell? ⟨w.heap.size, 0, none⟩ = some (.bool a.1.1) ∧ W.cell? ⟨w.heap.size, 1, none⟩ = some (.slice Aa a.1.2.length ca) ∧ W.cell? ⟨w.heap.size, 2, none⟩ = some (.int .i64 a.2) ∧ W.cell? ⟨B, 0, none⟩ = some (.int .i64 s) ∧ Hid (Chg [w.heap.size + 1] W0 W) from fun W hc => ⟨(ka.chg hc (fun i hi hm => by simp at hi hm; omega)).here.cell 0 _ rfl, (ka.chg hc (fun i hi hm => by simp at hi hm; omega)).here.cell 1 _ rfl, (ka.chg hc (fun i hi hm => by simp at hi hm; omega)).here.cell 2 _ rfl, (ks.chg hc (fun i hi hm => by simp at hi hm; omega)).here.cell 0 _ rfl, Lib.hid hc⟩)
  have BBF := Lib.hid (show ∀ W, Chg [w.heap.size + 1] W0 W → Below w.heap.size w W from fun W hc => below_chg bb0 hc bb0.size (fun i hi => by simp at hi; omega))
  go_region_held3 (fun W => W.cell? ⟨w.heap.size, 0, none⟩ = some (.bool a.1.1) ∧ W.cell? ⟨w.heap.size, 1, none⟩ = some (.slice Aa a.1.2.length ca) ∧ W.cell? ⟨w.heap.size, 2, none⟩ = some (.int .i64 a.2) ∧ W.cell? ⟨B, 0, none⟩ = some (.int .i64 s) ∧ Hid (Chg [w.heap.size + 1] W0 W))
    ((refine KL.out _ ?_; (first | exact HC2.out | exact HC1.out | exact HCr.out | exact HC0.out | exact HC2.out.drew1 | exact HC1.out.drew1 | exact HCr.out.drew1 | exact HC0.out.drew1 | exact HC2.out.trans (Chg.of_below (below_al (Below.refl _ _) _)) | exact HC1.out.trans (Chg.of_below (below_al (Below.refl _ _) _)) | exact HCr.out.trans (Chg.of_below (below_al (Below.refl _ _) _)) | exact HC0.out.trans (Chg.of_below (below_al (Below.refl _ _) _)) | exact (Chg.setCell HC2.out (by simp) _) | exact (Chg.setCell (Chg.setCell HC2.out (by simp) _) (by simp) _) | fail)))
    (first
      | (go_at_call 138; (have hBB := (‹_ ∧ _ ∧ _ ∧ _ ∧ Hid (Chg [w.heap.size + 1] W0 _)›).2.2.2.2); (with_reducible refine (tenTo_any ja _).mono ?_); rintro e w1 ⟨ut1, St1, rfl, ot1, lt1, b1⟩; have HC1 := Lib.hid (hBB.out.trans (Chg.of_below b1)); (have ko_1 := At.below (by first | exact ko | exact At.below ko (below_al (Below.refl _ _) _) | exact At.below (At.below ko (below_al (Below.refl _ _) _)) (below_al (Below.refl _ _) _) | exact At.move ko (fun _ _ => rfl) (Nat.le_refl _)) b1); obtain ⟨At1, ct1, rfl⟩ := ownS_form ot1.here; have HBZ1 := Lib.hid hBB.out.size; clear hBB)
      | (go_at_call 106; (have hBB := (‹_ ∧ _ ∧ _ ∧ _ ∧ Hid (Chg [w.heap.size + 1] W0 _)›).2.2.2.2); (with_reducible refine ((implIntMul_any _ _ a.1 (tenS ja) _ (by omega) (tenS_len _) (OSa.out _ (BBF.out _ hBB.out)) (At.here (by first | exact ot1 | exact At.below ot1 (below_al (Below.refl _ _) _) | exact At.below (At.below ot1 (below_al (Below.refl _ _) _)) (below_al (Below.refl _ _) _) | exact At.move ot1 (fun _ _ => rfl) (Nat.le_refl _)))).mono fun _ _ h => newS_is Ea.out h).mono ?_); rintro e w2 ⟨um1, Sm1, rfl, om1, lm1, b2⟩; have HC2 := Lib.hid (hBB.out.trans (Chg.of_below b2)); (have ko_2 := At.below (by first | exact ko_1 | exact At.below ko_1 (below_al (Below.refl _ _) _) | exact At.below (At.below ko_1 (below_al (Below.refl _ _) _)) (below_al (Below.refl _ _) _) | exact At.move ko_1 (fun _ _ => rfl) (Nat.le_refl _)) b2); (have ot1_2 := At.below (by first | exact ot1 | exact At.below ot1 (below_al (Below.refl _ _) _) | exact At.below (At.below ot1 (below_al (Below.refl _ _) _)) (below_al (Below.refl _ _) _) | exact At.move ot1 (fun _ _ => rfl) (Nat.le_refl _)) b2); obtain ⟨Am1, cm1, rfl⟩ := ownS_form om1.here; have cz0 := ko_2.here.cell 0 _ rfl; have fz0 := Lib.frozen_of_heap ko_2.here 0; have cz1 := ko_2.here.cell 1 _ rfl; have fz1 := Lib.frozen_of_heap ko_2.here 1; have HBZ2 := Lib.hid hBB.out.size; clear hBB))
  have bb2 := BBF.out _ HC2.out
  replace ka := ka.chg HC2.out (fun i hi hm => by simp at hi hm; omega)
  replace ks := ks.chg HC2.out (fun i hi hm => by simp at hi hm; omega)
  replace ko := ko_2
  have ot1 := ot1_2
  have HW := Lib.hid (newV_chg (φ := fun v => OwnS v X) (v := .agg #[.bool X.1, .slice Am1 X.2.length cm1]) (T := [w.heap.size + 1]) om1 (fun i hi hm => by have := lm1 i hi; have := HBZ2.out; simp at hm; omega) (fun i hi => by simp at hi; omega) (fun i hi => by have := lm1 i hi; have := HBZ2.out; omega) bb2)
  clear om1 ot1 ko ka ks
  go_wp2
  refine bodyPost_ret (v := .agg #[.bool X.1, .slice Am1 X.2.length cm1]) (by simp [results, Tryz.results193, go_sem, cz0, cz1]) rfl ?_
  refine HW.out _ ?_
  repeat (first | exact Chg.refl _ _ | refine Chg.setCell ?_ (by simp) _)
set_option maxHeartbeats 4000000 in
set_option maxRecDepth 100000 in
theorem common_any (va vb : Value) (a b : DI) (w : World) (pa : okD a = true) (pb : okD b = true) (ha : OwnD va a w) (hb : OwnD vb b w) :
    Calls Tryz.prog 151 #[va, vb] w (PostSS (upS a (topD a b)) (upS b (topD a b)) w) := by
  have Ha := Lib.hid ha
  obtain ⟨Aa, ca, rfl⟩ := ownD_form ha
  have ODa := Lib.hid (show ∀ W, Below w.heap.size w W → OwnD (.agg #[.bool a.1.1, .slice Aa a.1.2.length ca, .int .i64 a.2]) a W from fun W hb => OwnD.below Ha.out hb)
  have OIa := Lib.hid (show ∀ W, Below w.heap.size w W → OwnI (.slice Aa a.1.2.length ca) a.1.2 W from fun W hb => ownD_open (ODa.out W hb))
  have OSa := Lib.hid (show ∀ W, Below w.heap.size w W → OwnS (.agg #[.bool a.1.1, .slice Aa a.1.2.length ca]) a.1 W from fun W hb => OwnS.mk (OIa.out W hb))
  clear ha
  have Hb := Lib.hid hb
  obtain ⟨Ab, cb, rfl⟩ := ownD_form hb
  have ODb := Lib.hid (show ∀ W, Below w.heap.size w W → OwnD (.agg #[.bool b.1.1, .slice Ab b.1.2.length cb, .int .i64 b.2]) b W from fun W hb => OwnD.below Hb.out hb)
  have OIb := Lib.hid (show ∀ W, Below w.heap.size w W → OwnI (.slice Ab b.1.2.length cb) b.1.2 W from fun W hb => ownD_open (ODb.out W hb))
  have OSb := Lib.hid (show ∀ W, Below w.heap.size w W → OwnS (.agg #[.bool b.1.1, .slice Ab b.1.2.length cb]) b.1 W from fun W hb => OwnS.mk (OIb.out W hb))
  clear hb
  have qa := partsD pa
  have qb := partsD pb
  have la := qa.len
  have lb := qb.len
  have ta := qa.lo
  have ta2 := qa.hi
  have tb := qb.lo
  have tb2 := qb.hi
  have tt := topD_le qa qb
  clear qa qb pa pb
  have bb0 : Below w.heap.size w ((((w.alloc (.cells #[.bool a.1.1, .slice Aa a.1.2.length ca, .int .i64 a.2] 40)).alloc (.cells #[.bool b.1.1, .slice Ab b.1.2.length cb, .int .i64 b.2] 40)).alloc (.cells #[.bool false, .slice none 0 0] 31)).alloc (.cells #[.bool false, .slice none 0 0] 31)) := below_al (below_al (below_al (below_al (Below.refl _ _) _) _) _) _
  have ka := (box_new w #[.bool a.1.1, .slice Aa a.1.2.length ca, .int .i64 a.2] 40).below (below_al (below_al (below_al (Below.refl _ _) (.cells #[.bool b.1.1, .slice Ab b.1.2.length cb, .int .i64 b.2] 40)) (.cells #[.bool false, .slice none 0 0] 31)) (.cells #[.bool false, .slice none 0 0] 31))
  have kb := (box_new (w.alloc (.cells #[.bool a.1.1, .slice Aa a.1.2.length ca, .int .i64 a.2] 40)) #[.bool b.1.1, .slice Ab b.1.2.length cb, .int .i64 b.2] 40).below (below_al (below_al (Below.refl _ _) (.cells #[.bool false, .slice none 0 0] 31)) (.cells #[.bool false, .slice none 0 0] 31))
  rw [show (w.alloc (.cells #[.bool a.1.1, .slice Aa a.1.2.length ca, .int .i64 a.2] 40)).heap.size = w.heap.size + 1 by simp] at kb
  have kp := (box_new ((w.alloc (.cells #[.bool a.1.1, .slice Aa a.1.2.length ca, .int .i64 a.2] 40)).alloc (.cells #[.bool b.1.1, .slice Ab b.1.2.length cb, .int .i64 b.2] 40)) #[.bool false, .slice none 0 0] 31).below (below_al (Below.refl _ _) (.cells #[.bool false, .slice none 0 0] 31))
  rw [show ((w.alloc (.cells #[.bool a.1.1, .slice Aa a.1.2.length ca, .int .i64 a.2] 40)).alloc (.cells #[.bool b.1.1, .slice Ab b.1.2.length cb, .int .i64 b.2] 40)).heap.size = w.heap.size + 1 + 1 by simp] at kp
  have kq := (box_new (((w.alloc (.cells #[.bool a.1.1, .slice Aa a.1.2.length ca, .int .i64 a.2] 40)).alloc (.cells #[.bool b.1.1, .slice Ab b.1.2.length cb, .int .i64 b.2] 40)).alloc (.cells #[.bool false, .slice none 0 0] 31)) #[.bool false, .slice none 0 0] 31)
  rw [show (((w.alloc (.cells #[.bool a.1.1, .slice Aa a.1.2.length ca, .int .i64 a.2] 40)).alloc (.cells #[.bool b.1.1, .slice Ab b.1.2.length cb, .int .i64 b.2] 40)).alloc (.cells #[.bool false, .slice none 0 0] 31)).heap.size = w.heap.size + 1 + 1 + 1 by simp] at kq
  have HKP := Lib.hid (kp.lt (w.heap.size + 1 + 1) (by simp))
  have HKQ := Lib.hid (kq.lt (w.heap.size + 1 + 1 + 1) (by simp))
  have hmx := topD_max a b
  have hmx2 : (if a.2 < b.2 then b.2 else a.2) = topD a b := rfl
  have hmf : ∀ (fn : Fn) (first cap : Array Value) (w : World), (Instr.makeFunc fn first cap).run Tryz.prog w = .ok (.func fn first cap) w := fun _ _ _ _ => rfl
  obtain ⟨X, hX⟩ : ∃ X, upS a (topD a b) = X := ⟨_, rfl⟩
  obtain ⟨Y, hY⟩ : ∃ Y, upS b (topD a b) = Y := ⟨_, rfl⟩
  have EX := Lib.hid hX
  have EY := Lib.hid hY
  rw [hX, hY]
  clear hX hY
  go_enter Tryz.func151, Tryz.ntmps151
  have ka_c0 := ka.here.cell 0 _ rfl
  have ka_c1 := ka.here.cell 1 _ rfl
  have ka_c2 := ka.here.cell 2 _ rfl
  have kb_c0 := kb.here.cell 0 _ rfl
  have kb_c1 := kb.here.cell 1 _ rfl
  have kb_c2 := kb.here.cell 2 _ rfl
  have ks := box_new (((((w.alloc (.cells #[.bool a.1.1, .slice Aa a.1.2.length ca, .int .i64 a.2] 40)).alloc (.cells #[.bool b.1.1, .slice Ab b.1.2.length cb, .int .i64 b.2] 40)).alloc (.cells #[.bool false, .slice none 0 0] 31)).alloc (.cells #[.bool false, .slice none 0 0] 31))) #[.int .i64 (topD a b)] 3
  have als := below_al (Below.refl (((((w.alloc (.cells #[.bool a.1.1, .slice Aa a.1.2.length ca, .int .i64 a.2] 40)).alloc (.cells #[.bool b.1.1, .slice Ab b.1.2.length cb, .int .i64 b.2] 40)).alloc (.cells #[.bool false, .slice none 0 0] 31)).alloc (.cells #[.bool false, .slice none 0 0] 31))).heap.size (((((w.alloc (.cells #[.bool a.1.1, .slice Aa a.1.2.length ca, .int .i64 a.2] 40)).alloc (.cells #[.bool b.1.1, .slice Ab b.1.2.length cb, .int .i64 b.2] 40)).alloc (.cells #[.bool false, .slice none 0 0] 31)).alloc (.cells #[.bool false, .slice none 0 0] 31)))) (.cells #[.int .i64 (topD a b)] 3)
  have bbs := Below.next bb0 als
  replace ka := ka.below als
  replace kb := kb.below als
  replace kp := kp.below als
  replace kq := kq.below als
  rw [show ((((w.alloc (.cells #[.bool a.1.1, .slice Aa a.1.2.length ca, .int .i64 a.2] 40)).alloc (.cells #[.bool b.1.1, .slice Ab b.1.2.length cb, .int .i64 b.2] 40)).alloc (.cells #[.bool false, .slice none 0 0] 31)).alloc (.cells #[.bool false, .slice none 0 0] 31)).heap.size = w.heap.size + 1 + 1 + 1 + 1 by simp] at ks
  go_wp2_with fail
  clear ka_c0 ka_c1 ka_c2 kb_c0 kb_c1 kb_c2
  obtain ⟨W0, hW0⟩ : ∃ W0, W0 = ((((w.alloc (.cells #[.bool a.1.1, .slice Aa a.1.2.length ca, .int .i64 a.2] 40)).alloc (.cells #[.bool b.1.1, .slice Ab b.1.2.length cb, .int .i64 b.2] 40)).alloc (.cells #[.bool false, .slice none 0 0] 31)).alloc (.cells #[.bool false, .slice none 0 0] 31)).alloc (.cells #[.int .i64 (topD a b)] 3) := ⟨_, rfl⟩
  rw [← hW0] at bbs ka kb kp kq ks als ⊢
  clear hW0
  have hls := ks.lt _ (List.mem_singleton.2 rfl)
  have hr1 : 0 ≤ topD a b - a.2 := by omega
  have hr2 : topD a b - a.2 ≤ 1000 := by omega
  have hr3 : 0 ≤ topD a b - b.2 := by omega
  have hr4 : topD a b - b.2 ≤ 1000 := by omega
  clear hmx hmx2
  have la2 : a.1.2.length ≤ 1048576 := by omega
  have lb2 : b.1.2.length ≤ 1048576 := by omega
  have ka_c0 := ka.here.cell 0 _ rfl
  have ka_c1 := ka.here.cell 1 _ rfl
  have ka_c2 := ka.here.cell 2 _ rfl
  have kb_c0 := kb.here.cell 0 _ rfl
  have kb_c1 := kb.here.cell 1 _ rfl
  have kb_c2 := kb.here.cell 2 _ rfl
  have ks_c0 := ks.here.cell 0 _ rfl
  have HC0 := Lib.hid (show Chg [w.heap.size + 1 + 1, w.heap.size + 1 + 1 + 1] W0 W0.drew from (Chg.refl _ _).drew1)
  have HCr := Lib.hid (show Chg [w.heap.size + 1 + 1, w.heap.size + 1 + 1 + 1] W0 W0 from Chg.refl _ _)
  have KL := Lib.hid (show ∀ W, Chg [w.heap.size + 1 + 1, w.heap.size + 1 + 1 + 1] W0 W → W.cell? ⟨w.heap.size, 0, none⟩ = some (.bool a.1.1) ∧ W.cell? ⟨w.heap.size, 1, none⟩ = some (.slice Aa a.1.2.length ca) ∧ W.cell? ⟨w.heap.size, 2, none⟩ = some (.int .i64 a.2) ∧ W.cell? ⟨w.heap.size + 1, 0, none⟩ = some (.bool b.1.1) ∧ W.cell? ⟨w.heap.size + 1, 1, none⟩ = some (.slice Ab b.1.2.length cb) ∧ W.cell? ⟨w.heap.size + 1, 2, none⟩ = some (.int .i64 b.2) ∧ Hid (Chg [w.heap.size + 1 + 1, w.heap.size + 1 + 1 + 1] W0 W) from fun W hc => ⟨(ka.chg hc (fun i hi hm => by simp at hi hm; omega)).here.cell 0 _ rfl, (ka.chg hc (fun i hi hm => by simp at hi hm; omega)).here.cell 1 _ rfl, (ka.chg hc (fun i hi hm => by simp at hi hm; omega)).here.cell 2 _ rfl, (kb.chg hc (fun i hi hm => by simp at hi hm; omega)).here.cell 0 _ rfl, (kb.chg hc (fun i hi hm => by simp at hi hm; omega)).here.cell 1 _ rfl, (kb.chg hc (fun i hi hm => by simp at hi hm; omega)).here.cell 2 _ rfl, Lib.hid hc⟩)
  have BBF := Lib.hid (show ∀ W, Chg [w.heap.size + 1 + 1, w.heap.size + 1 + 1 + 1] W0 W → Below w.heap.size w W from fun W hc => below_chg bbs hc bbs.size (fun i hi => by simp at hi; omega))
  clear ka_c0 ka_c1 ka_c2 kb_c0 kb_c1 kb_c2 ks_c0
  go_region_held3 (fun W => W.cell? ⟨w.heap.size, 0, none⟩ = some (.bool a.1.1) ∧ W.cell? ⟨w.heap.size, 1, none⟩ = some (.slice Aa a.1.2.length ca) ∧ W.cell? ⟨w.heap.size, 2, none⟩ = some (.int .i64 a.2) ∧ W.cell? ⟨w.heap.size + 1, 0, none⟩ = some (.bool b.1.1) ∧ W.cell? ⟨w.heap.size + 1, 1, none⟩ = some (.slice Ab b.1.2.length cb) ∧ W.cell? ⟨w.heap.size + 1, 2, none⟩ = some (.int .i64 b.2) ∧ Hid (Chg [w.heap.size + 1 + 1, w.heap.size + 1 + 1 + 1] W0 W))
    ((refine KL.out _ ?_; (repeat with_reducible refine Chg.setCell ?_ (by simp) _); (first | with_reducible exact HC2.out | with_reducible exact HC1.out | with_reducible exact HCr.out | with_reducible exact HC0.out | with_reducible exact HC2.out.drew1 | with_reducible exact HC1.out.drew1 | with_reducible exact HCr.out.drew1 | with_reducible exact HC0.out.drew1 | fail)))
    (first
      | (go_at_call 193; (have hBB := (‹_ ∧ _ ∧ _ ∧ _ ∧ _ ∧ _ ∧ Hid (Chg [w.heap.size + 1 + 1, w.heap.size + 1 + 1 + 1] W0 _)›).2.2.2.2.2.2); (with_reducible refine ((raised_any _ a (topD a b) _ _ la2 hr1 hr2 (ODa.out _ (BBF.out _ hBB.out)) (by first | exact ks | exact At.below ks (below_al (Below.refl _ _) _) | exact At.below (At.below ks (below_al (Below.refl _ _) _)) (below_al (Below.refl _ _) _) | exact At.move ks (fun _ _ => rfl) (Nat.le_refl _))).mono fun _ _ h => newVS_eqD EX.out h).mono ?_); rintro e w1 ⟨um1, Sm1, rfl, om1, lm1, b1⟩; have HC1 := Lib.hid (hBB.out.trans (Chg.of_below b1)); (have kp_1 := At.below (by first | exact kp | exact At.below kp (below_al (Below.refl _ _) _) | exact At.below (At.below kp (below_al (Below.refl _ _) _)) (below_al (Below.refl _ _) _) | exact At.move kp (fun _ _ => rfl) (Nat.le_refl _)) b1); (have kq_1 := At.below (by first | exact kq | exact At.below kq (below_al (Below.refl _ _) _) | exact At.below (At.below kq (below_al (Below.refl _ _) _)) (below_al (Below.refl _ _) _) | exact At.move kq (fun _ _ => rfl) (Nat.le_refl _)) b1); (have ks_1 := At.below (by first | exact ks | exact At.below ks (below_al (Below.refl _ _) _) | exact At.below (At.below ks (below_al (Below.refl _ _) _)) (below_al (Below.refl _ _) _) | exact At.move ks (fun _ _ => rfl) (Nat.le_refl _)) b1); obtain ⟨Am1, cm1, rfl⟩ := ownS_form om1.here; have HBZ1 := Lib.hid hBB.out.size; clear hBB)
      | (go_at_call 193; (have hBB := (‹_ ∧ _ ∧ _ ∧ _ ∧ _ ∧ _ ∧ Hid (Chg [w.heap.size + 1 + 1, w.heap.size + 1 + 1 + 1] W0 _)›).2.2.2.2.2.2); (with_reducible refine ((raised_any _ b (topD a b) _ _ lb2 hr3 hr4 (ODb.out _ (BBF.out _ hBB.out)) (by first | exact ks_1 | exact At.below ks_1 (below_al (Below.refl _ _) _) | exact At.below (At.below ks_1 (below_al (Below.refl _ _) _)) (below_al (Below.refl _ _) _) | exact At.move ks_1 (fun _ _ => rfl) (Nat.le_refl _))).mono fun _ _ h => newVS_eqD EY.out h).mono ?_); rintro e w2 ⟨um2, Sm2, rfl, om2, lm2, b2⟩; have HC2 := Lib.hid (hBB.out.trans (Chg.of_below b2)); (have kp_2 := At.below (by first | exact kp_1 | exact At.below kp_1 (below_al (Below.refl _ _) _) | exact At.below (At.below kp_1 (below_al (Below.refl _ _) _)) (below_al (Below.refl _ _) _) | exact At.move kp_1 (fun _ _ => rfl) (Nat.le_refl _)) b2); (have kq_2 := At.below (by first | exact kq_1 | exact At.below kq_1 (below_al (Below.refl _ _) _) | exact At.below (At.below kq_1 (below_al (Below.refl _ _) _)) (below_al (Below.refl _ _) _) | exact At.move kq_1 (fun _ _ => rfl) (Nat.le_refl _)) b2); (have ks_2 := At.below (by first | exact ks_1 | exact At.below ks_1 (below_al (Below.refl _ _) _) | exact At.below (At.below ks_1 (below_al (Below.refl _ _) _)) (below_al (Below.refl _ _) _) | exact At.move ks_1 (fun _ _ => rfl) (Nat.le_refl _)) b2); (have om1_2 := At.below (by first | exact om1 | exact At.below om1 (below_al (Below.refl _ _) _) | exact At.below (At.below om1 (below_al (Below.refl _ _) _)) (below_al (Below.refl _ _) _) | exact At.move om1 (fun _ _ => rfl) (Nat.le_refl _)) b2); obtain ⟨Am2, cm2, rfl⟩ := ownS_form om2.here; have czp0 := kp_2.here.cell 0 _ rfl; have fzp0 := Lib.frozen_of_heap kp_2.here 0; have czp1 := kp_2.here.cell 1 _ rfl; have fzp1 := Lib.frozen_of_heap kp_2.here 1; have czq0 := kq_2.here.cell 0 _ rfl; have fzq0 := Lib.frozen_of_heap kq_2.here 0; have czq1 := kq_2.here.cell 1 _ rfl; have fzq1 := Lib.frozen_of_heap kq_2.here 1; have HBZ2 := Lib.hid hBB.out.size; clear hBB))
  have bb2 := BBF.out _ HC2.out
  replace ka := ka.chg HC2.out (fun i hi hm => by simp at hi hm; omega)
  replace kb := kb.chg HC2.out (fun i hi hm => by simp at hi hm; omega)
  replace kp := kp_2
  replace kq := kq_2
  replace ks := ks_2
  have om1 := om1_2
  have z1 := HBZ2.out
  have zb1 := HBZ1.out
  have HW := Lib.hid (postSS_chg (R := [w.heap.size + 1 + 1, w.heap.size + 1 + 1 + 1]) om1 om2 (fun i hi hm => by have := lm1 i hi; simp at hm; omega) (fun i hi hm => by have := lm2 i hi; simp at hm; omega) (fun i hi => by simp at hi; omega) (fun i hi => by have := lm1 i hi; omega) (fun i hi => by have := lm2 i hi; omega) bb2)
  go_wp2
  refine bodyPost_ret (v := .tuple #[.agg #[.bool X.1, .slice Am1 X.2.length cm1], .agg #[.bool Y.1, .slice Am2 Y.2.length cm2]]) (by simp [results, Tryz.results151, go_sem, czp0, czp1, czq0, czq1]) rfl ?_
  refine HW.out _ ?_
  repeat (first | exact Chg.refl _ _ | refine Chg.setCell ?_ (by simp) _)
set_option maxHeartbeats 4000000 in
set_option maxRecDepth 100000 in
theorem implDecMul_any (va vb : Value) (a b : DI) (w : World) (hla : a.1.2.length ≤ 1048576) (hlb : b.1.2.length ≤ 1048576) (ha : OwnD va a w) (hb : OwnD vb b w) :
    Calls Tryz.prog 59 #[va, vb] w (PostDb (mulD a b).1 (mulD a b).2 w) := by
  have Ha := Lib.hid ha
  obtain ⟨Aa, ca, rfl⟩ := ownD_form ha
  have ODa := Lib.hid (show ∀ W, Below w.heap.size w W → OwnD (.agg #[.bool a.1.1, .slice Aa a.1.2.length ca, .int .i64 a.2]) a W from fun W hb => OwnD.below Ha.out hb)
  have OIa := Lib.hid (show ∀ W, Below w.heap.size w W → OwnI (.slice Aa a.1.2.length ca) a.1.2 W from fun W hb => ownD_open (ODa.out W hb))
  have OSa := Lib.hid (show ∀ W, Below w.heap.size w W → OwnS (.agg #[.bool a.1.1, .slice Aa a.1.2.length ca]) a.1 W from fun W hb => OwnS.mk (OIa.out W hb))
  clear ha
  have Hb := Lib.hid hb
  obtain ⟨Ab, cb, rfl⟩ := ownD_form hb
  have ODb := Lib.hid (show ∀ W, Below w.heap.size w W → OwnD (.agg #[.bool b.1.1, .slice Ab b.1.2.length cb, .int .i64 b.2]) b W from fun W hb => OwnD.below Hb.out hb)
  have OIb := Lib.hid (show ∀ W, Below w.heap.size w W → OwnI (.slice Ab b.1.2.length cb) b.1.2 W from fun W hb => ownD_open (ODb.out W hb))
  have OSb := Lib.hid (show ∀ W, Below w.heap.size w W → OwnS (.agg #[.bool b.1.1, .slice Ab b.1.2.length cb]) b.1 W from fun W hb => OwnS.mk (OIb.out W hb))
  clear hb
  have bb0 : Below w.heap.size w (((w.alloc (.cells #[.bool a.1.1, .slice Aa a.1.2.length ca, .int .i64 a.2] 40)).alloc (.cells #[.bool b.1.1, .slice Ab b.1.2.length cb, .int .i64 b.2] 40)).alloc (.cells #[.bool false, .slice none 0 0, .int .i64 0] 40)) := below_al (below_al (below_al (Below.refl _ _) _) _) _
  have ka := (box_new w #[.bool a.1.1, .slice Aa a.1.2.length ca, .int .i64 a.2] 40).below (below_al (below_al (Below.refl _ _) (.cells #[.bool b.1.1, .slice Ab b.1.2.length cb, .int .i64 b.2] 40)) (.cells #[.bool false, .slice none 0 0, .int .i64 0] 40))
  have kb := (box_new (w.alloc (.cells #[.bool a.1.1, .slice Aa a.1.2.length ca, .int .i64 a.2] 40)) #[.bool b.1.1, .slice Ab b.1.2.length cb, .int .i64 b.2] 40).below (below_al (Below.refl _ _) (.cells #[.bool false, .slice none 0 0, .int .i64 0] 40))
  rw [show (w.alloc (.cells #[.bool a.1.1, .slice Aa a.1.2.length ca, .int .i64 a.2] 40)).heap.size = w.heap.size + 1 by simp] at kb
  have ko := (box_new ((w.alloc (.cells #[.bool a.1.1, .slice Aa a.1.2.length ca, .int .i64 a.2] 40)).alloc (.cells #[.bool b.1.1, .slice Ab b.1.2.length cb, .int .i64 b.2] 40)) #[.bool false, .slice none 0 0, .int .i64 0] 40)
  rw [show ((w.alloc (.cells #[.bool a.1.1, .slice Aa a.1.2.length ca, .int .i64 a.2] 40)).alloc (.cells #[.bool b.1.1, .slice Ab b.1.2.length cb, .int .i64 b.2] 40)).heap.size = w.heap.size + 1 + 1 by simp] at ko
  have HKO := Lib.hid (ko.lt (w.heap.size + 1 + 1) (by simp))
  go_enter Tryz.func59, Tryz.ntmps59
  have ka_c0 := ka.here.cell 0 _ rfl
  have ka_c1 := ka.here.cell 1 _ rfl
  have ka_c2 := ka.here.cell 2 _ rfl
  go_wp2_with fail
  clear ka_c0 ka_c1 ka_c2
  refine (implDecOk_any _ a _ hla (ODa.out _ bb0)).mono ?_
  rintro e w1 ⟨rfl, b1⟩
  have bb1 := Below.next bb0 b1
  replace ka := ka.below b1
  replace kb := kb.below b1
  replace ko := ko.below b1
  by_cases oka : okD a = true
  · rw [oka]
    have HOa := Lib.hid oka
    clear oka
    have kb_c0 := kb.here.cell 0 _ rfl
    have kb_c1 := kb.here.cell 1 _ rfl
    have kb_c2 := kb.here.cell 2 _ rfl
    go_wp2_with fail
    clear kb_c0 kb_c1 kb_c2
    refine (implDecOk_any _ b _ hlb (ODb.out _ bb1)).mono ?_
    rintro e w2 ⟨rfl, b2⟩
    have bb2 := Below.next bb1 b2
    replace ka := ka.below b2
    replace kb := kb.below b2
    replace ko := ko.below b2
    by_cases okb : okD b = true
    · rw [okb]
      have HOb := Lib.hid okb
      clear okb
      obtain ⟨Q, hQ⟩ : ∃ Q, mulD a b = Q := ⟨_, rfl⟩
      have HV := Lib.hid hQ
      have qa := partsD HOa.out
      have qb := partsD HOb.out
      have ta := qa.lo
      have ta2 := qa.hi
      have tb := qb.lo
      have tb2 := qb.hi
      clear qa qb
      obtain ⟨s, hs⟩ : ∃ s, IntKind.i64.wrap (a.2 + b.2) = s := ⟨_, rfl⟩
      have hs2 : a.2 + b.2 = s := by rw [← hs]; exact (IntWalk.i64_in _ (by omega)).symm
      have EV := Lib.hid (show decD (mulS a.1 b.1) s = Q by rw [← hQ, ← hs2]; exact mulD_is HOa.out HOb.out)
      clear hQ hs2 ta ta2 tb tb2
      have hzS : (mulS a.1 b.1).2.length ≤ 1048576 := by unfold mulS; split; (have := ofZ_len (valS a.1 * valS b.1); omega); decide
      have hlko := ko.lt (w.heap.size + 1 + 1) (by simp)
      have hko := HKO.out
      have ka_c0 := ka.here.cell 0 _ rfl
      have ka_c1 := ka.here.cell 1 _ rfl
      have ka_c2 := ka.here.cell 2 _ rfl
      have kb_c0 := kb.here.cell 0 _ rfl
      have kb_c1 := kb.here.cell 1 _ rfl
      have kb_c2 := kb.here.cell 2 _ rfl
      go_wp2_with fail
      have HC0 := Lib.hid (show Chg [w.heap.size + 1 + 1] w2 w2.drew from (Chg.refl _ _).drew1)
      have HCr := Lib.hid (show Chg [w.heap.size + 1 + 1] w2 w2 from Chg.refl _ _)
      have KL := Lib.hid (show ∀ W, Chg [w.heap.size + 1 + 1] w2 W → W.cell? ⟨w.heap.size, 0, none⟩ = some (.bool a.1.1) ∧ W.cell? ⟨w.heap.size, 1, none⟩ = some (.slice Aa a.1.2.length ca) ∧ W.cell? ⟨w.heap.size, 2, none⟩ = some (.int .i64 a.2) ∧ W.cell? ⟨w.heap.size + 1, 0, none⟩ = some (.bool b.1.1) ∧ W.cell? ⟨w.heap.size + 1, 1, none⟩ = some (.slice Ab b.1.2.length cb) ∧ W.cell? ⟨w.heap.size + 1, 2, none⟩ = some (.int .i64 b.2) ∧ Hid (Chg [w.heap.size + 1 + 1] w2 W) from fun W hc => ⟨(ka.chg hc (fun i hi hm => by simp at hi hm; omega)).here.cell 0 _ rfl, (ka.chg hc (fun i hi hm => by simp at hi hm; omega)).here.cell 1 _ rfl, (ka.chg hc (fun i hi hm => by simp at hi hm; omega)).here.cell 2 _ rfl, (kb.chg hc (fun i hi hm => by simp at hi hm; omega)).here.cell 0 _ rfl, (kb.chg hc (fun i hi hm => by simp at hi hm; omega)).here.cell 1 _ rfl, (kb.chg hc (fun i hi hm => by simp at hi hm; omega)).here.cell 2 _ rfl, Lib.hid hc⟩)
      have BBF := Lib.hid (show ∀ W, Chg [w.heap.size + 1 + 1] w2 W → Below w.heap.size w W from fun W hc => below_chg bb2 hc bb2.size (fun i hi => by simp at hi; omega))
      clear ka_c0 ka_c1 ka_c2 kb_c0 kb_c1 kb_c2
      go_region_held3 (fun W => W.cell? ⟨w.heap.size, 0, none⟩ = some (.bool a.1.1) ∧ W.cell? ⟨w.heap.size, 1, none⟩ = some (.slice Aa a.1.2.length ca) ∧ W.cell? ⟨w.heap.size, 2, none⟩ = some (.int .i64 a.2) ∧ W.cell? ⟨w.heap.size + 1, 0, none⟩ = some (.bool b.1.1) ∧ W.cell? ⟨w.heap.size + 1, 1, none⟩ = some (.slice Ab b.1.2.length cb) ∧ W.cell? ⟨w.heap.size + 1, 2, none⟩ = some (.int .i64 b.2) ∧ Hid (Chg [w.heap.size + 1 + 1] w2 W))
        ((refine KL.out _ ?_; (first | exact HC4.out | exact HC3.out | exact HCr.out | exact HC0.out | exact HC4.out.drew1 | exact HC3.out.drew1 | exact HCr.out.drew1 | exact HC0.out.drew1 | exact HC4.out.trans (Chg.of_below (below_al (Below.refl _ _) _)) | exact HC3.out.trans (Chg.of_below (below_al (Below.refl _ _) _)) | exact HCr.out.trans (Chg.of_below (below_al (Below.refl _ _) _)) | exact HC0.out.trans (Chg.of_below (below_al (Below.refl _ _) _)) | exact (Chg.setCell HC4.out (by simp) _) | exact (Chg.setCell (Chg.setCell HC4.out (by simp) _) (by simp) _) | exact (Chg.setCell (Chg.setCell (Chg.setCell HC4.out (by simp) _) (by simp) _) (by simp) _) | fail)))
        (first
          | (go_at_call 106; (have hBB := (‹_ ∧ _ ∧ _ ∧ _ ∧ _ ∧ _ ∧ Hid (Chg [w.heap.size + 1 + 1] w2 _)›).2.2.2.2.2.2); (with_reducible refine ((implIntMul_any _ _ a.1 b.1 _ (by omega) (by omega) (OSa.out _ (BBF.out _ hBB.out)) (OSb.out _ (BBF.out _ hBB.out))).mono fun _ _ h => NewS.newV h).mono ?_); rintro e w3 ⟨us, Ss, rfl, os, ls, b3⟩; have HC3 := Lib.hid (hBB.out.trans (Chg.of_below b3)); (have ko_3 := At.below (by first | exact ko | exact At.below ko (below_al (Below.refl _ _) _) | exact At.below (At.below ko (below_al (Below.refl _ _) _)) (below_al (Below.refl _ _) _) | exact At.move ko (fun _ _ => rfl) (Nat.le_refl _)) b3); obtain ⟨As, cs, rfl⟩ := ownS_form os.here; have HBZ3 := Lib.hid hBB.out.size; clear hBB)
          | (go_at_call 105; (have hBB := (‹_ ∧ _ ∧ _ ∧ _ ∧ _ ∧ _ ∧ Hid (Chg [w.heap.size + 1 + 1] w2 _)›).2.2.2.2.2.2); (with_reducible refine ((validDec_any _ (mulS a.1 b.1) s _ _ hzS (by first | exact os | exact At.below os (below_al (Below.refl _ _) _) | exact At.below (At.below os (below_al (Below.refl _ _) _)) (below_al (Below.refl _ _) _) | exact At.move os (fun _ _ => rfl) (Nat.le_refl _))).mono fun _ _ h => keptD_eq EV.out h).mono ?_); rintro e w4 ⟨uf, Sf, rfl, of, sf, b4⟩; have HC4 := Lib.hid (hBB.out.trans (Chg.of_below b4)); (have ko_4 := At.below (by first | exact ko_3 | exact At.below ko_3 (below_al (Below.refl _ _) _) | exact At.below (At.below ko_3 (below_al (Below.refl _ _) _)) (below_al (Below.refl _ _) _) | exact At.move ko_3 (fun _ _ => rfl) (Nat.le_refl _)) b4); (have os_4 := At.below (by first | exact os | exact At.below os (below_al (Below.refl _ _) _) | exact At.below (At.below os (below_al (Below.refl _ _) _)) (below_al (Below.refl _ _) _) | exact At.move os (fun _ _ => rfl) (Nat.le_refl _)) b4); obtain ⟨Af, cf, rfl⟩ := ownD_form of.here; have cz0 := ko_4.here.cell 0 _ rfl; have fz0 := Lib.frozen_of_heap ko_4.here 0; have cz1 := ko_4.here.cell 1 _ rfl; have fz1 := Lib.frozen_of_heap ko_4.here 1; have cz2 := ko_4.here.cell 2 _ rfl; have fz2 := Lib.frozen_of_heap ko_4.here 2; have HBZ4 := Lib.hid hBB.out.size; clear hBB))
      have bb4 := BBF.out _ HC4.out
      replace ka := ka.chg HC4.out (fun i hi hm => by simp at hi hm; omega)
      replace kb := kb.chg HC4.out (fun i hi hm => by simp at hi hm; omega)
      replace ko := ko_4
      have os := os_4
      have lf : Within Sf _ _ := fun i hi => ⟨(ls i (sf i hi)).1, of.lt i hi⟩
      have HW := Lib.hid (newDb_at (r := w.heap.size + 1 + 1) (b := Q.2) of lf (by have := HBZ3.out; omega) (by omega) bb4)
      clear of ko os ka kb
      go_wp2
      refine bodyPost_ret (v := .tuple #[.agg #[.bool _, .slice Af _ cf, .int .i64 _], .bool _]) (by simp [results, Tryz.results59, go_sem, cz0, cz1, cz2]; exact ⟨⟨rfl, rfl, rfl⟩, rfl⟩) rfl ?_
      rw [HV.out]
      exact HW.out
    · have okb' : okD b = false := by simpa using okb
      have HV := Lib.hid (show mulD a b = (zeroD, false) by unfold mulD; rw [if_neg (fun h => okb h.2)])
      rw [okb']
      clear okb okb'
      have cz0 := ko.here.cell 0 _ rfl
      have fz0 := Lib.frozen_of_heap ko.here 0
      have cz1 := ko.here.cell 1 _ rfl
      have fz1 := Lib.frozen_of_heap ko.here 1
      have cz2 := ko.here.cell 2 _ rfl
      have fz2 := Lib.frozen_of_heap ko.here 2
      go_wp2
      refine bodyPost_ret (v := .tuple #[.agg #[.bool false, .slice none 0 0, .int .i64 0], .bool false]) (by simp [results, Tryz.results59, go_sem, cz0, cz1, cz2]) rfl ?_
      rw [HV.out]
      first | exact newDb_zero _ bb2 | exact newDb_zero _ (below_set3 bb2 (by omega))
  · have oka' : okD a = false := by simpa using oka
    have HV := Lib.hid (show mulD a b = (zeroD, false) by unfold mulD; rw [if_neg (fun h => oka h.1)])
    rw [oka']
    clear oka oka'
    have cz0 := ko.here.cell 0 _ rfl
    have fz0 := Lib.frozen_of_heap ko.here 0
    have cz1 := ko.here.cell 1 _ rfl
    have fz1 := Lib.frozen_of_heap ko.here 1
    have cz2 := ko.here.cell 2 _ rfl
    have fz2 := Lib.frozen_of_heap ko.here 2
    go_wp2
    refine bodyPost_ret (v := .tuple #[.agg #[.bool false, .slice none 0 0, .int .i64 0], .bool false]) (by simp [results, Tryz.results59, go_sem, cz0, cz1, cz2]) rfl ?_
    rw [HV.out]
    first | exact newDb_zero _ bb1 | exact newDb_zero _ (below_set3 bb1 (by omega))
set_option maxHeartbeats 4000000 in
set_option maxRecDepth 100000 in
theorem implDecCmp_any (va vb : Value) (a b : DI) (w : World) (hla : a.1.2.length ≤ 1048576) (hlb : b.1.2.length ≤ 1048576) (ha : OwnD va a w) (hb : OwnD vb b w) :
    Calls Tryz.prog 104 #[va, vb] w (Postn (cmpD a b) w) := by
  have Ha := Lib.hid ha
  obtain ⟨Aa, ca, rfl⟩ := ownD_form ha
  have ODa := Lib.hid (show ∀ W, Below w.heap.size w W → OwnD (.agg #[.bool a.1.1, .slice Aa a.1.2.length ca, .int .i64 a.2]) a W from fun W hb => OwnD.below Ha.out hb)
  have OIa := Lib.hid (show ∀ W, Below w.heap.size w W → OwnI (.slice Aa a.1.2.length ca) a.1.2 W from fun W hb => ownD_open (ODa.out W hb))
  have OSa := Lib.hid (show ∀ W, Below w.heap.size w W → OwnS (.agg #[.bool a.1.1, .slice Aa a.1.2.length ca]) a.1 W from fun W hb => OwnS.mk (OIa.out W hb))
  clear ha
  have Hb := Lib.hid hb
  obtain ⟨Ab, cb, rfl⟩ := ownD_form hb
  have ODb := Lib.hid (show ∀ W, Below w.heap.size w W → OwnD (.agg #[.bool b.1.1, .slice Ab b.1.2.length cb, .int .i64 b.2]) b W from fun W hb => OwnD.below Hb.out hb)
  have OIb := Lib.hid (show ∀ W, Below w.heap.size w W → OwnI (.slice Ab b.1.2.length cb) b.1.2 W from fun W hb => ownD_open (ODb.out W hb))
  have OSb := Lib.hid (show ∀ W, Below w.heap.size w W → OwnS (.agg #[.bool b.1.1, .slice Ab b.1.2.length cb]) b.1 W from fun W hb => OwnS.mk (OIb.out W hb))
  clear hb
  have bb0 : Below w.heap.size w ((w.alloc (.cells #[.bool a.1.1, .slice Aa a.1.2.length ca, .int .i64 a.2] 40)).alloc (.cells #[.bool b.1.1, .slice Ab b.1.2.length cb, .int .i64 b.2] 40)) := below_al (below_al (Below.refl _ _) _) _
  have ka := (box_new w #[.bool a.1.1, .slice Aa a.1.2.length ca, .int .i64 a.2] 40).below (below_al (Below.refl _ _) (.cells #[.bool b.1.1, .slice Ab b.1.2.length cb, .int .i64 b.2] 40))
  have kb := (box_new (w.alloc (.cells #[.bool a.1.1, .slice Aa a.1.2.length ca, .int .i64 a.2] 40)) #[.bool b.1.1, .slice Ab b.1.2.length cb, .int .i64 b.2] 40)
  rw [show (w.alloc (.cells #[.bool a.1.1, .slice Aa a.1.2.length ca, .int .i64 a.2] 40)).heap.size = w.heap.size + 1 by simp] at kb
  go_enter Tryz.func104, Tryz.ntmps104
  have ka_c0 := ka.here.cell 0 _ rfl
  have ka_c1 := ka.here.cell 1 _ rfl
  have ka_c2 := ka.here.cell 2 _ rfl
  go_wp2_with fail
  clear ka_c0 ka_c1 ka_c2
  refine (implDecOk_any _ a _ hla (ODa.out _ bb0)).mono ?_
  rintro e w1 ⟨rfl, b1⟩
  have bb1 := Below.next bb0 b1
  replace ka := ka.below b1
  replace kb := kb.below b1
  by_cases oka : okD a = true
  · rw [oka]
    have HOa := Lib.hid oka
    clear oka
    have kb_c0 := kb.here.cell 0 _ rfl
    have kb_c1 := kb.here.cell 1 _ rfl
    have kb_c2 := kb.here.cell 2 _ rfl
    go_wp2_with fail
    clear kb_c0 kb_c1 kb_c2
    refine (implDecOk_any _ b _ hlb (ODb.out _ bb1)).mono ?_
    rintro e w2 ⟨rfl, b2⟩
    have bb2 := Below.next bb1 b2
    replace ka := ka.below b2
    replace kb := kb.below b2
    by_cases okb : okD b = true
    · rw [okb]
      have HOb := Lib.hid okb
      clear okb
      have HV := Lib.hid (show cmpS (upS a (topD a b)) (upS b (topD a b)) = cmpD a b from cmpD_is HOa.out HOb.out)
      have hX := upS_len a (topD a b)
      have hY := upS_len b (topD a b)
      have C := common_any _ _ a b _ HOa.out HOb.out (ODa.out _ bb2) (ODb.out _ bb2)
      generalize upS a (topD a b) = X at *
      generalize upS b (topD a b) = Y at *
      generalize topD a b = s at *
      have HC := Lib.hid C
      clear C
      have ka_c0 := ka.here.cell 0 _ rfl
      have ka_c1 := ka.here.cell 1 _ rfl
      have ka_c2 := ka.here.cell 2 _ rfl
      have kb_c0 := kb.here.cell 0 _ rfl
      have kb_c1 := kb.here.cell 1 _ rfl
      have kb_c2 := kb.here.cell 2 _ rfl
      go_wp2_with fail
      clear ka_c0 ka_c1 ka_c2 kb_c0 kb_c1 kb_c2
      refine (HC.out).mono ?_
      rintro e w3 ⟨ux, uy, Sx, Sy, rfl, ox, oy, lx, ly, b3⟩
      obtain ⟨Ax, cx, rfl⟩ := ownS_form ox.here
      obtain ⟨Ay, cy, rfl⟩ := ownS_form oy.here
      have bb3 := Below.next bb2 b3
      replace ka := ka.below b3
      replace kb := kb.below b3
      clear ka kb
      go_wp2_with fail
      refine ((implIntCmp_any _ _ X Y _ (by omega) (by omega) ox.here oy.here).mono fun _ _ h => postn_eqD HV.out h).mono ?_
      rintro e w4 ⟨rfl, b4⟩
      have bb4 := Below.next bb3 b4
      replace ox := ox.below b4
      replace oy := oy.below b4
      go_wp2
      go_ret
      exact ⟨rfl, bb4⟩
    · have okb' : okD b = false := by simpa using okb
      have HV := Lib.hid (show cmpD a b = 0 by unfold cmpD; rw [if_neg (fun h => okb h.2)])
      rw [okb']
      clear okb okb'
      go_wp2
      go_ret
      exact ⟨ret_int HV.out.symm, bb2⟩
  · have oka' : okD a = false := by simpa using oka
    have HV := Lib.hid (show cmpD a b = 0 by unfold cmpD; rw [if_neg (fun h => oka h.1)])
    rw [oka']
    clear oka oka'
    go_wp2
    go_ret
    exact ⟨ret_int HV.out.symm, bb1⟩
end Go.Proofs.YtofehcpapdlcnaaGreatDoor

namespace Go.Proofs.YtofehcpapdlcnaaGreatDoor
open Go.RowKit

theorem int_step {m n : Int} {out : List Int} {f : Nat} (hz : ¬ m = 0) (hol : out.length + f ≤ 3) (hmf : m.natAbs < 1000000000 ^ f) (he : out ++ limbs m.natAbs = limbs n.natAbs) (hq : (m.tdiv 1000000000).natAbs = m.natAbs / 1000000000) :
    ∃ g : Nat, (out ++ [((m.natAbs % 1000000000 : Nat) : Int)]).length + g ≤ 3 ∧ (m.tdiv 1000000000).natAbs < 1000000000 ^ g ∧ out ++ [((m.natAbs % 1000000000 : Nat) : Int)] ++ limbs (m.tdiv 1000000000).natAbs = limbs n.natAbs := by
  cases f with
  | zero => simp at hmf; omega
  | succ g =>
    refine ⟨g, by simp; omega, ?_, ?_⟩
    · rw [hq]
      rw [Nat.pow_succ, Nat.mul_comm] at hmf
      exact Nat.div_lt_of_lt_mul hmf
    · rw [hq, ← he, limbs_pos m.natAbs (by omega), List.append_assoc]
      rfl
theorem intOf_mk (n : Int) {s : Bool} (h : decide (n < 0) = s) : mkS s (limbs n.natAbs) = ofZ n := by
  rw [mkS_limbs]
  congr 1
  subst h
  by_cases hn : n < 0
  · rw [if_pos (by simpa using hn)]; omega
  · rw [if_neg (by simpa using hn)]; omega
set_option maxHeartbeats 1000000 in
set_option maxRecDepth 100000 in
theorem implIntOf_any (n : Int) (w : World) (h0 : -9223372036854775808 ≤ n) (h1 : n ≤ 9223372036854775807) :
    Calls Tryz.prog 60 #[.int .i64 n] w (NewS (ofZ n) w) := by
  obtain ⟨i0, hi, hz0, hz1, hz2⟩ := info_parts intInfo
  have hbb : Below w.heap.size w (w.alloc (.cells #[.bool false, .slice none 0 0] 31)) := below_al (Below.refl _ _) _
  have kr := box_new w #[.bool false, .slice none 0 0] 31
  obtain ⟨W0, hW0⟩ : ∃ W0, W0 = w.alloc (.cells #[.bool false, .slice none 0 0] 31) := ⟨_, rfl⟩
  rw [← hW0] at hbb kr
  have hW0s : W0.heap.size = w.heap.size + 1 := by rw [hW0]; simp
  have HW := Lib.hid hW0
  clear hW0
  obtain ⟨s, hs, hs2⟩ : ∃ s, decide (n < 0) = s ∧ Hid (decide (n < 0) = s) := ⟨_, rfl, Lib.hid rfl⟩
  go_enter Tryz.func60, Tryz.ntmps60
  go_wp2_with fail
  obtain ⟨W1, hW1⟩ : ∃ W1, W1 = W0.alloc (.cells #[.slice none 0 0, .bool s] 104) := ⟨_, rfl⟩
  have hx0 : NatX (intK s) (w.heap.size + 1) W0.heap.size [] W1 := by rw [hW1]; exact NatX.late (n := s) (W := W0) (B0 := w.heap.size + 1) (xs := []) (World.ownsRow_nil W0 (w.heap.size + 1) 3 1) (Nat.le_refl _) (by omega)
  have hb0 : Below W0.heap.size W0 W1 := by rw [hW1]; exact below_al (Below.refl _ _) _
  rw [hW0s] at hx0
  go_loopw [0] (fun a wr => ∃ (m : Int) (out : List Int) (f : Nat), -9223372036854775808 ≤ m ∧ m ≤ 9223372036854775807 ∧ out.length + f ≤ 3 ∧ m.natAbs < 1000000000 ^ f ∧ a = .int .i64 m ∧ Hid (out ++ limbs m.natAbs = limbs n.natAbs) ∧ Hid (NatX (intK s) (w.heap.size + 1) (w.heap.size + 1) out wr) ∧ Hid (Below (w.heap.size + 1) W0 wr)) (fun a _ => (intOf a).natAbs)
  case atStart =>
    rw [← HW.out, ← hW1]
    exact ⟨n, [], 3, h0, h1, by simp, by omega, rfl, Lib.hid rfl, Lib.hid hx0, Lib.hid (by rw [hW0s] at hb0; exact hb0)⟩
  case round =>
    obtain ⟨m, out, f, hm0, hm1, hol, hmf, rfl, HE, HX, HB⟩ := hrel
    by_cases hz : m = 0
    · subst hz
      have hout : out = limbs n.natAbs := by
        have e := HE.out
        rwa [show (0 : Int).natAbs = 0 from rfl, limbs_none, List.append_nil] at e
      subst hout
      have bb1 : Below w.heap.size w wr := below_low hbb HB.out (by omega)
      have kr1 := kr.belowB HB.out (fun g hg => by simp at hg; omega)
      go_wp2_with fail
      refine (signed_any _ _ _ _ _ (by omega) HX.out).mono ?_
      rw [intOf_mk n hs2.out]
      rintro e w4 ⟨u4', rfl, o4, b4⟩
      generalize ofZ n = z at *
      obtain ⟨A4, c4, rfl⟩ := own_len o4
      have bb4 := Below.next bb1 b4
      have kr4 := kr1.below b4
      have cz0 := kr4.here.cell 0 _ rfl
      have cz1 := kr4.here.cell 1 _ rfl
      have fz0 := Lib.frozen_of_heap kr4.here 0
      have fz1 := Lib.frozen_of_heap kr4.here 1
      have HO := Lib.hid o4
      have HK := Lib.hid kr4
      clear o4 kr1 kr4 kr HX HB HE
      go_wp2
      refine bodyPost_ret (v := .agg #[.bool _, .slice A4 _ c4]) (by simp [results, Tryz.results60, go_sem, cz0, cz1]; exact ⟨rfl, rfl⟩) rfl ?_
      exact newS_ret HK.out.here HO.out (by omega) (Nat.le_refl _) bb4
    · have hzb : (m == 0) = false := by rw [beq_eq_false_iff_ne]; exact hz
      have hzb2 : (m != 0) = true := by rw [bne_iff_ne]; exact hz
      obtain ⟨hB, u, hbk, hown, hne⟩ := HX.out
      have hlt := HX.out.lt
      obtain ⟨A, c, rfl⟩ := own_len hown
      have c1 : wr.cell? ⟨w.heap.size + 1, 0, none⟩ = some (.slice A out.length c) := NatX.cell hbk
      have hra : (m.tmod 1000000000).natAbs = m.natAbs % 1000000000 := Int.natAbs_tmod m 1000000000
      have hqa : (m.tdiv 1000000000).natAbs = m.natAbs / 1000000000 := Int.natAbs_tdiv m 1000000000
      have hr0 : -999999999 ≤ m.tmod 1000000000 := by omega
      have hr1 : m.tmod 1000000000 ≤ 999999999 := by omega
      have HR := Lib.hid hra
      have HQ := Lib.hid hqa
      have HBK := Lib.hid hbk
      have HNE := Lib.hid hne
      clear hra hqa hbk hne
      go_wp2_with (at_builtin; refine wpList_append_own _ rfl (.tmp 16) (.tmp 21) 22 rfl (w.heap.size + 1) 3 i0 (.int .i64 0) 1 8 Tryz.underlying22 hi hz0 hz1 hz2 rfl (by decide) _ _ _ rfl (own_alloc hown _) ⟨wr.heap.size, 0, none⟩ 1 1 [.int .i64 _] rfl rfl (one_new _ _ _) ?c2 ?c3 ?c4 ?c5 ?_)
      any_goals (first | rfl | (unfold maxLen; omega) | omega)
      all_goals
        intro v1 w1 hown1 hg1 _
        have hdig : Hid (w1.ownsRow (w.heap.size + 1) 3 1 v1 (out ++ [((m.natAbs % 1000000000 : Nat) : Int)]).length (intsV (out ++ [((m.natAbs % 1000000000 : Nat) : Int)]))) := Lib.hid (by
          have hra := HR.out
          first
            | (have e : max (m.tmod 1000000000) (-m.tmod 1000000000) = ((m.natAbs % 1000000000 : Nat) : Int) := by omega
               rw [e] at hown1
               simpa [intsV] using hown1)
            | (have e : -m.tmod 1000000000 = ((m.natAbs % 1000000000 : Nat) : Int) := by omega
               rw [e] at hown1
               simpa [intsV] using hown1)
            | (have e : m.tmod 1000000000 = ((m.natAbs % 1000000000 : Nat) : Int) := by omega
               rw [e] at hown1
               simpa [intsV] using hown1))
        have hb2 : w1.heap[w.heap.size + 1]? = some (.cells (.slice A out.length c :: (intK s).rest).toArray (intK s).ty (0, 0)) := by
          rw [hg1.block _ (by simp; omega) (fun e => HNE.out e.symm), Below.heap_alloc _ _ _ hlt]
          exact HBK.out
        have d1 : w1.cell? ⟨w.heap.size + 1, 0, none⟩ = some (.slice A out.length c) := NatX.cell hb2
        have f1 : w1.frozen? ⟨w.heap.size + 1, 0, none⟩ = false := Lib.frozen_of_heap hb2 0
        have hb3 : Below (w.heap.size + 1) W0 w1 := (HB.out.alloc (by omega) _).grown hg1 (by simp; omega) (fun k hk => (own_lt hown hk).1)
        obtain ⟨A1, cc1, rfl⟩ := own_len hdig.out
        have HP := Lib.hid (NatX.put (K := intK s) hB hb2 hdig.out)
        have HB3 := Lib.hid (hb3.setCell (p := ⟨w.heap.size + 1, 0, none⟩) (Nat.le_refl _) (.slice A1 (out ++ [((m.natAbs % 1000000000 : Nat) : Int)]).length cc1))
        have hlen : (out ++ [((m.natAbs % 1000000000 : Nat) : Int)]).length = out.length + 1 := by simp
        rw [hlen] at HP HB3
        have hqb : -9223372036854775808 ≤ m.tdiv 1000000000 ∧ m.tdiv 1000000000 ≤ 9223372036854775807 ∧ (m.tdiv 1000000000).natAbs < m.natAbs := by have := HQ.out; omega
        have HQB := Lib.hid hqb
        have HN := Lib.hid (int_step hz hol hmf HE.out HQ.out)
        clear hb2 hb3 hown hown1 hg1 hdig c1
        clear hr0 hr1 HR hmf hqb hlen
        go_wp2_with fail
        obtain ⟨g, h1, h2, h3⟩ := HN.out
        exact ⟨⟨_, _, g, HQB.out.1, HQB.out.2.1, h1, h2, rfl, Lib.hid h3, Lib.hid HP.out, HB3⟩, by simpa [intOf] using HQB.out.2.2⟩
end Go.Proofs.YtofehcpapdlcnaaGreatDoor

namespace Go.Proofs.YtofehcpapdlcnaaGreatDoor
open Go.RowKit

set_option maxHeartbeats 4000000 in
set_option maxRecDepth 100000 in
theorem implTaxRateOk_any (vd : Value) (d : DI) (w : World) (hl : d.1.2.length ≤ 1048576) (hd : OwnD vd d w) :
    Calls Tryz.prog 58 #[vd] w (Postb (taxB d) w) := by
  have Hd := Lib.hid hd
  obtain ⟨Ad, cd, rfl⟩ := ownD_form hd
  have ODd := Lib.hid (show ∀ W, Below w.heap.size w W → OwnD (.agg #[.bool d.1.1, .slice Ad d.1.2.length cd, .int .i64 d.2]) d W from fun W hb => OwnD.below Hd.out hb)
  have OId := Lib.hid (show ∀ W, Below w.heap.size w W → OwnI (.slice Ad d.1.2.length cd) d.1.2 W from fun W hb => ownD_open (ODd.out W hb))
  have OSd := Lib.hid (show ∀ W, Below w.heap.size w W → OwnS (.agg #[.bool d.1.1, .slice Ad d.1.2.length cd]) d.1 W from fun W hb => OwnS.mk (OId.out W hb))
  clear hd
  have bb0 : Below w.heap.size w (w.alloc (.cells #[.bool d.1.1, .slice Ad d.1.2.length cd, .int .i64 d.2] 40)) := below_al (Below.refl _ _) _
  have kd := (box_new w #[.bool d.1.1, .slice Ad d.1.2.length cd, .int .i64 d.2] 40)
  obtain ⟨O, hO⟩ : ∃ O, ofZ 1 = O := ⟨_, rfl⟩
  have HOL := Lib.hid (show O.2.length ≤ 1048576 by have := ofZ_len 1; rw [hO] at this; omega)
  obtain ⟨c, hc⟩ : ∃ c, cmpD d oneD = c := ⟨_, rfl⟩
  have EC0 := Lib.hid hc
  have EC := Lib.hid (show cmpD d (O, 0) = c by rw [← hO]; exact hc)
  have EO := Lib.hid hO
  clear hO hc
  go_enter Tryz.func58, Tryz.ntmps58
  go_wp2_with fail
  refine ((implIntOf_any 1 _ (by omega) (by omega)).mono fun _ _ h => newS_is EO.out h).mono ?_
  rintro e w1 ⟨ui, Si, rfl, oi, li, b1⟩
  obtain ⟨Ai, ci, rfl⟩ := ownS_form oi.here
  have bb1 := Below.next bb0 b1
  replace kd := kd.below b1
  have ke := box_new (w1) #[.bool O.1, .slice Ai O.2.length ci, .int .i64 0] 40
  have ale := below_al (Below.refl (w1).heap.size (w1)) (.cells #[.bool O.1, .slice Ai O.2.length ci, .int .i64 0] 40)
  have bbe := Below.next bb1 ale
  replace kd := kd.below ale
  replace oi := oi.below ale
  have kd_c0 := kd.here.cell 0 _ rfl
  have kd_c1 := kd.here.cell 1 _ rfl
  have kd_c2 := kd.here.cell 2 _ rfl
  go_wp2_with fail
  clear kd_c0 kd_c1 kd_c2
  refine (implDecOk_any _ d _ hl (ODd.out _ bbe)).mono ?_
  rintro e w2 ⟨rfl, b2⟩
  have bb2 := Below.next bbe b2
  replace kd := kd.below b2
  replace oi := oi.below b2
  replace ke := ke.below b2
  by_cases ok : okD d = true
  · rw [ok]
    have HO := Lib.hid ok
    have hso := (partsD ok).ok
    have HSO := Lib.hid hso
    clear ok hso
    by_cases hs : d.1.2.length ≤ 1
    · have hs1 : (d.1.2.length : Int) ≤ 1 := by omega
      have HS1 := Lib.hid hs
      clear hs
      have kd_c0 := kd.here.cell 0 _ rfl
      have kd_c1 := kd.here.cell 1 _ rfl
      have kd_c2 := kd.here.cell 2 _ rfl
      go_wp2_with fail
      clear kd_c0 kd_c1 kd_c2
      refine (implIntSign_any _ d.1 _ hl (OSd.out _ bb2)).mono ?_
      rintro e w3 ⟨rfl, b3⟩
      have bb3 := Below.next bb2 b3
      replace kd := kd.below b3
      replace oi := oi.below b3
      replace ke := ke.below b3
      have hsg := sign_neg HSO.out
      generalize cmpS d.1 zeroS = s at *
      by_cases hn : s < 0
      · have HV := Lib.hid (show taxB d = false from taxB_neg (by rw [← hsg]; exact decide_eq_true hn))
        have hn1 : ¬ 0 ≤ s := by omega
        clear hsg
        go_wp2
        go_ret
        exact ⟨ret_bool HV.out.symm, bb3⟩
      · have HV := Lib.hid (show taxB d = decide (c ≤ 0) by rw [← EC0.out]; exact taxB_is HO.out (by rw [← hsg]; exact decide_eq_false hn) HS1.out)
        have hn1 : 0 ≤ s := by omega
        clear hsg
        have kd_c0 := kd.here.cell 0 _ rfl
        have kd_c1 := kd.here.cell 1 _ rfl
        have kd_c2 := kd.here.cell 2 _ rfl
        have ke_c0 := ke.here.cell 0 _ rfl
        have ke_c1 := ke.here.cell 1 _ rfl
        have ke_c2 := ke.here.cell 2 _ rfl
        go_wp2_with fail
        clear kd_c0 kd_c1 kd_c2 ke_c0 ke_c1 ke_c2
        refine ((implDecCmp_any _ _ d (O, 0) _ hl HOL.out (ODd.out _ bb3) (OwnD.mk (q := (O, 0)) (ownS_openD oi.here))).mono fun _ _ h => postn_eqD EC.out h).mono ?_
        rintro e w4 ⟨rfl, b4⟩
        have bb4 := Below.next bb3 b4
        replace kd := kd.below b4
        replace oi := oi.below b4
        replace ke := ke.below b4
        clear oi kd ke
        go_wp2
        go_ret
        exact ⟨ret_bool HV.out.symm, bb4⟩
    · have HV := Lib.hid (show taxB d = false from taxB_long hs)
      have hs1 : ¬ (d.1.2.length : Int) ≤ 1 := by omega
      have hs2 : (1 : Int) < (d.1.2.length : Int) := by omega
      clear hs
      have kd_c0 := kd.here.cell 0 _ rfl
      have kd_c1 := kd.here.cell 1 _ rfl
      have kd_c2 := kd.here.cell 2 _ rfl
      go_wp2
      go_ret
      exact ⟨ret_bool HV.out.symm, bb2⟩
  · have ok' : okD d = false := by simpa using ok
    rw [ok']
    have HV := Lib.hid (show taxB d = false from taxB_bad ok')
    clear ok ok'
    go_wp2
    go_ret
    exact ⟨ret_bool HV.out.symm, bb2⟩
end Go.Proofs.YtofehcpapdlcnaaGreatDoor

namespace Go.Proofs.YtofehcpapdlcnaaGreatDoor
open Go.RowKit

theorem cmpS_zero {b : SI} (h : okS b = true) : (cmpS b zeroS = 0) ↔ nval b.2 = 0 := by
  have n := nval_ok (okS_parts h).1
  unfold cmpS
  rw [if_pos ⟨h, zeroS_ok⟩, zeroS_val]
  have e : valS b = 0 ↔ nval b.2 = 0 := by
    unfold valS
    split <;> omega
  rw [← e]
  unfold cmpI
  split
  · omega
  · split <;> omega
theorem makeQ_none {a b : SI} (h : ¬ (okS a = true ∧ cmpS b zeroS ≠ 0)) : makeQ a b = (zeroQ, false) := by
  unfold makeQ
  split
  · rename_i hk
    have hz : nval b.2 = 0 := (cmpS_zero hk.2).1 (Classical.byContradiction fun e => h ⟨hk.1, e⟩)
    unfold lowQ
    rw [if_neg (fun k => k.1 (by rw [hz]; rfl))]
  · rfl
theorem cmpS_ok {b : SI} (h : cmpS b zeroS ≠ 0) : okS b = true := by
  unfold cmpS at h
  rcases Classical.em (okS b = true ∧ okS zeroS = true) with k | k
  · exact k.1
  · rw [if_neg k] at h
    exact absurd rfl h
/-- the parts that RatMake divides out -/
theorem makeQ_parts {a b : SI} (ha : okS a = true) (hb : cmpS b zeroS ≠ 0) : ∃ X Y : Nat,
    gcdN a.2 b.2 = limbs (Nat.gcd (nval a.2).toNat (nval b.2).toNat) ∧ (divN a.2 (gcdN a.2 b.2)).1 = limbs X ∧ (divN b.2 (gcdN a.2 b.2)).1 = limbs Y ∧ (limbs X).length ≤ 50 ∧ (limbs Y).length ≤ 50 ∧ 0 < (limbs Y).length ∧
    makeQ a b = if (limbs X).length ≤ 18 ∧ (limbs Y).length ≤ 18 then ((mkS (!(a.1 == b.1)) (limbs X), limbs Y), true) else (zeroQ, false) := by
  have hkb := cmpS_ok hb
  have pa := okS_parts ha
  have pb := okS_parts hkb
  have na := nval_ok pa.1
  have nb := nval_ok pb.1
  have hz : nval b.2 ≠ 0 := fun e => hb ((cmpS_zero hkb).2 e)
  have hg := gcdN_small a.2 b.2
  have eg : gcdN a.2 b.2 = limbs (Nat.gcd (nval a.2).toNat (nval b.2).toNat) := by unfold gcdN; rw [if_pos ⟨pa.1, pb.1⟩]
  have g0 := Nat.gcd_pos_of_pos_right (nval a.2).toNat (show 0 < (nval b.2).toNat by omega)
  have okg : natOkB (gcdN a.2 b.2) = true := by rw [eg] at hg ⊢; exact limbs_okL _ hg
  have lg : 0 < (gcdN a.2 b.2).length := by
    rw [eg]
    rcases Nat.eq_zero_or_pos (limbs (Nat.gcd (nval a.2).toNat (nval b.2).toNat)).length with h | h
    · have := (limbs_zero_iff _).1 h
      omega
    · exact h
  have dv : ∀ c : List Int, natOkB c = true → (divN c (gcdN a.2 b.2)).1 = limbs ((nval c).toNat / Nat.gcd (nval a.2).toNat (nval b.2).toNat) ∧ (limbs ((nval c).toNat / Nat.gcd (nval a.2).toNat (nval b.2).toNat)).length ≤ 50 := by
    intro c hc
    have nc := nval_ok hc
    unfold divN
    rw [if_pos ⟨hc, okg, lg⟩, eg, limbs_val]
    have e : (nval c / ((Nat.gcd (nval a.2).toNat (nval b.2).toNat : Nat) : Int)).toNat = (nval c).toNat / Nat.gcd (nval a.2).toNat (nval b.2).toNat := by
      rw [← div_toNat]
      congr 2
      omega
    simp only
    rw [e]
    refine ⟨rfl, ?_⟩
    have hm := limbs_mono (m := (((nval c).toNat / Nat.gcd (nval a.2).toNat (nval b.2).toNat : Nat) : Int)) (n := nval c) (by omega) (by have := Nat.div_le_self (nval c).toNat (Nat.gcd (nval a.2).toNat (nval b.2).toNat); omega)
    rw [Int.toNat_natCast, ← natOk_limbs hc] at hm
    have := (natOk_parts hc).2.1
    omega
  have hy : 0 < (limbs ((nval b.2).toNat / Nat.gcd (nval a.2).toNat (nval b.2).toNat)).length := by
    have h1 := Nat.div_pos (Nat.le_of_dvd (show 0 < (nval b.2).toNat by omega) (Nat.gcd_dvd_right (nval a.2).toNat (nval b.2).toNat)) g0
    rcases Nat.eq_zero_or_pos (limbs ((nval b.2).toNat / Nat.gcd (nval a.2).toNat (nval b.2).toNat)).length with h | h
    · have := (limbs_zero_iff _).1 h
      omega
    · exact h
  refine ⟨(nval a.2).toNat / Nat.gcd (nval a.2).toNat (nval b.2).toNat, (nval b.2).toNat / Nat.gcd (nval a.2).toNat (nval b.2).toNat, eg, (dv _ pa.1).1, (dv _ pb.1).1, (dv _ pa.1).2, (dv _ pb.1).2, hy, ?_⟩
  unfold makeQ
  rw [if_pos ⟨ha, hkb⟩]
  unfold lowQ
  have h0 : (nval b.2).toNat ≠ 0 := by omega
  have e : (a.1 != b.1) = !(a.1 == b.1) := rfl
  simp only [h0, ne_eq, not_false_eq_true, true_and, e]

end Go.Proofs.YtofehcpapdlcnaaGreatDoor

namespace Go.Proofs.YtofehcpapdlcnaaGreatDoor
open Go.RowKit

/-! ### how many bits -/
theorem lenAux_lt : ∀ (f x : Nat), x < 2 ^ f → x < 2 ^ Lib.bitLenAux f x
  | 0, x, h => h
  | f + 1, x, h => by
    unfold Lib.bitLenAux
    by_cases h0 : x = 0
    · rw [if_pos h0, h0]; decide
    · rw [if_neg h0, Nat.add_comm, Nat.pow_succ]
      have := lenAux_lt f (x / 2) (by rw [Nat.pow_succ] at h; omega)
      omega
theorem lenAux_ge : ∀ (f x : Nat), 0 < x → 2 ^ Lib.bitLenAux f x ≤ 2 * x
  | 0, x, h => by show 1 ≤ _; omega
  | f + 1, x, h => by
    unfold Lib.bitLenAux
    rw [if_neg (by omega), Nat.add_comm, Nat.pow_succ]
    by_cases h1 : x / 2 = 0
    · have e : Lib.bitLenAux f (x / 2) = 0 := by
        cases f with
        | zero => rfl
        | succ f => unfold Lib.bitLenAux; rw [if_pos h1]
      rw [e]
      omega
    · have := lenAux_ge f (x / 2) (by omega)
      omega
theorem lenAux_le : ∀ (f x : Nat), Lib.bitLenAux f x ≤ f
  | 0, _ => Nat.le_refl _
  | f + 1, x => by
    unfold Lib.bitLenAux
    split
    · omega
    · have := lenAux_le f (x / 2)
      omega
/-- shifted so far that the highest bit is set -/
theorem shifted {y : Nat} (h0 : 0 < y) (h : y < 18446744073709551616) : Lib.bitLen y ≤ 64 ∧ 64 - Lib.bitLen y < 64 ∧ 9223372036854775808 ≤ y * 2 ^ (64 - Lib.bitLen y) ∧ y * 2 ^ (64 - Lib.bitLen y) < 18446744073709551616 := by
  have h1 := lenAux_lt 64 y h
  have h2 := lenAux_ge 64 y h0
  have h3 := lenAux_le 64 y
  change y < 2 ^ Lib.bitLen y at h1
  change 2 ^ Lib.bitLen y ≤ 2 * y at h2
  change Lib.bitLen y ≤ 64 at h3
  have h4 : Lib.bitLen y ≠ 0 := by
    intro e
    rw [e] at h1
    omega
  have e : 2 ^ Lib.bitLen y * 2 ^ (64 - Lib.bitLen y) = 18446744073709551616 := by
    rw [← Nat.pow_add, show Lib.bitLen y + (64 - Lib.bitLen y) = 64 by omega]
  have hp : 0 < 2 ^ (64 - Lib.bitLen y) := Nat.pow_pos (by omega)
  refine ⟨h3, by omega, ?_, ?_⟩
  · have := Nat.mul_le_mul_right (2 ^ (64 - Lib.bitLen y)) h2
    rw [e, Nat.mul_assoc] at this
    omega
  · have := (Nat.mul_lt_mul_right hp).2 h1
    rw [e] at this
    exact this

/-! ### one digit -/
/-- the guess q with its rest r, for the digit of (u, n) over (A, B) -/
def DigQ (A B u n q r : Nat) : Prop := q * A + r = u ∧ (u * 4294967296 + n) / (A * 4294967296 + B) ≤ q ∧ q ≤ 4294967297
theorem digQ_mul (A B u q r : Nat) (h : q * A + r = u) : q * (A * 4294967296 + B) + r * 4294967296 = u * 4294967296 + q * B := by
  rw [← h, Nat.mul_add, Nat.add_mul, ← Nat.mul_assoc]
  omega
theorem DigQ.start {A B u n : Nat} (hA : 2147483648 ≤ A) (hB : B < 4294967296) (hn : n < 4294967296) (hu : u < A * 4294967296 + B) : DigQ A B u n (u / A) (u % A) := by
  refine ⟨by rw [Nat.mul_comm]; exact Nat.div_add_mod u A, ?_, ?_⟩
  · apply Nat.le_of_lt_succ
    rw [Nat.div_lt_iff_lt_mul (by omega)]
    have h1 := Nat.div_add_mod u A
    have h2 := Nat.mod_lt u (show 0 < A by omega)
    have h3 : (u / A).succ * (A * 4294967296 + B) = A * (u / A) * 4294967296 + A * 4294967296 + (u / A).succ * B := by
      rw [Nat.mul_add, Nat.succ_mul, ← Nat.mul_assoc, Nat.mul_comm (u / A) A]
    rw [h3]
    omega
  · apply Nat.le_of_lt_succ
    rw [Nat.div_lt_iff_lt_mul (by omega)]
    omega
theorem lt_shift {z r u x n : Nat} (e : z + r = u + x) (h : r + n < x) : u + n < z := by omega
/-- too great a guess -/
theorem DigQ.down {A B u n q r : Nat} (h : DigQ A B u n q r) (hu : u < A * 4294967296 + B) (hn : n < 4294967296) (ht : 4294967296 ≤ q ∨ r * 4294967296 + n < q * B) : 0 < q ∧ DigQ A B u n (q - 1) (r + A) := by
  obtain ⟨h1, h2, h3⟩ := h
  have hq : 0 < q := by
    rcases Nat.eq_zero_or_pos q with h0 | h0
    · subst h0
      rcases ht with ht | ht
      · omega
      · rw [Nat.zero_mul] at ht; omega
    · exact h0
  have e := digQ_mul A B u q r h1
  have hlt : (u * 4294967296 + n) / (A * 4294967296 + B) < q := by
    rw [Nat.div_lt_iff_lt_mul (by omega)]
    rcases ht with ht | ht
    · have h5 := Nat.mul_le_mul_right (A * 4294967296 + B) ht
      generalize q * (A * 4294967296 + B) = z at *
      omega
    · exact lt_shift e ht
  refine ⟨hq, ?_, by omega, by omega⟩
  obtain ⟨p, rfl⟩ : ∃ p, q = p + 1 := ⟨q - 1, by omega⟩
  rw [Nat.add_sub_cancel]
  rw [Nat.succ_mul] at h1
  omega
/-- no longer too great -/
theorem DigQ.done {A B u n q r : Nat} (h : DigQ A B u n q r) (hA : 2147483648 ≤ A) (ht : q * B ≤ r * 4294967296 + n) : q = (u * 4294967296 + n) / (A * 4294967296 + B) := by
  obtain ⟨h1, h2, _⟩ := h
  apply Nat.le_antisymm _ h2
  rw [Nat.le_div_iff_mul_le (by omega)]
  have e := digQ_mul A B u q r h1
  omega
theorem DigQ.past {B n q r : Nat} (hB : B < 4294967296) (hq : q ≤ 4294967296) (hr : 4294967296 ≤ r) : q * B ≤ r * 4294967296 + n := by
  have h1 : q * B ≤ 4294967296 * 4294967295 := Nat.mul_le_mul hq (by omega)
  omega
theorem DigQ.rest {A B u n q r : Nat} (h : DigQ A B u n q r) : r = u - q * A := by have := h.1; omega

/-- two digits, one behind the other -/
theorem two_digits (U m1 m0 Y : Nat) (hY : 0 < Y) :
    ((U * 4294967296 + m1) * 4294967296 + m0) / Y = (U * 4294967296 + m1) / Y * 4294967296 + ((U * 4294967296 + m1) % Y * 4294967296 + m0) / Y := by
  have e := Nat.div_add_mod (U * 4294967296 + m1) Y
  have e2 : (U * 4294967296 + m1) * 4294967296 + m0 = (U * 4294967296 + m1) % Y * 4294967296 + m0 + Y * ((U * 4294967296 + m1) / Y * 4294967296) := by
    have : Y * ((U * 4294967296 + m1) / Y * 4294967296) = Y * ((U * 4294967296 + m1) / Y) * 4294967296 := (Nat.mul_assoc _ _ _).symm
    rw [this]
    generalize Y * ((U * 4294967296 + m1) / Y) = z at *
    omega
  rw [e2, Nat.add_mul_div_left _ _ hY, Nat.add_comm]
theorem digit_lt {U n Y : Nat} (hU : U < Y) (hn : n < 4294967296) : (U * 4294967296 + n) / Y < 4294967296 := by
  rw [Nat.div_lt_iff_lt_mul (by omega)]
  have : 4294967296 * (U + 1) ≤ 4294967296 * Y := Nat.mul_le_mul_left _ hU
  omega
/-- the shifted dividend, in three parts -/
theorem shift_parts {hi lo s Y : Nat} (hs : s < 64) (hl : lo < 18446744073709551616) (y : Nat) (hY : Y = y * 2 ^ s) (hh : hi < y) :
    (hi * 18446744073709551616 + lo) / y = ((hi * 2 ^ s + lo / 2 ^ (64 - s)) * 18446744073709551616 + lo * 2 ^ s % 18446744073709551616) / Y ∧ lo / 2 ^ (64 - s) < 2 ^ s ∧ hi * 2 ^ s + lo / 2 ^ (64 - s) < Y := by
  have hp : 0 < 2 ^ s := Nat.pow_pos (by omega)
  have hp2 : 0 < 2 ^ (64 - s) := Nat.pow_pos (by omega)
  have e64 : 2 ^ s * 2 ^ (64 - s) = 18446744073709551616 := by rw [← Nat.pow_add, show s + (64 - s) = 64 by omega]
  have hlt : lo / 2 ^ (64 - s) < 2 ^ s := by rw [Nat.div_lt_iff_lt_mul hp2, e64]; exact hl
  refine ⟨?_, hlt, ?_⟩
  · have e : (hi * 2 ^ s + lo / 2 ^ (64 - s)) * 18446744073709551616 + lo * 2 ^ s % 18446744073709551616 = (hi * 18446744073709551616 + lo) * 2 ^ s := by
      have e1 : lo * 2 ^ s / 18446744073709551616 = lo / 2 ^ (64 - s) := by
        rw [← e64, Nat.mul_comm (2 ^ s) (2 ^ (64 - s)), Nat.mul_div_mul_right _ _ hp]
      have e2 := Nat.div_add_mod (lo * 2 ^ s) 18446744073709551616
      rw [e1] at e2
      have e3 : (hi * 18446744073709551616 + lo) * 2 ^ s = hi * 2 ^ s * 18446744073709551616 + lo * 2 ^ s := by rw [Nat.add_mul, Nat.mul_right_comm]
      rw [e3]
      omega
    rw [e, hY, Nat.mul_div_mul_right _ _ hp]
  · rw [hY]
    have : (hi + 1) * 2 ^ s ≤ y * 2 ^ s := Nat.mul_le_mul_right _ hh
    rw [Nat.add_mul] at this
    omega
theorem or_add {a b s : Nat} (h : b < 2 ^ s) (ha : a * 2 ^ s < 18446744073709551616) (hb : b < 18446744073709551616) : bits .or .u64 ((a * 2 ^ s : Nat) : Int) (b : Int) = ((a * 2 ^ s + b : Nat) : Int) := by
  rw [bits_or_u64_nat _ _ ha hb]
  congr 1
  rw [Nat.mul_comm, ← Nat.two_pow_add_eq_or_of_lt h]
theorem and_low {a : Nat} (h : a < 18446744073709551616) : bits .and .u64 (a : Int) 4294967295 = ((a % 4294967296 : Nat) : Int) := by
  have h1 := bits_and_u64_nat a 4294967295 h (by omega)
  rw [show a &&& 4294967295 = a % 4294967296 from Nat.and_two_pow_sub_one_eq_mod a 32] at h1
  exact h1
theorem wrapU (a : Nat) : IntKind.u64.wrap (a : Int) = ((a % 18446744073709551616 : Nat) : Int) := by rw [IntKind.wrap_u64]; omega
theorem wrapL (a : Nat) (h : a < 18446744073709551616) : IntKind.u64.wrap (a : Int) = (a : Int) := by rw [IntKind.wrap_u64]; omega
theorem wrapD {a b c : Nat} (hc : c ≤ a) (h : a - c < 18446744073709551616) (hb : b = a - c) : IntKind.u64.wrap (IntKind.u64.wrap (a : Int) - IntKind.u64.wrap (c : Int)) = (b : Int) := by
  rw [IntKind.wrap_u64, IntKind.wrap_u64, IntKind.wrap_u64]
  omega
theorem wrapT {U m z v : Nat} (h : z + v = U * 4294967296 + m) (hv : v < 18446744073709551616) :
    IntKind.u64.wrap (IntKind.u64.wrap (IntKind.u64.wrap ((U : Int) * 4294967296) + (m : Int)) - IntKind.u64.wrap (z : Int)) = (v : Int) := by
  rw [IntKind.wrap_u64, IntKind.wrap_u64, IntKind.wrap_u64, IntKind.wrap_u64]
  omega

/-- the quotient, and whatever rest -/
def QuoPost (q : Nat) (w : World) (e : Ending) (w' : World) : Prop := (∃ r, e = .returned (.tuple #[.int .u64 q, .int .u64 r])) ∧ ∃ n, w.drewN n = w'
set_option maxHeartbeats 400000 in
set_option maxRecDepth 100000 in
theorem div64_small (lo y : Nat) (h0 : 0 < y) (hl : lo < 18446744073709551616) (hy : y < 18446744073709551616) (w : World) :
    Calls Tryz.prog 261 #[.int .u64 0, .int .u64 lo, .int .u64 y] w (QuoPost (lo / y) w) := by
  have hq := Nat.div_le_self lo y
  have e1 : IntKind.u64.wrap ((lo : Int) / (y : Int)) = ((lo / y : Nat) : Int) := by
    rw [← Int.natCast_ediv, wrapL _ (by omega)]
  have hy0 : ¬ ((y : Int) = 0) := by omega
  have hy1 : ¬ (y = 0) := by omega
  go_enter Tryz.func261, Tryz.ntmps261
  go_wp2
  go_quiet (fail)
  go_wp2
  go_ret2
  exact ⟨⟨_, rfl⟩, _, rfl⟩

/-- what stands in the guess's two slots -/
def DigS (A B u n : Nat) (q r : Value) : Prop := ∃ qn rn : Nat, q = .int .u64 qn ∧ r = .int .u64 rn ∧ rn < 4294967296 ∧ Hid (DigQ A B u n qn rn)
set_option maxHeartbeats 2000000 in
set_option maxRecDepth 100000 in
theorem div64_big (hi lo y : Nat) (hh : hi < y) (h0 : 0 < hi) (hl : lo < 18446744073709551616) (hy : y < 18446744073709551616) (w : World) :
    Calls Tryz.prog 261 #[.int .u64 hi, .int .u64 lo, .int .u64 y] w (QuoPost ((hi * 18446744073709551616 + lo) / y) w) := by
  obtain ⟨hb1, hs, hY0, hY1⟩ := shifted (y := y) (by omega) hy
  have hsn : (64 : Int) - (Lib.bitLen y : Int) = ((64 - Lib.bitLen y : Nat) : Int) := by omega
  have HSN := Lib.hid hsn
  clear hsn
  generalize 64 - Lib.bitLen y = s at *
  obtain ⟨hp1, hp2, hp3⟩ := shift_parts hs hl y rfl hh
  have hor : bits .or .u64 ((hi * 2 ^ s : Nat) : Int) ((lo / 2 ^ (64 - s) : Nat) : Int) = ((hi * 2 ^ s + lo / 2 ^ (64 - s) : Nat) : Int) := or_add hp2 (by have := Nat.zero_le (lo / 2 ^ (64 - s)); have := Nat.le_add_right (hi * 2 ^ s) (lo / 2 ^ (64 - s)); exact Nat.lt_of_le_of_lt this (Nat.lt_trans hp3 hY1)) (by have := Nat.div_le_self lo (2 ^ (64 - s)); omega)
  have e1 : IntKind.u64.wrap ((y : Int) * 2 ^ s) = ((y * 2 ^ s : Nat) : Int) := by
    rw [show (y : Int) * 2 ^ s = ((y * 2 ^ s : Nat) : Int) by push_cast; rfl, wrapL _ hY1]
  have e3 : IntKind.u64.wrap ((hi : Int) * 2 ^ s) = ((hi * 2 ^ s : Nat) : Int) := by
    rw [show (hi : Int) * 2 ^ s = ((hi * 2 ^ s : Nat) : Int) by push_cast; rfl, wrapL _ (Nat.lt_of_le_of_lt (Nat.le_add_right (hi * 2 ^ s) (lo / 2 ^ (64 - s))) (Nat.lt_trans hp3 hY1))]
  have e4 : (lo : Int) / 2 ^ (64 - s) = ((lo / 2 ^ (64 - s) : Nat) : Int) := by push_cast; rfl
  have e5 : IntKind.u64.wrap ((lo : Int) * 2 ^ s) = ((lo * 2 ^ s % 18446744073709551616 : Nat) : Int) := by
    rw [show (lo : Int) * 2 ^ s = ((lo * 2 ^ s : Nat) : Int) by push_cast; rfl, wrapU]
  have hm : lo * 2 ^ s % 18446744073709551616 < 18446744073709551616 := Nat.mod_lt _ (by omega)
  rw [← e4] at hor
  have HP := Lib.hid hp1
  clear hp1 hp2 e4
  generalize hi * 2 ^ s + lo / 2 ^ (64 - s) = U at *
  generalize lo * 2 ^ s % 18446744073709551616 = M at *
  generalize y * 2 ^ s = Y at *
  generalize hi * 2 ^ s = H at *
  -- the halves
  have a1 := and_low hY1
  have a2 := and_low hm
  obtain ⟨A, hA⟩ : ∃ A, A = Y / 4294967296 := ⟨_, rfl⟩
  obtain ⟨B, hB⟩ : ∃ B, B = Y % 4294967296 := ⟨_, rfl⟩
  obtain ⟨m1, hm1⟩ : ∃ A, A = M / 4294967296 := ⟨_, rfl⟩
  obtain ⟨m0, hm0⟩ : ∃ A, A = M % 4294967296 := ⟨_, rfl⟩
  have hAB : Y = A * 4294967296 + B := by omega
  have hMM : M = m1 * 4294967296 + m0 := by omega
  have hA0 : 2147483648 ≤ A := by omega
  have hA1 : A < 4294967296 := by omega
  have hB1 : B < 4294967296 := by omega
  have hm11 : m1 < 4294967296 := by omega
  have hm01 : m0 < 4294967296 := by omega
  have a3 : (Y : Int) / 4294967296 = (A : Int) := by omega
  have a4 : (M : Int) / 4294967296 = (m1 : Int) := by omega
  rw [← hB] at a1
  rw [← hm0] at a2
  have HY := Lib.hid hAB
  have HM := Lib.hid hMM
  clear hA hB hm1 hm0 hAB hMM hY0
  have hU64 : U < 18446744073709551616 := by omega
  have hq1 : U / A < 18446744073709551616 := Nat.lt_of_le_of_lt (Nat.div_le_self _ _) hU64
  have hq2 : U % A < 4294967296 := by have := Nat.mod_lt U (show 0 < A by omega); omega
  have e6 : IntKind.u64.wrap ((U : Int) / (A : Int)) = ((U / A : Nat) : Int) := by
    rw [← Int.natCast_ediv, wrapL _ hq1]
  have e7 : IntKind.u64.wrap ((U : Int) - IntKind.u64.wrap (((U / A : Nat) : Int) * (A : Int))) = ((U % A : Nat) : Int) := by
    have h1 := Nat.div_add_mod U A
    rw [show ((U / A : Nat) : Int) * (A : Int) = ((A * (U / A) : Nat) : Int) by push_cast; rw [Int.mul_comm], ← wrapL U hU64]
    exact wrapD (by omega) (by omega) (by omega)
  have HD1 : Hid (DigQ A B U m1 (U / A) (U % A)) := Lib.hid (DigQ.start hA0 hB1 hm11 (by rw [← HY.out]; exact hp3))
  have HUY := Lib.hid hp3
  clear hp3 hq1
  generalize U / A = q1 at *
  generalize U % A = r1 at *
  have hd1 := digit_lt HUY.out hm11
  have HT := Lib.hid (show (hi * 18446744073709551616 + lo) / y = (U * 4294967296 + m1) / Y * 4294967296 + ((U * 4294967296 + m1) % Y * 4294967296 + m0) / Y by
    rw [HP.out, HM.out, show U * 18446744073709551616 + (m1 * 4294967296 + m0) = (U * 4294967296 + m1) * 4294967296 + m0 by omega]
    exact two_digits U m1 m0 Y (by omega))
  have hvY := Nat.mod_lt (U * 4294967296 + m1) (show 0 < Y by omega)
  have f1 : IntKind.u64.wrap (IntKind.u64.wrap (IntKind.u64.wrap ((U : Int) * 4294967296) + (m1 : Int)) - IntKind.u64.wrap ((((U * 4294967296 + m1) / Y : Nat) : Int) * (Y : Int))) = (((U * 4294967296 + m1) % Y : Nat) : Int) := by
    have h1 := Nat.div_add_mod (U * 4294967296 + m1) Y
    rw [show (((U * 4294967296 + m1) / Y : Nat) : Int) * (Y : Int) = ((Y * ((U * 4294967296 + m1) / Y) : Nat) : Int) by rw [Int.mul_comm, ← Int.natCast_mul]]
    exact wrapT h1 (by omega)
  have hvD : (U * 4294967296 + m1) / Y = (U * 4294967296 + m1) / (A * 4294967296 + B) := by rw [← HY.out]
  obtain ⟨D1, hD1⟩ : ∃ D1, D1 = (U * 4294967296 + m1) / Y := ⟨_, rfl⟩
  obtain ⟨V, hV⟩ : ∃ V, V = (U * 4294967296 + m1) % Y := ⟨_, rfl⟩
  rw [← hD1] at hd1 HT f1 hvD
  rw [← hV] at HT hvY f1
  have HV1 := Lib.hid hvD
  clear hvD hD1 hV
  have hA2 : ¬ ((A : Int) = 0) := by omega
  go_enter Tryz.func261, Tryz.ntmps261
  go_wp2_with fail
  refine (Tryz.bits_LeadingZeros64 (y : Int) _ (by omega) (by omega)).mono ?_
  rintro e w1 ⟨rfl, rfl⟩
  rw [Int.toNat_natCast, HSN.out]
  go_upto_block 0 with fail
  go_cut [15] from 67 to 85 (fun q wx => q = .int .u64 (D1 : Int) ∧ wx = w1)
  case first =>
    go_wp2_with fail
    go_loop [15, 16] (DigS A B U m1) (fun q _ => (intOf q).toNat)
    case atStart => exact ⟨q1, r1, rfl, rfl, hq2, HD1⟩
    case round =>
      clear e1 e3 hor a1 a2 a3 a4 e5 e6 e7 hY1 hh h0 hl hs hb1 hm hU64 hq2 f1 hvY hd1
      obtain ⟨q, r, rfl, rfl, hr, HD⟩ := hrel
      have hqm : (q : Int) ≤ 4294967297 := by have := HD.out.2.2; omega
      have hr' : (r : Int) < 4294967296 := by omega
      clear hr
      by_cases hbig : 4294967296 ≤ q
      · have HN := Lib.hid (HD.out.down (by rw [← HY.out]; exact HUY.out) hm11 (.inl hbig))
        have hbig' : (4294967296 : Int) ≤ (q : Int) := by omega
        clear hbig
        have hq0 : (1 : Int) ≤ (q : Int) := by have := HN.out.1; omega
        by_cases hr2 : 4294967296 ≤ r + A
        · have HF : Hid (Value.int IntKind.u64 ((q : Int) - 1) = Value.int IntKind.u64 (D1 : Int)) := Lib.hid (by
            have h1 := HN.out.2.done hA0 (DigQ.past hB1 (by omega) hr2)
            rw [← HV1.out] at h1
            rw [← h1]
            congr 1
            omega)
          obtain ⟨R2, hR2⟩ : ∃ R2 : Nat, (r : Int) + (A : Int) = (R2 : Int) := ⟨r + A, by omega⟩
          have hr3 : (4294967296 : Int) ≤ (R2 : Int) := by omega
          clear hr2
          go_wp2_with fail
          go_meet
          exact ⟨HF.out, rfl⟩
        · have HM2 : Hid (DigS A B U m1 (.int .u64 ((q : Int) - 1)) (.int .u64 ((r + A : Nat) : Int))) := Lib.hid ⟨q - 1, r + A, by congr 1; omega, rfl, by omega, Lib.hid HN.out.2⟩
          obtain ⟨R2, hR2⟩ : ∃ R2 : Nat, (r : Int) + (A : Int) = (R2 : Int) := ⟨r + A, by omega⟩
          have hr3 : decide ((4294967296 : Int) ≤ (R2 : Int)) = false := decide_eq_false (by omega)
          clear hr2
          go_wp2_with fail
          go_round
          case rel => rw [show (r + A : Nat) = R2 by omega] at HM2; exact HM2.out
          case measure => simp [intOf]; omega
      · have hP : q * B ≤ 4294967295 * 4294967295 := Nat.mul_le_mul (by omega) (by omega)
        have e8 : IntKind.u64.wrap ((q : Int) * (B : Int)) = ((q * B : Nat) : Int) := by rw [← Int.natCast_mul, wrapL _ (by omega)]
        have hbig' : (q : Int) < 4294967296 := by omega
        by_cases hgt : r * 4294967296 + m1 < q * B
        · have HN := Lib.hid (HD.out.down (by rw [← HY.out]; exact HUY.out) hm11 (.inr hgt))
          have hgt' : 4294967296 * (r : Int) + (m1 : Int) < ((q * B : Nat) : Int) := by omega
          clear hgt hbig hP
          generalize q * B = P at *
          have hq0 : (1 : Int) ≤ (q : Int) := by have := HN.out.1; omega
          by_cases hr2 : 4294967296 ≤ r + A
          · have HF : Hid (Value.int IntKind.u64 ((q : Int) - 1) = Value.int IntKind.u64 (D1 : Int)) := Lib.hid (by
              have h1 := HN.out.2.done hA0 (DigQ.past hB1 (by omega) hr2)
              rw [← HV1.out] at h1
              rw [← h1]
              congr 1
              omega)
            obtain ⟨R2, hR2⟩ : ∃ R2 : Nat, (r : Int) + (A : Int) = (R2 : Int) := ⟨r + A, by omega⟩
            have hr3 : (4294967296 : Int) ≤ (R2 : Int) := by omega
            clear hr2
            go_wp2_with fail
            go_meet
            exact ⟨HF.out, rfl⟩
          · have HM2 : Hid (DigS A B U m1 (.int .u64 ((q : Int) - 1)) (.int .u64 ((r + A : Nat) : Int))) := Lib.hid ⟨q - 1, r + A, by congr 1; omega, rfl, by omega, Lib.hid HN.out.2⟩
            obtain ⟨R2, hR2⟩ : ∃ R2 : Nat, (r : Int) + (A : Int) = (R2 : Int) := ⟨r + A, by omega⟩
            have hr3 : decide ((4294967296 : Int) ≤ (R2 : Int)) = false := decide_eq_false (by omega)
            clear hr2
            go_wp2_with fail
            go_round
            case rel => rw [show (r + A : Nat) = R2 by omega] at HM2; exact HM2.out
            case measure => simp [intOf]; omega
        · have HF : Hid (q = D1) := Lib.hid (by rw [HV1.out]; exact HD.out.done hA0 (by omega))
          obtain ⟨T, hT⟩ : ∃ T : Nat, 4294967296 * (r : Int) + (m1 : Int) = (T : Int) := ⟨r * 4294967296 + m1, by omega⟩
          have hgt' : decide (T < q * B) = false := decide_eq_false (by omega)
          have hbig2 : decide ((4294967296 : Int) ≤ (q : Int)) = false := decide_eq_false (by omega)
          clear hgt hbig hP hbig'
          generalize q * B = P at *
          go_wp2_with fail
          go_meet
          exact ⟨by rw [← HF.out], rfl⟩
  case rest =>
    obtain ⟨hq, hw⟩ := hcut
    subst hq
    subst hw
    have HVY := Lib.hid hvY
    obtain ⟨D0, hD0⟩ : ∃ D0, D0 = (V * 4294967296 + m0) / Y := ⟨_, rfl⟩
    have hd0 := digit_lt HVY.out hm01
    have hvE : (V * 4294967296 + m0) / Y = (V * 4294967296 + m0) / (A * 4294967296 + B) := by rw [← HY.out]
    rw [← hD0] at hd0 HT hvE
    have HV0 := Lib.hid hvE
    clear hvE hD0
    have hV64 : V < 18446744073709551616 := by omega
    clear e6 e7 hq2 hU64
    have hq1 : V / A < 18446744073709551616 := Nat.lt_of_le_of_lt (Nat.div_le_self _ _) hV64
    have hq3 : V % A < 4294967296 := by have := Nat.mod_lt V (show 0 < A by omega); omega
    have e6 : IntKind.u64.wrap ((V : Int) / (A : Int)) = ((V / A : Nat) : Int) := by
      rw [← Int.natCast_ediv, wrapL _ hq1]
    have e7 : IntKind.u64.wrap ((V : Int) - IntKind.u64.wrap (((V / A : Nat) : Int) * (A : Int))) = ((V % A : Nat) : Int) := by
      have h1 := Nat.div_add_mod V A
      rw [show ((V / A : Nat) : Int) * (A : Int) = ((A * (V / A) : Nat) : Int) by push_cast; rw [Int.mul_comm], ← wrapL V hV64]
      exact wrapD (by omega) (by omega) (by omega)
    have HD2 : Hid (DigQ A B V m0 (V / A) (V % A)) := Lib.hid (DigQ.start hA0 hB1 hm01 (by rw [← HY.out]; exact hvY))
    clear hvY hq1
    generalize V / A = q2 at *
    generalize V % A = r2 at *
    have HTI := Lib.hid (show (((hi * 18446744073709551616 + lo) / y : Nat) : Int) = (D1 : Int) * 4294967296 + (D0 : Int) by rw [HT.out, Int.natCast_add, Int.natCast_mul]; rfl)
    go_upto_block 2 with fail
    go_cut [18] from 102 to 120 (fun q wx => q = .int .u64 (D0 : Int) ∧ wx = wc)
    case first =>
      go_wp2_with fail
      go_loop [18, 16] (DigS A B V m0) (fun q _ => (intOf q).toNat)
      case atStart => exact ⟨q2, r2, rfl, rfl, hq3, HD2⟩
      case round =>
        clear e6 e7 hY1 hh h0 hl hm hq3 hd1 hd0
        obtain ⟨q, r, rfl, rfl, hr, HD⟩ := hrel
        have hqm : (q : Int) ≤ 4294967297 := by have := HD.out.2.2; omega
        have hr' : (r : Int) < 4294967296 := by omega
        clear hr
        by_cases hbig : 4294967296 ≤ q
        · have HN := Lib.hid (HD.out.down (by rw [← HY.out]; exact HVY.out) hm01 (.inl hbig))
          have hbig' : (4294967296 : Int) ≤ (q : Int) := by omega
          clear hbig
          have hq0 : (1 : Int) ≤ (q : Int) := by have := HN.out.1; omega
          by_cases hr2 : 4294967296 ≤ r + A
          · have HF : Hid (Value.int IntKind.u64 ((q : Int) - 1) = Value.int IntKind.u64 (D0 : Int)) := Lib.hid (by
              have h1 := HN.out.2.done hA0 (DigQ.past hB1 (by omega) hr2)
              rw [← HV0.out] at h1
              rw [← h1]
              congr 1
              omega)
            obtain ⟨R2, hR2⟩ : ∃ R2 : Nat, (r : Int) + (A : Int) = (R2 : Int) := ⟨r + A, by omega⟩
            have hr3 : (4294967296 : Int) ≤ (R2 : Int) := by omega
            clear hr2
            go_wp2_with fail
            go_meet
            exact ⟨HF.out, rfl⟩
          · have HM2 : Hid (DigS A B V m0 (.int .u64 ((q : Int) - 1)) (.int .u64 ((r + A : Nat) : Int))) := Lib.hid ⟨q - 1, r + A, by congr 1; omega, rfl, by omega, Lib.hid HN.out.2⟩
            obtain ⟨R2, hR2⟩ : ∃ R2 : Nat, (r : Int) + (A : Int) = (R2 : Int) := ⟨r + A, by omega⟩
            have hr3 : decide ((4294967296 : Int) ≤ (R2 : Int)) = false := decide_eq_false (by omega)
            clear hr2
            go_wp2_with fail
            go_round
            case rel => rw [show (r + A : Nat) = R2 by omega] at HM2; exact HM2.out
            case measure => simp [intOf]; omega
        · have hP : q * B ≤ 4294967295 * 4294967295 := Nat.mul_le_mul (by omega) (by omega)
          have e8 : IntKind.u64.wrap ((q : Int) * (B : Int)) = ((q * B : Nat) : Int) := by rw [← Int.natCast_mul, wrapL _ (by omega)]
          have hbig' : (q : Int) < 4294967296 := by omega
          by_cases hgt : r * 4294967296 + m0 < q * B
          · have HN := Lib.hid (HD.out.down (by rw [← HY.out]; exact HVY.out) hm01 (.inr hgt))
            have hgt' : 4294967296 * (r : Int) + (m0 : Int) < ((q * B : Nat) : Int) := by omega
            clear hgt hbig hP
            generalize q * B = P at *
            have hq0 : (1 : Int) ≤ (q : Int) := by have := HN.out.1; omega
            by_cases hr2 : 4294967296 ≤ r + A
            · have HF : Hid (Value.int IntKind.u64 ((q : Int) - 1) = Value.int IntKind.u64 (D0 : Int)) := Lib.hid (by
                have h1 := HN.out.2.done hA0 (DigQ.past hB1 (by omega) hr2)
                rw [← HV0.out] at h1
                rw [← h1]
                congr 1
                omega)
              obtain ⟨R2, hR2⟩ : ∃ R2 : Nat, (r : Int) + (A : Int) = (R2 : Int) := ⟨r + A, by omega⟩
              have hr3 : (4294967296 : Int) ≤ (R2 : Int) := by omega
              clear hr2
              go_wp2_with fail
              go_meet
              exact ⟨HF.out, rfl⟩
            · have HM2 : Hid (DigS A B V m0 (.int .u64 ((q : Int) - 1)) (.int .u64 ((r + A : Nat) : Int))) := Lib.hid ⟨q - 1, r + A, by congr 1; omega, rfl, by omega, Lib.hid HN.out.2⟩
              obtain ⟨R2, hR2⟩ : ∃ R2 : Nat, (r : Int) + (A : Int) = (R2 : Int) := ⟨r + A, by omega⟩
              have hr3 : decide ((4294967296 : Int) ≤ (R2 : Int)) = false := decide_eq_false (by omega)
              clear hr2
              go_wp2_with fail
              go_round
              case rel => rw [show (r + A : Nat) = R2 by omega] at HM2; exact HM2.out
              case measure => simp [intOf]; omega
          · have HF : Hid (q = D0) := Lib.hid (by rw [HV0.out]; exact HD.out.done hA0 (by omega))
            obtain ⟨T, hT⟩ : ∃ T : Nat, 4294967296 * (r : Int) + (m0 : Int) = (T : Int) := ⟨r * 4294967296 + m0, by omega⟩
            have hgt' : decide (T < q * B) = false := decide_eq_false (by omega)
            have hbig2 : decide ((4294967296 : Int) ≤ (q : Int)) = false := decide_eq_false (by omega)
            clear hgt hbig hP hbig'
            generalize q * B = P at *
            go_wp2_with fail
            go_meet
            exact ⟨by rw [← HF.out], rfl⟩
    case rest =>
      obtain ⟨hq, hw⟩ := hcut
      subst hq
      subst hw
      go_wp2_with fail
      go_ret2
      unfold QuoPost
      rw [HTI.out]
      exact ⟨⟨_, rfl⟩, 0, rfl⟩
theorem div64_any (hi lo y : Nat) (hh : hi < y) (hl : lo < 18446744073709551616) (hy : y < 18446744073709551616) (w : World) :
    Calls Tryz.prog 261 #[.int .u64 hi, .int .u64 lo, .int .u64 y] w (QuoPost ((hi * 18446744073709551616 + lo) / y) w) := by
  rcases Nat.eq_zero_or_pos hi with h0 | h0
  · subst h0
    rw [Nat.zero_mul, Nat.zero_add]
    exact div64_small lo y hh hl hy w
  · exact div64_big hi lo y hh h0 hl hy w

end Go.Proofs.YtofehcpapdlcnaaGreatDoor

namespace Go.Proofs.YtofehcpapdlcnaaGreatDoor
open Go.RowKit

/-- a limb, zeros above the last one and below the first one -/
def limbA (xs : List Int) (p : Int) : Int := if p < 0 then 0 else xs.getD p.toNat 0
theorem limbA_dig {xs : List Int} (h : DigN xs) (p : Int) : 0 ≤ limbA xs p ∧ limbA xs p ≤ 999999999 := by
  unfold limbA
  split
  · omega
  · exact getD_dig h _
theorem limbA_nat (xs : List Int) (p : Nat) : limbA xs p = xs.getD p 0 := by unfold limbA; rw [if_neg (by omega), Int.toNat_natCast]
theorem nval_down (xs : List Int) (k : Nat) : nval (xs.drop k) = xs.getD k 0 + 1000000000 * nval (xs.drop (k + 1)) := by
  rcases Nat.lt_or_ge k xs.length with h | h
  · rw [nval_drop xs k h, List.getD_eq_getElem?_getD, List.getElem?_eq_getElem h, Option.getD_some]
  · rw [List.drop_of_length_le h, List.drop_of_length_le (by omega), List.getD_eq_getElem?_getD, List.getElem?_eq_none h]
    rfl
theorem nval_split (xs : List Int) (k : Nat) : nval xs = nval (xs.take k) + bp k * nval (xs.drop k) := by
  rcases Nat.lt_or_ge k xs.length with h | h
  · conv => lhs; rw [← List.take_append_drop k xs]
    rw [nval_append, List.length_take, show min k xs.length = k by omega]
  · rw [List.drop_of_length_le h, List.take_of_length_le h]
    show _ = _ + bp k * 0
    rw [Int.mul_zero, Int.add_zero]
theorem nval_low {xs : List Int} (h : DigN xs) (k : Nat) : bp k * nval (xs.drop k) ≤ nval xs := by
  have h1 := nval_split xs k
  have h2 := nval_nonneg _ (h.take k)
  omega
theorem bp_succ (k : Nat) : bp (k + 1) = 1000000000 * bp k := rfl
/-- three limbs of a number, times the place of the middle one -/
theorem three_le {xs : List Int} (h : DigN xs) (p : Nat) : ((limbA xs (p + 1) * 1000000000 + limbA xs p) * 1000000000 + limbA xs ((p : Int) - 1)) * bp p ≤ nval xs * 1000000000 := by
  have e1 : limbA xs ((p : Int) + 1) = xs.getD (p + 1) 0 := limbA_nat xs (p + 1)
  rw [e1, limbA_nat]
  have n2 := nval_nonneg _ (h.drop (p + 1 + 1))
  have d0 := nval_down xs p
  have d1 := nval_down xs (p + 1)
  cases p with
  | zero =>
    have e2 : limbA xs ((0 : Nat) - 1 : Int) = 0 := by unfold limbA; rw [if_pos (by decide)]
    rw [e2]
    rw [List.drop_zero] at d0
    show _ * 1 ≤ _
    omega
  | succ p =>
    have e2 : limbA xs (((p + 1 : Nat) : Int) - 1) = xs.getD p 0 := by
      rw [show ((p + 1 : Nat) : Int) - 1 = (p : Int) by omega, limbA_nat]
    rw [e2]
    have dm := nval_down xs p
    have hlow := nval_low h p
    have hp := bp_pos p
    have hmul : bp p * ((xs.getD (p + 1 + 1) 0 * 1000000000 + xs.getD (p + 1) 0) * 1000000000 + xs.getD p 0) ≤ bp p * nval (xs.drop p) := Int.mul_le_mul_of_nonneg_left (by omega) (by omega)
    rw [bp_succ, Int.mul_comm _ (1000000000 * bp p), Int.mul_assoc]
    omega
/-- two limbs of a number and one more, times the place of the upper one -/
theorem two_ge {ys : List Int} (h : DigN ys) (h0 : 0 < ys.length) : nval ys * 1000000000 ≤ (limbA ys ((ys.length : Int) - 1) * 1000000000 + limbA ys ((ys.length : Int) - 1 - 1) + 1) * bp (ys.length - 1) := by
  obtain ⟨n, hn⟩ : ∃ n, ys.length = n + 1 := ⟨ys.length - 1, by omega⟩
  have e1 : limbA ys ((ys.length : Int) - 1) = ys.getD n 0 := by rw [hn, show ((n + 1 : Nat) : Int) - 1 = (n : Int) by omega, limbA_nat]
  have hz : nval (ys.drop (n + 1)) = 0 := by rw [List.drop_of_length_le (by omega)]; rfl
  have d0 := nval_down ys n
  rw [hz] at d0
  rw [e1, hn, Nat.add_sub_cancel, show ((n + 1 : Nat) : Int) - 1 - 1 = (n : Int) - 1 by omega]
  cases n with
  | zero =>
    have e2 : limbA ys ((0 : Nat) - 1 : Int) = 0 := by unfold limbA; rw [if_pos (by decide)]
    rw [e2]
    rw [List.drop_zero] at d0
    show _ ≤ _ * 1
    omega
  | succ n =>
    have e2 : limbA ys (((n + 1 : Nat) : Int) - 1) = ys.getD n 0 := by
      rw [show ((n + 1 : Nat) : Int) - 1 = (n : Int) by omega, limbA_nat]
    rw [e2]
    have dm := nval_down ys n
    have hs := nval_split ys n
    have ht := nval_lt _ (h.take n)
    have hp := bp_pos n
    rw [List.length_take, show min n ys.length = n by omega] at ht
    have hmul : bp n * nval (ys.drop n) = bp n * (ys.getD (n + 1) 0 * 1000000000 + ys.getD n 0) := by congr 1; omega
    rw [bp_succ, Int.mul_comm _ (1000000000 * bp n), Int.mul_assoc, Int.mul_add]
    omega
/-- the guess -/
def guessN (cur ys : List Int) (sh : Nat) : Int :=
  ((limbA cur ((sh : Int) + ((ys.length : Int) - 1) + 1) * 1000000000 + limbA cur ((sh : Int) + ((ys.length : Int) - 1))) * 1000000000 + limbA cur ((sh : Int) + ((ys.length : Int) - 1) - 1)) /
    (limbA ys ((ys.length : Int) - 1) * 1000000000 + limbA ys ((ys.length : Int) - 1 - 1) + 1)
theorem guess_nonneg {cur ys : List Int} (hc : DigN cur) (hy : DigN ys) (sh : Nat) : 0 ≤ guessN cur ys sh := by
  have a := limbA_dig hc ((sh : Int) + ((ys.length : Int) - 1) + 1)
  have b := limbA_dig hc ((sh : Int) + ((ys.length : Int) - 1))
  have c := limbA_dig hc ((sh : Int) + ((ys.length : Int) - 1) - 1)
  have d := limbA_dig hy ((ys.length : Int) - 1)
  have e := limbA_dig hy ((ys.length : Int) - 1 - 1)
  exact Int.ediv_nonneg (by omega) (by omega)
theorem guess_le {cur ys : List Int} (hc : DigN cur) (hy : DigN ys) (h0 : 0 < ys.length) (sh : Nat) : guessN cur ys sh * (nval ys * bp sh) ≤ nval cur := by
  obtain ⟨n, hn⟩ : ∃ n, ys.length = n + 1 := ⟨ys.length - 1, by omega⟩
  have hA := three_le hc (sh + n)
  have hB := two_ge hy h0
  have hg0 := guess_nonneg hc hy sh
  have d := limbA_dig hy ((ys.length : Int) - 1)
  have e := limbA_dig hy ((ys.length : Int) - 1 - 1)
  unfold guessN at hg0 ⊢
  rw [hn, Nat.add_sub_cancel] at hB
  rw [hn] at hg0 d e ⊢
  rw [show (((n + 1 : Nat) : Int) - 1) = (n : Int) by omega] at hB hg0 d e ⊢
  rw [show ((sh + n : Nat) : Int) = (sh : Int) + (n : Int) by omega] at hA
  generalize hU : limbA ys (n : Int) * 1000000000 + limbA ys ((n : Int) - 1) + 1 = U at *
  generalize (limbA cur ((sh : Int) + (n : Int) + 1) * 1000000000 + limbA cur ((sh : Int) + (n : Int))) * 1000000000 + limbA cur ((sh : Int) + (n : Int) - 1) = N3 at *
  have hU0 : 0 < U := by omega
  have hq : N3 / U * U ≤ N3 := Int.ediv_mul_le N3 (by omega)
  generalize N3 / U = q at *
  have hps := bp_pos sh
  have hpn := bp_pos n
  have h1 : q * bp sh * (nval ys * 1000000000) ≤ q * bp sh * (U * bp n) := Int.mul_le_mul_of_nonneg_left hB (Int.mul_nonneg hg0 (by omega))
  have h2 : q * U * bp (sh + n) ≤ N3 * bp (sh + n) := Int.mul_le_mul_of_nonneg_right hq (by have := bp_pos (sh + n); omega)
  have e1 : q * bp sh * (U * bp n) = q * U * bp (sh + n) := by rw [bp_add]; simp only [Int.mul_assoc, Int.mul_comm, Int.mul_left_comm]
  have e2 : q * bp sh * (nval ys * 1000000000) = q * (nval ys * bp sh) * 1000000000 := by simp only [Int.mul_assoc, Int.mul_comm, Int.mul_left_comm]
  rw [e1, e2] at h1
  omega
/-- below a limb, where the number is below the divisor one place up -/
theorem factor_lt {g N D : Int} (hD : 0 < D) (h1 : g * D ≤ N) (h2 : N < 1000000000 * D) : g < 1000000000 := by
  by_cases h : g < 1000000000
  · exact h
  · have := Int.mul_le_mul_of_nonneg_right (show 1000000000 ≤ g by omega) (show 0 ≤ D by omega)
    omega

theorem add64_run (x y : Nat) (w : World) : (callFunc 260 #[.int .u64 x, .int .u64 y, .int .u64 0]).run Tryz.prog w =
    .ok (.value (.tuple #[.int .u64 (((x + y) % 18446744073709551616 : Nat) : Int), .int .u64 (((x + y) / 18446744073709551616 : Nat) : Int)])) w := by
  rw [run_callFunc_extern Tryz.func260 (by kernel_rfl) (by kernel_rfl) (by kernel_rfl) (e := add64Entry) (by kernel_rfl), run_add64 x y 0 (by omega) (by omega) (by omega) (by omega)]
  simp only [Result.andThen]
  congr 5 <;> omega

theorem limbAt_A (v : Value) (xs : List Int) (p : Int) (lo hi : Nat) (w : World) (hl : xs.length ≤ 1048576) (hr : Row w lo hi v (intsV xs)) :
    Calls Tryz.prog 254 #[v, .int .i64 p] w fun e w' => e = .returned (.int .i64 (limbA xs p)) ∧ w = w' := limbAt_any v xs p lo hi w hl hr
/-- the words of the division in guess -/
theorem guess_words {F l3 U : Int} (hF0 : 0 ≤ F) (hF1 : F ≤ 999999999999999999) (hl0 : 0 ≤ l3) (hl1 : l3 ≤ 999999999) (hU0 : 1000000001 ≤ U) (hU1 : U ≤ 1000000000000000000) :
    F.toNat * 1000000000 / 18446744073709551616 + (F.toNat * 1000000000 % 18446744073709551616 + l3.toNat) / 18446744073709551616 < U.toNat ∧
    ((((F.toNat * 1000000000 / 18446744073709551616 + (F.toNat * 1000000000 % 18446744073709551616 + l3.toNat) / 18446744073709551616) * 18446744073709551616 + (F.toNat * 1000000000 % 18446744073709551616 + l3.toNat) % 18446744073709551616) / U.toNat : Nat) : Int) = (F * 1000000000 + l3) / U := by
  refine ⟨by omega, ?_⟩
  have e : (F.toNat * 1000000000 / 18446744073709551616 + (F.toNat * 1000000000 % 18446744073709551616 + l3.toNat) / 18446744073709551616) * 18446744073709551616 + (F.toNat * 1000000000 % 18446744073709551616 + l3.toNat) % 18446744073709551616 = F.toNat * 1000000000 + l3.toNat := by omega
  rw [e, Int.natCast_ediv]
  congr 1 <;> omega
set_option maxHeartbeats 1000000 in
set_option maxRecDepth 100000 in
theorem guess_any (b : Nat) (v : Value) (cur : List Int) (vy : Value) (ys : List Int) (lo hi lo2 hi2 : Nat) (sh : Nat) (w : World) (hcl : cur.length ≤ 1048576) (hyl : ys.length ≤ 1048576) (hsh : sh ≤ 1048576)
    (hdc : DigN cur) (hdy : DigN ys) (hy0 : 0 < ys.length) (hyt : ys.getLastD 1 ≠ 0) (hN : nval cur < 1000000000 * (nval ys * bp sh))
    (hv : w.cell? ⟨b, 0, none⟩ = some v) (hrc : Row w lo2 hi2 v (intsV cur)) (hry : Row w lo hi vy (intsV ys)) :
    Calls Tryz.prog 253 #[.pointer (some ⟨b, 0, none⟩), vy, .int .i64 sh] w fun e w' => e = .returned (.int .i64 (guessN cur ys sh)) ∧ ∃ q, w.drewN q = w' := by
  have hg0 := guess_nonneg hdc hdy sh
  have hgl := guess_le hdc hdy hy0 sh
  have hy1 := nval_ge ys hdy hyt hy0
  have hD : 0 < nval ys * bp sh := Int.mul_pos (by have := bp_pos (ys.length - 1); omega) (bp_pos sh)
  have hg1 := factor_lt hD hgl hN
  have hd1 := limbA_dig hdy ((ys.length : Int) - 1)
  have hd2 := limbA_dig hdy ((ys.length : Int) - 1 - 1)
  have hc1 := limbA_dig hdc ((sh : Int) + ((ys.length : Int) - 1) + 1)
  have hc2 := limbA_dig hdc ((sh : Int) + ((ys.length : Int) - 1))
  have hc3 := limbA_dig hdc ((sh : Int) + ((ys.length : Int) - 1) - 1)
  have hlast : limbA ys ((ys.length : Int) - 1) ≠ 0 ∧ ys[ys.length - 1]'(by omega) = limbA ys ((ys.length : Int) - 1) := by
    have e : limbA ys ((ys.length : Int) - 1) = ys[ys.length - 1]'(by omega) := by
      rw [show ((ys.length : Int) - 1) = ((ys.length - 1 : Nat) : Int) by omega, limbA_nat, List.getD_eq_getElem?_getD, List.getElem?_eq_getElem (by omega), Option.getD_some]
    refine ⟨?_, e.symm⟩
    rw [e]
    intro h
    apply hyt
    rw [List.getLastD_eq_getLast?, List.getLast?_eq_getElem?, List.getElem?_eq_getElem (by omega), Option.getD_some, h]
  have hcell := hry
  obtain ⟨A, c, rfl, hA⟩ := hcell
  rw [intsV_length] at hry ⊢
  obtain ⟨a, rfl, _, _, hca⟩ := hA (ys.length - 1) _ (intsV_at ys (ys.length - 1) (by omega))
  rw [hlast.2] at hca
  have hU0 : 1000000001 ≤ limbA ys ((ys.length : Int) - 1) * 1000000000 + limbA ys ((ys.length : Int) - 1 - 1) + 1 := by have := hlast.1; omega
  have hU1 : limbA ys ((ys.length : Int) - 1) * 1000000000 + limbA ys ((ys.length : Int) - 1 - 1) + 1 ≤ 1000000000000000000 := by omega
  have hF0 : 0 ≤ limbA cur ((sh : Int) + ((ys.length : Int) - 1) + 1) * 1000000000 + limbA cur ((sh : Int) + ((ys.length : Int) - 1)) := by omega
  have hF1 : limbA cur ((sh : Int) + ((ys.length : Int) - 1) + 1) * 1000000000 + limbA cur ((sh : Int) + ((ys.length : Int) - 1)) ≤ 999999999999999999 := by omega
  have HW := Lib.hid (guess_words hF0 hF1 hc3.1 hc3.2 hU0 hU1)
  have HG : Hid (guessN cur ys sh = ((limbA cur ((sh : Int) + ((ys.length : Int) - 1) + 1) * 1000000000 + limbA cur ((sh : Int) + ((ys.length : Int) - 1))) * 1000000000 + limbA cur ((sh : Int) + ((ys.length : Int) - 1) - 1)) /
    (limbA ys ((ys.length : Int) - 1) * 1000000000 + limbA ys ((ys.length : Int) - 1 - 1) + 1)) := Lib.hid rfl
  unfold guessN at hg0 hg1
  clear hN hgl hy1 hD hlast hyt hA
  have hadd := add64_run
  go_enter Tryz.func253, Tryz.ntmps253
  go_wp2
  go_quiet ((go_at_call 254; exact quiet_at rfl (limbAt_A _ ys _ lo hi _ hyl (hry.drewN _))))
  go_wp2
  go_quiet ((go_at_call 254; exact quiet_at rfl (limbAt_A _ cur _ lo2 hi2 _ hcl (hrc.drewN _))))
  generalize limbA cur ((sh : Int) + ((ys.length : Int) - 1) + 1) = C1 at *
  generalize limbA cur ((sh : Int) + ((ys.length : Int) - 1)) = C2 at *
  obtain ⟨F, hF⟩ : ∃ F : Nat, C1 * 1000000000 + C2 = (F : Int) := ⟨_, (Int.toNat_of_nonneg hF0).symm⟩
  rw [hF, Int.toNat_natCast] at HW
  rw [hF] at hg0 hg1 hF1 HG ⊢
  have hc11 := hc1.1
  have hc12 := hc1.2
  have hc21 := hc2.1
  have hc22 := hc2.2
  have hd11 := hd1.1
  have hd12 := hd1.2
  have hd21 := hd2.1
  have hd22 := hd2.2
  obtain ⟨U, hU⟩ : ∃ U : Nat, limbA ys ((ys.length : Int) - 1) * 1000000000 + limbA ys ((ys.length : Int) - 1 - 1) + 1 = (U : Int) := ⟨_, (Int.toNat_of_nonneg (by omega)).symm⟩
  rw [hU, Int.toNat_natCast] at HW
  rw [hU] at hg0 hg1 hU1 hU0 HG ⊢
  clear hc1 hc2 hd1 hd2
  obtain ⟨l3, hl3⟩ : ∃ l3 : Nat, limbA cur ((sh : Int) + ((ys.length : Int) - 1) - 1) = (l3 : Int) := ⟨_, (Int.toNat_of_nonneg hc3.1).symm⟩
  rw [hl3, Int.toNat_natCast] at HW
  rw [hl3] at hg0 hg1 hc3 HG
  have hl31 := hc3.2
  have hF2 : F * 1000000000 / 18446744073709551616 ≤ 1000000000 := by omega
  clear hc3 hd11 hd12 hd21 hd22 hc11 hc12 hc21 hc22
  go_wp2_with fail
  refine (Tryz.bits_Mul64 F 1000000000 (by omega) (by omega) _).mono ?_
  rintro e w1 ⟨rfl, rfl⟩
  have hm := Nat.mod_lt (F * 1000000000) (show 0 < 18446744073709551616 by omega)
  obtain ⟨h1, hh1⟩ : ∃ h1, F * 1000000000 / 18446744073709551616 = h1 := ⟨_, rfl⟩
  obtain ⟨m1, hm1⟩ : ∃ m1, F * 1000000000 % 18446744073709551616 = m1 := ⟨_, rfl⟩
  rw [hh1] at HW hF2 ⊢
  rw [hm1] at HW hm ⊢
  clear hh1 hm1
  go_wp2_with fail
  refine (limbAt_A v cur _ lo2 hi2 _ hcl (hrc.drewN _)).mono ?_
  rintro e w1 ⟨rfl, rfl⟩
  rw [hl3]
  have hHW := HW.out
  have hm2 := Nat.mod_lt (m1 + l3) (show 0 < 18446744073709551616 by omega)
  have hh2 : (m1 + l3) / 18446744073709551616 ≤ 1 := by omega
  rw [hHW.2.symm] at hg0 hg1
  have hHW1 := hHW.1
  have HQ := Lib.hid (HG.out.trans hHW.2.symm)
  clear hHW HW HG
  obtain ⟨c1, hc1⟩ : ∃ c1, (m1 + l3) / 18446744073709551616 = c1 := ⟨_, rfl⟩
  obtain ⟨m2, hc2⟩ : ∃ m2, (m1 + l3) % 18446744073709551616 = m2 := ⟨_, rfl⟩
  rw [hc1] at HQ hg0 hg1 hHW1 hh2
  rw [hc2] at HQ hg0 hg1 hm2
  have hc1i : ((m1 : Int) + (l3 : Int)) / 18446744073709551616 = (c1 : Int) := by omega
  have hc2i : ((m1 : Int) + (l3 : Int)) % 18446744073709551616 = (m2 : Int) := by omega
  obtain ⟨h2, hh3⟩ : ∃ h2 : Nat, (h1 : Int) + (c1 : Int) = (h2 : Int) := ⟨h1 + c1, by omega⟩
  rw [show h1 + c1 = h2 by omega] at HQ hg0 hg1 hHW1
  go_wp2_with fail
  refine (div64_any h2 m2 U hHW1 hm2 (by omega) _).mono ?_
  rintro e w1 ⟨⟨r, rfl⟩, n2, rfl⟩
  generalize (h2 * 18446744073709551616 + m2) / U = q at *
  go_wp2_with fail
  go_ret
  exact ⟨ret_int HQ.out.symm, _, rfl⟩
end Go.Proofs.YtofehcpapdlcnaaGreatDoor
