/-
  Chapter 8 of package spec: what its functions return that need no fractions.
  Chapter 8 of package impl: DecOk.
  strings.Cut at a point, strings.TrimLeft of noughts.
  Chapter 8 of package impl: DecText, TextDec.
  A text in pieces, in plain words: cut at every byte that occurs in another one.
  Texts of amounts in plain words: how one is written, and what is read.
  Chapter 10 of package impl: what MoneyText returns.
  Chapter 8 of package spec: DecText.
  Chapter 10 of package spec: what MoneyText returns.
  The law FnExactMoneyAdd of chapter 10, walked: it returns true wherever both packages answer alike.
  Chapter 10 of package impl: what MoneyNeg returns.
  What laws.markText returns: a text that is a function of its number alone.
-/
import Derived.Deep.DeepCutAuto
import Derived.Deep.RegionHeld3
import Derived.IntWalk
import Derived.Lib.IndexLaws
import Derived.Laws.CopyOwn
import Derived.Test.YtcenmdiblbooeaaDoorJA6
namespace Go.Proofs.YtcenmdiblbooeaaDoor
open Go.RowKit

/-- what a call answers that keeps the memory of its argument: a decimal number that leans on no other blocks, and a bool -/
def KeptD (S : List Nat) (R0 : DI) (R1 : Bool) (w : World) (e : Ending) (w' : World) : Prop :=
  ∃ (v : Value) (T : List Nat), e = .returned (.tuple #[v, .bool R1]) ∧ At T (OwnD v R0) w' ∧ (∀ i ∈ T, i ∈ S) ∧ Below w.heap.size w w'
theorem keptD_at {r : Nat} {S : List Nat} {c0 c1 c2 : Value} {x : DI} {b : Bool} {w W : World} (o : At S (OwnD (.agg #[c0, c1, c2]) x) W) (hS : ∀ i ∈ S, i < w.heap.size) (hr : w.heap.size ≤ r) (hW : Below w.heap.size w W) :
    KeptD S x b w (.returned (.tuple #[.agg #[c0, c1, c2], .bool b])) (((W.setCell ⟨r, 0, none⟩ c0).setCell ⟨r, 1, none⟩ c1).setCell ⟨r, 2, none⟩ c2) :=
  ⟨_, S, rfl, o.chg chg_set3 (fun i hi hm => by have := hS i hi; simp at hm; omega), fun i hi => hi, below_set3 hW hr⟩
theorem keptD_zero {S : List Nat} {w W : World} (hW : Below w.heap.size w W) : KeptD S zeroD false w (.returned (.tuple #[.agg #[.bool false, .slice none 0 0, .int .i64 0], .bool false])) W :=
  ⟨_, [], rfl, atD_zero _, fun _ hi => absurd hi List.not_mem_nil, hW⟩
theorem keptD_eq {S : List Nat} {q p : DI × Bool} (e : q = p) {w w' : World} {n : Ending} (h : KeptD S q.1 q.2 w n w') : KeptD S p.1 p.2 w n w' := e ▸ h
set_option maxHeartbeats 1000000 in
set_option maxRecDepth 100000 in
theorem specDecOk_any (vd : Value) (d : DI) (w : World) (hl : d.1.2.length ≤ 1048576) (hd : OwnD vd d w) :
    Calls Tryd.prog 92 #[vd] w (Postb (okD d) w) := by
  have Hd := Lib.hid hd
  obtain ⟨Ad, cd, rfl⟩ := ownD_form hd
  have ODd := Lib.hid (show ∀ W, Below w.heap.size w W → OwnD (.agg #[.bool d.1.1, .slice Ad d.1.2.length cd, .int .i64 d.2]) d W from fun W hb => OwnD.below Hd.out hb)
  have OId := Lib.hid (show ∀ W, Below w.heap.size w W → OwnI (.slice Ad d.1.2.length cd) d.1.2 W from fun W hb => ownD_open (ODd.out W hb))
  have OSd := Lib.hid (show ∀ W, Below w.heap.size w W → OwnS (.agg #[.bool d.1.1, .slice Ad d.1.2.length cd]) d.1 W from fun W hb => OwnS.mk (OId.out W hb))
  clear hd
  have bb0 : Below w.heap.size w (w.alloc (.cells #[.bool d.1.1, .slice Ad d.1.2.length cd, .int .i64 d.2] 78)) := below_al (Below.refl _ _) _
  have kd := (box_new w #[.bool d.1.1, .slice Ad d.1.2.length cd, .int .i64 d.2] 78)
  go_enter Tryd.func92, Tryd.ntmps92
  have kd_c0 := kd.here.cell 0 _ rfl
  have kd_c1 := kd.here.cell 1 _ rfl
  have kd_c2 := kd.here.cell 2 _ rfl
  go_wp2_with fail
  clear kd_c0 kd_c1 kd_c2
  refine (specIntOk_any _ d.1 _ hl (OwnS.rd (OSd.out _ bb0))).mono ?_
  rintro e w1 ⟨rfl, b1⟩
  have bb1 := Below.next bb0 b1
  replace kd := kd.below b1
  by_cases ok1 : okS d.1 = true
  · rw [ok1]
    have HO1 := Lib.hid ok1
    clear ok1
    by_cases hs : d.1.2.length ≤ 6
    · have HV0 := Lib.hid (show okD d = decide (0 ≤ d.2 ∧ d.2 ≤ 30) by unfold okD; rw [HO1.out, decide_eq_true hs]; rfl)
      have hs6 : (d.1.2.length : Int) ≤ 6 := by omega
      have hs7 : ¬ (6 : Int) < (d.1.2.length : Int) := by omega
      clear hs
      have kd_c0 := kd.here.cell 0 _ rfl
      have kd_c1 := kd.here.cell 1 _ rfl
      have kd_c2 := kd.here.cell 2 _ rfl
      go_wp2_with fail
      clear kd_c0 kd_c1 kd_c2
      refine (specIn_any d.2 0 30 _ _ rfl).mono ?_
      rintro e w_ ⟨rfl, rfl⟩
      have HV := Lib.hid (show okD d = inB d.2 0 30 from HV0.out)
      generalize inB d.2 0 30 = b at *
      clear kd
      go_wp2
      go_ret
      exact ⟨ret_bool HV.out.symm, bb1⟩
    · have HV := Lib.hid (show okD d = false by unfold okD; rw [decide_eq_false hs, Bool.false_and, Bool.and_false])
      have hs6 : ¬ (d.1.2.length : Int) ≤ 6 := by omega
      have hs7 : (6 : Int) < (d.1.2.length : Int) := by omega
      clear hs
      have kd_c0 := kd.here.cell 0 _ rfl
      have kd_c1 := kd.here.cell 1 _ rfl
      have kd_c2 := kd.here.cell 2 _ rfl
      go_wp2
      go_ret
      exact ⟨ret_bool HV.out.symm, bb1⟩
  · have ok1' : okS d.1 = false := by simpa using ok1
    have HV := Lib.hid (show okD d = false by unfold okD; rw [ok1']; rfl)
    rw [ok1']
    clear ok1 ok1'
    go_wp2
    go_ret
    exact ⟨ret_bool HV.out.symm, bb1⟩
end Go.Proofs.YtcenmdiblbooeaaDoor

namespace Go.Proofs.YtcenmdiblbooeaaDoor
open Go.RowKit

set_option maxHeartbeats 1000000 in
set_option maxRecDepth 100000 in
theorem implDecOk_any (vd : Value) (d : DI) (w : World) (hl : d.1.2.length ≤ 1048576) (hd : OwnD vd d w) :
    Calls Tryd.prog 96 #[vd] w (Postb (okD d) w) := by
  have Hd := Lib.hid hd
  obtain ⟨Ad, cd, rfl⟩ := ownD_form hd
  have ODd := Lib.hid (show ∀ W, Below w.heap.size w W → OwnD (.agg #[.bool d.1.1, .slice Ad d.1.2.length cd, .int .i64 d.2]) d W from fun W hb => OwnD.below Hd.out hb)
  have OId := Lib.hid (show ∀ W, Below w.heap.size w W → OwnI (.slice Ad d.1.2.length cd) d.1.2 W from fun W hb => ownD_open (ODd.out W hb))
  have OSd := Lib.hid (show ∀ W, Below w.heap.size w W → OwnS (.agg #[.bool d.1.1, .slice Ad d.1.2.length cd]) d.1 W from fun W hb => OwnS.mk (OId.out W hb))
  clear hd
  have bb0 : Below w.heap.size w (w.alloc (.cells #[.bool d.1.1, .slice Ad d.1.2.length cd, .int .i64 d.2] 78)) := below_al (Below.refl _ _) _
  have kd := (box_new w #[.bool d.1.1, .slice Ad d.1.2.length cd, .int .i64 d.2] 78)
  go_enter Tryd.func96, Tryd.ntmps96
  have kd_c0 := kd.here.cell 0 _ rfl
  have kd_c1 := kd.here.cell 1 _ rfl
  have kd_c2 := kd.here.cell 2 _ rfl
  go_wp2_with fail
  clear kd_c0 kd_c1 kd_c2
  refine (implIntOk_any _ d.1 _ hl (OwnS.rd (OSd.out _ bb0))).mono ?_
  rintro e w1 ⟨rfl, b1⟩
  have bb1 := Below.next bb0 b1
  replace kd := kd.below b1
  by_cases ok1 : okS d.1 = true
  · rw [ok1]
    have HO1 := Lib.hid ok1
    clear ok1
    by_cases hs : d.1.2.length ≤ 6
    · have HV0 := Lib.hid (show okD d = decide (0 ≤ d.2 ∧ d.2 ≤ 30) by unfold okD; rw [HO1.out, decide_eq_true hs]; rfl)
      have hs6 : (d.1.2.length : Int) ≤ 6 := by omega
      have hs7 : ¬ (6 : Int) < (d.1.2.length : Int) := by omega
      clear hs
      have kd_c0 := kd.here.cell 0 _ rfl
      have kd_c1 := kd.here.cell 1 _ rfl
      have kd_c2 := kd.here.cell 2 _ rfl
      by_cases h0 : 0 ≤ d.2
      · have h0n : ¬ d.2 < 0 := by omega
        have HV := Lib.hid (show okD d = decide (d.2 ≤ 30) by rw [HV0.out, decide_eq_decide]; exact ⟨fun h => h.2, fun h => ⟨h0, h⟩⟩)
        go_wp2
        go_ret
        exact ⟨ret_bool HV.out.symm, bb1⟩
      · have h0n : d.2 < 0 := by omega
        have HV := Lib.hid (show okD d = false by rw [HV0.out]; exact decide_eq_false (fun h => h0 h.1))
        go_wp2
        go_ret
        exact ⟨ret_bool HV.out.symm, bb1⟩
    · have HV := Lib.hid (show okD d = false by unfold okD; rw [decide_eq_false hs, Bool.false_and, Bool.and_false])
      have hs6 : ¬ (d.1.2.length : Int) ≤ 6 := by omega
      have hs7 : (6 : Int) < (d.1.2.length : Int) := by omega
      clear hs
      have kd_c0 := kd.here.cell 0 _ rfl
      have kd_c1 := kd.here.cell 1 _ rfl
      have kd_c2 := kd.here.cell 2 _ rfl
      go_wp2
      go_ret
      exact ⟨ret_bool HV.out.symm, bb1⟩
  · have ok1' : okS d.1 = false := by simpa using ok1
    have HV := Lib.hid (show okD d = false by unfold okD; rw [ok1']; rfl)
    rw [ok1']
    clear ok1 ok1'
    go_wp2
    go_ret
    exact ⟨ret_bool HV.out.symm, bb1⟩
end Go.Proofs.YtcenmdiblbooeaaDoor

namespace Go.Proofs.YtcenmdiblbooeaaDoor
open Go.RowKit

theorem emptyP_ne {s : ByteArray} (h : ¬ s = ⟨#[]⟩) : s.toList.isEmpty = false := by
  rcases Bool.eq_false_or_eq_true s.toList.isEmpty with e | e
  · rw [List.isEmpty_iff, Lib.toList_data] at e
    exact absurd (WideShapes.bytes_inj (by rw [e])) h
  · exact e
theorem bytes_neP {a b : ByteArray} (h : ¬ a = b) : (a.toList == b.toList) = false := by
  rw [beq_eq_false_iff_ne, ByteArray.toList_eq, ByteArray.toList_eq]
  exact fun e => h (WideShapes.bytes_inj e)
theorem bytes_eqP {a b : ByteArray} (h : a = b) : (a.toList == b.toList) = true := by subst h; exact beq_self_eq_true _
theorem point_lt {s : ByteArray} {o : Nat} (h : pointAt s = o) : o < s.size := by
  obtain ⟨h1, _⟩ := Lib.indexByte_some h
  have := (List.getElem?_eq_some_iff.1 h1).1
  rw [listB_len] at this
  exact this
theorem pre_post_size (s : ByteArray) : (preB s).size ≤ s.size ∧ (postB s).size ≤ s.size ∧ (preB s).size + (postB s).size ≤ s.size := by
  unfold preB postB
  split
  · exact ⟨Nat.le_refl _, Nat.zero_le _, Nat.le_refl _⟩
  · rw [ByteArray.size_extract, ByteArray.size_extract]
    omega
theorem trim_size (l : List UInt8) (c : UInt8) : (Lib.trimLeftB l c).length ≤ l.length := (List.dropWhile_sublist _).length_le
end Go.Proofs.YtcenmdiblbooeaaDoor

namespace Go.Proofs.YtcenmdiblbooeaaDoor
open Go.RowKit

theorem ret_strD {a b : ByteArray} (h : a = b) : Ending.returned (.string a) = Ending.returned (.string b) := by rw [h]
theorem postT_eqD {a b : ByteArray} (h : a = b) {w w' : World} {e : Ending} (k : e = .returned (.string a) ∧ Below w.heap.size w w') : PostT b w e w' := by rw [← h]; exact k
theorem postT_isD {a b : ByteArray} (h : a = b) {w w' : World} {e : Ending} (k : PostT a w e w') : PostT b w e w' := h ▸ k
theorem natText_pos {a : DI} (h : okD a = true) : 1 ≤ (natTextB a.1.2).size := by
  obtain ⟨n, m, b⟩ := body_of h
  have hd := (dig_dec n).2
  have e := b.digits
  have hl := listB_len (natTextB a.1.2)
  rw [e] at hl
  cases hq : Lib.decDigits n with
  | nil => exact absurd hq hd
  | cons c r => rw [hq] at hl; simp at hl; omega
/-- the text of a number without a scale -/
theorem text_zero {a : DI} (h : okD a = true) (h0 : a.2 = 0) : textD a = intStrB a.1 := by
  have hb : bodyD a = natTextB a.1.2 := by
    unfold bodyD
    rw [h0]
    exact padB_same _ _ (by have := natText_pos h; omega)
  unfold textD intStrB
  rw [if_pos h, if_pos (partsD h).ok, hb, h0]
  unfold pointB
  have e : ¬ (0 : Int) < 0 := by decide
  rw [if_neg e]
/-- its parts, with one -/
theorem text_some {a : DI} (h : okD a = true) (h0 : 0 < a.2) {K : Nat} (hK : ((bodyD a).size : Int) - a.2 = K) :
    textD a = (if a.1.1 = true then (⟨#[45]⟩ : ByteArray) else ⟨#[]⟩) ++ ((bodyD a).extract 0 K ++ ⟨#[46]⟩ ++ (bodyD a).extract K (bodyD a).size) := by
  have e : (bodyD a).size - a.2.toNat = K := by omega
  unfold textD pointB
  rw [if_pos h, if_pos h0, e]
  cases a.1.1 with
  | true => rfl
  | false =>
    apply ByteArray.ext
    simp
theorem body_K {a : DI} (h : okD a = true) : ∃ K : Nat, ((bodyD a).size : Int) - a.2 = K ∧ K ≤ (bodyD a).size ∧ (bodyD a).size ≤ 100 := by
  obtain ⟨n, m, b⟩ := body_of h
  have h1 := b.long
  have h2 := b.size
  have h3 := (partsD h).lo
  exact ⟨(bodyD a).size - a.2.toNat, by omega, by omega, h2⟩
theorem box_rowD {g : Nat} {cs : Array Value} {T : TypeId} {w : World} (h : BoxAt g cs T w) : Row w 0 w.heap.size (.slice (some ⟨g, 0, none⟩) cs.size cs.size) cs.toList := by
  have hg := (Array.getElem?_eq_some_iff.1 h).1
  refine ⟨some ⟨g, 0, none⟩, cs.size, by simp, fun j u hj => ⟨⟨g, 0, none⟩, rfl, Nat.zero_le _, hg, ?_⟩⟩
  have e1 : (Addr.add ⟨g, 0, none⟩ j) = ⟨g, j, none⟩ := by
    unfold Addr.add
    cases j with
    | zero => rfl
    | succ n => simp
  rw [e1, Lib.cell_of_heap h]
  simpa using hj
theorem box_drewD {g : Nat} {cs : Array Value} {T : TypeId} {w : World} (h : BoxAt g cs T w) : BoxAt g cs T w.drew := h
theorem join_four (S A C : ByteArray) : joinB ⟨#[]⟩ [S, A, ⟨#[46]⟩, C] = S ++ (A ++ ⟨#[46]⟩ ++ C) := by
  apply ByteArray.ext
  simp [joinB, joinTo]
theorem four_small {S A C : ByteArray} (h1 : S.size ≤ 1048576) (h2 : A.size ≤ 1048576) (h3 : C.size ≤ 1048576) : ∀ s ∈ [S, A, (⟨#[46]⟩ : ByteArray), C], s.size ≤ 1048576 := fun s hs => by
  simp at hs
  rcases hs with rfl | rfl | rfl | rfl
  · exact h1
  · exact h2
  · decide
  · exact h3
theorem join4_at (S A C T0 : ByteArray) (g : Nat) (W : World) (T : TypeId) (h1 : S.size ≤ 1048576) (h2 : A.size ≤ 1048576) (h3 : C.size ≤ 1048576) (hT : S ++ (A ++ ⟨#[46]⟩ ++ C) = T0) (hb : BoxAt g #[.string S, .string A, .string ⟨#[46]⟩, .string C] T W) :
    Calls Tryd.prog 95 #[.string ⟨#[]⟩, .slice (some ⟨g, 0, none⟩) 4 4] W (PostT T0 W) := by
  have h := joinAll_any ⟨#[]⟩ (.slice (some ⟨g, 0, none⟩) 4 4) [S, A, ⟨#[46]⟩, C] 0 _ W (Nat.le_refl _) (by simp) (by decide) (four_small h1 h2 h3) (box_rowD hb)
  rw [join_four, hT] at h
  exact h
set_option maxHeartbeats 4000000 in
set_option maxRecDepth 100000 in
theorem implDecText_any (va : Value) (a : DI) (w : World) (hla : a.1.2.length ≤ 1048576) (ha : OwnD va a w) (ht : Tab w) :
    Calls Tryd.prog 65 #[va] w (PostT (textD a) w) := by
  have HT := Lib.hid ht
  clear ht
  have Ha := Lib.hid ha
  obtain ⟨Aa, ca, rfl⟩ := ownD_form ha
  have ODa := Lib.hid (show ∀ W, Below w.heap.size w W → OwnD (.agg #[.bool a.1.1, .slice Aa a.1.2.length ca, .int .i64 a.2]) a W from fun W hb => OwnD.below Ha.out hb)
  have OIa := Lib.hid (show ∀ W, Below w.heap.size w W → OwnI (.slice Aa a.1.2.length ca) a.1.2 W from fun W hb => ownD_open (ODa.out W hb))
  have OSa := Lib.hid (show ∀ W, Below w.heap.size w W → OwnS (.agg #[.bool a.1.1, .slice Aa a.1.2.length ca]) a.1 W from fun W hb => OwnS.mk (OIa.out W hb))
  clear ha
  have bb0 : Below w.heap.size w (w.alloc (.cells #[.bool a.1.1, .slice Aa a.1.2.length ca, .int .i64 a.2] 78)) := below_al (Below.refl _ _) _
  have ka := (box_new w #[.bool a.1.1, .slice Aa a.1.2.length ca, .int .i64 a.2] 78)
  obtain ⟨T, hT⟩ : ∃ T, textD a = T := ⟨_, rfl⟩
  have ET := Lib.hid hT
  rw [hT]
  clear hT
  go_enter Tryd.func65, Tryd.ntmps65
  have ka_c0 := ka.here.cell 0 _ rfl
  have ka_c1 := ka.here.cell 1 _ rfl
  have ka_c2 := ka.here.cell 2 _ rfl
  go_wp2_with fail
  clear ka_c0 ka_c1 ka_c2
  refine (implDecOk_any _ a _ hla (ODa.out _ bb0)).mono ?_
  rintro e w1 ⟨rfl, b1⟩
  have bb1 := Below.next bb0 b1
  replace ka := ka.below b1
  by_cases ok : okD a = true
  · rw [ok]
    have HO := Lib.hid ok
    have qa := partsD ok
    have ta := qa.lo
    have ta2 := qa.hi
    clear ok qa
    by_cases hs : a.2 = 0
    · have HV := Lib.hid (show intStrB a.1 = T from (text_zero HO.out hs).symm.trans ET.out)
      have hs2 : (a.2 == 0) = true := by rw [beq_iff_eq]; exact hs
      have ka_c0 := ka.here.cell 0 _ rfl
      have ka_c1 := ka.here.cell 1 _ rfl
      have ka_c2 := ka.here.cell 2 _ rfl
      go_wp2_with fail
      clear ka_c0 ka_c1 ka_c2
      refine (implIntStr_any _ a.1 _ hla (OwnS.rd (OSa.out _ bb1)) (HT.out.below bb1)).mono ?_
      rintro e w2 ⟨rfl, b2⟩
      have bb2 := Below.next bb1 b2
      replace ka := ka.below b2
      clear ka
      go_wp2
      go_ret
      exact ⟨ret_strD HV.out, bb2⟩
    · have hs2 : (a.2 == 0) = false := by rw [beq_eq_false_iff_ne]; exact hs
      have h0 : 0 < a.2 := by omega
      obtain ⟨K, hK, hKl, hB⟩ := body_K HO.out
      have HV := Lib.hid ((text_some HO.out h0 hK).symm.trans ET.out)
      obtain ⟨n1, hn1⟩ : ∃ n, IntKind.i64.wrap (a.2 + 1) = n := ⟨_, rfl⟩
      have hn2 : n1 = a.2 + 1 := by rw [← hn1]; exact IntWalk.i64_in _ (by omega)
      obtain ⟨D, hD⟩ : ∃ D, natTextB a.1.2 = D := ⟨_, rfl⟩
      have hDs : D.size ≤ 1048576 := by rw [← hD]; have := natTextB_size a.1.2; omega
      have EB := Lib.hid (show padB D n1 = bodyD a by rw [← hD, hn2]; rfl)
      have hn3 : n1 ≤ 2000 := by omega
      have hn4 : -9223372036854775808 ≤ n1 := by omega
      generalize bodyD a = B at *
      have ED := Lib.hid hD
      have hKw : IntKind.i64.wrap ((B.size : Int) - a.2) = (K : Int) := by rw [hK]; exact IntWalk.i64_in _ (by omega)
      have c1 : (0 : Int) ≤ (K : Int) := by omega
      have c2 : (K : Int) ≤ (B.size : Int) := by omega
      clear hD hn2 hK hs
      cases hneg : a.1.1 with
      | true =>
        rw [hneg] at HV
        have HG := Lib.hid hneg
        have ka_c0 := ka.here.cell 0 _ rfl
        have ka_c1 := ka.here.cell 1 _ rfl
        have ka_c2 := ka.here.cell 2 _ rfl
        rw [show (#[.bool a.1.1, .slice Aa a.1.2.length ca, .int .i64 a.2] : Array Value)[0] = .bool true from by show Value.bool a.1.1 = _; rw [hneg]] at ka_c0
        clear hneg
        go_wp2_with fail
        have HC0 := Lib.hid (show Chg [] w1 w1.drew from (Chg.refl _ _).drew1)
        have HCr := Lib.hid (show Chg [] w1 w1 from Chg.refl _ _)
        have KL := Lib.hid (show ∀ W, Chg [] w1 W → W.cell? ⟨w.heap.size, 0, none⟩ = some (.bool a.1.1) ∧ W.cell? ⟨w.heap.size, 1, none⟩ = some (.slice Aa a.1.2.length ca) ∧ W.cell? ⟨w.heap.size, 2, none⟩ = some (.int .i64 a.2) ∧ Hid (Chg [] w1 W) from fun W hc => ⟨(ka.chg hc (fun i hi hm => by simp at hm)).here.cell 0 _ rfl, (ka.chg hc (fun i hi hm => by simp at hm)).here.cell 1 _ rfl, (ka.chg hc (fun i hi hm => by simp at hm)).here.cell 2 _ rfl, Lib.hid hc⟩)
        have BBF := Lib.hid (show ∀ W, Chg [] w1 W → Below w.heap.size w W from fun W hc => below_chg bb1 hc bb1.size (fun i hi => by simp at hi))
        clear ka_c0 ka_c1 ka_c2
        go_region_held3 (fun W => W.cell? ⟨w.heap.size, 0, none⟩ = some (.bool a.1.1) ∧ W.cell? ⟨w.heap.size, 1, none⟩ = some (.slice Aa a.1.2.length ca) ∧ W.cell? ⟨w.heap.size, 2, none⟩ = some (.int .i64 a.2) ∧ Hid (Chg [] w1 W))
          ((refine KL.out _ ?_; (first | exact HC3.out | exact HC2.out | exact HCr.out | exact HC0.out | exact HC3.out.drew1 | exact HC2.out.drew1 | exact HCr.out.drew1 | exact HC0.out.drew1 | exact HC3.out.trans (Chg.of_below (below_al (Below.refl _ _) _)) | exact HC2.out.trans (Chg.of_below (below_al (Below.refl _ _) _)) | exact HCr.out.trans (Chg.of_below (below_al (Below.refl _ _) _)) | exact HC0.out.trans (Chg.of_below (below_al (Below.refl _ _) _)) | fail)))
          (first
            | (go_at_call 99; (have hBB := (‹_ ∧ _ ∧ _ ∧ Hid (Chg [] w1 _)›).2.2.2); (with_reducible refine ((implNatText_any _ a.1.2 0 _ _ hla (Nat.le_refl _) (OIa.out _ (BBF.out _ hBB.out)).row (HT.out.below (BBF.out _ hBB.out))).mono fun _ _ h => postT_eqD ED.out h).mono ?_); rintro e w2 ⟨rfl, b2⟩; have HC2 := Lib.hid (hBB.out.trans (Chg.of_below b2)); have HBZ2 := Lib.hid hBB.out.size; clear hBB)
            | (go_at_call 98; (have hBB := (‹_ ∧ _ ∧ _ ∧ Hid (Chg [] w1 _)›).2.2.2); (with_reducible refine ((implPad_any D n1 _ hDs hn3 hn4).mono fun _ _ h => postT_eqD EB.out h).mono ?_); rintro e w3 ⟨rfl, b3⟩; have HC3 := Lib.hid (hBB.out.trans (Chg.of_below b3)); have HBZ3 := Lib.hid hBB.out.size; clear hBB))
        all_goals
          have bb3 := BBF.out _ HC3.out
          replace ka := ka.chg HC3.out (fun i hi hm => by simp at hm)
          have hj1 : (⟨#[45]⟩ : ByteArray).size ≤ 1048576 := by decide
          have hj2 : (B.extract 0 K).size ≤ 1048576 := by rw [ByteArray.size_extract]; omega
          have hj3 : (B.extract K B.size).size ≤ 1048576 := by rw [ByteArray.size_extract]; omega
          have HVV := Lib.hid (show (⟨#[45]⟩ : ByteArray) ++ (B.extract 0 K ++ ⟨#[46]⟩ ++ B.extract K B.size) = T from by have h := HV.out; first | exact h | (rw [if_pos rfl] at h; exact h) | (rw [if_neg (by decide)] at h; exact h))
          have ka_c0 := ka.here.cell 0 _ rfl
          have ka_c1 := ka.here.cell 1 _ rfl
          have ka_c2 := ka.here.cell 2 _ rfl
          go_wp2_with fail
          have HC0 := Lib.hid (show Chg [] w3 w3.drew from (Chg.refl _ _).drew1)
          have HCr := Lib.hid (show Chg [] w3 w3 from Chg.refl _ _)
          have KL := Lib.hid (show ∀ W, Chg [] w3 W → W.cell? ⟨w.heap.size, 0, none⟩ = some (.bool a.1.1) ∧ W.cell? ⟨w.heap.size, 1, none⟩ = some (.slice Aa a.1.2.length ca) ∧ W.cell? ⟨w.heap.size, 2, none⟩ = some (.int .i64 a.2) ∧ Hid (Chg [] w3 W) from fun W hc => ⟨(ka.chg hc (fun i hi hm => by simp at hm)).here.cell 0 _ rfl, (ka.chg hc (fun i hi hm => by simp at hm)).here.cell 1 _ rfl, (ka.chg hc (fun i hi hm => by simp at hm)).here.cell 2 _ rfl, Lib.hid hc⟩)
          have BBF := Lib.hid (show ∀ W, Chg [] w3 W → Below w.heap.size w W from fun W hc => below_chg bb3 hc bb3.size (fun i hi => by simp at hi))
          clear ka_c0 ka_c1 ka_c2
          go_region_held3 (fun W => W.cell? ⟨w.heap.size, 0, none⟩ = some (.bool a.1.1) ∧ W.cell? ⟨w.heap.size, 1, none⟩ = some (.slice Aa a.1.2.length ca) ∧ W.cell? ⟨w.heap.size, 2, none⟩ = some (.int .i64 a.2) ∧ Hid (Chg [] w3 W))
            ((refine KL.out _ ?_; (first | exact HC4.out | exact HCr.out | exact HC0.out | exact HC4.out.drew1 | exact HCr.out.drew1 | exact HC0.out.drew1 | exact HC4.out.trans (Chg.of_below (below_al (Below.refl _ _) _)) | exact HCr.out.trans (Chg.of_below (below_al (Below.refl _ _) _)) | exact HC0.out.trans (Chg.of_below (below_al (Below.refl _ _) _)) | fail)))
            (first
              | (go_at_call 95; (have hBB := (‹_ ∧ _ ∧ _ ∧ Hid (Chg [] w3 _)›).2.2.2); (with_reducible refine (join4_at ⟨#[45]⟩ (B.extract 0 K) (B.extract K B.size) T _ _ _ hj1 hj2 hj3 HVV.out (by first | exact (box_new _ _ 9).here | exact box_drewD (box_new _ _ 9).here)).mono ?_); rintro e w4 ⟨rfl, b4⟩; have HC4 := Lib.hid (hBB.out.trans (Chg.of_below b4)); have HBZ4 := Lib.hid hBB.out.size; clear hBB))
          all_goals
            have bb4 := BBF.out _ HC4.out
            replace ka := ka.chg HC4.out (fun i hi hm => by simp at hm)
            go_wp2
            go_ret
            exact ⟨rfl, bb4⟩
      | false =>
        rw [hneg] at HV
        have HG := Lib.hid hneg
        have ka_c0 := ka.here.cell 0 _ rfl
        have ka_c1 := ka.here.cell 1 _ rfl
        have ka_c2 := ka.here.cell 2 _ rfl
        rw [show (#[.bool a.1.1, .slice Aa a.1.2.length ca, .int .i64 a.2] : Array Value)[0] = .bool false from by show Value.bool a.1.1 = _; rw [hneg]] at ka_c0
        clear hneg
        go_wp2_with fail
        have HC0 := Lib.hid (show Chg [] w1 w1.drew from (Chg.refl _ _).drew1)
        have HCr := Lib.hid (show Chg [] w1 w1 from Chg.refl _ _)
        have KL := Lib.hid (show ∀ W, Chg [] w1 W → W.cell? ⟨w.heap.size, 0, none⟩ = some (.bool a.1.1) ∧ W.cell? ⟨w.heap.size, 1, none⟩ = some (.slice Aa a.1.2.length ca) ∧ W.cell? ⟨w.heap.size, 2, none⟩ = some (.int .i64 a.2) ∧ Hid (Chg [] w1 W) from fun W hc => ⟨(ka.chg hc (fun i hi hm => by simp at hm)).here.cell 0 _ rfl, (ka.chg hc (fun i hi hm => by simp at hm)).here.cell 1 _ rfl, (ka.chg hc (fun i hi hm => by simp at hm)).here.cell 2 _ rfl, Lib.hid hc⟩)
        have BBF := Lib.hid (show ∀ W, Chg [] w1 W → Below w.heap.size w W from fun W hc => below_chg bb1 hc bb1.size (fun i hi => by simp at hi))
        clear ka_c0 ka_c1 ka_c2
        go_region_held3 (fun W => W.cell? ⟨w.heap.size, 0, none⟩ = some (.bool a.1.1) ∧ W.cell? ⟨w.heap.size, 1, none⟩ = some (.slice Aa a.1.2.length ca) ∧ W.cell? ⟨w.heap.size, 2, none⟩ = some (.int .i64 a.2) ∧ Hid (Chg [] w1 W))
          ((refine KL.out _ ?_; (first | exact HC3.out | exact HC2.out | exact HCr.out | exact HC0.out | exact HC3.out.drew1 | exact HC2.out.drew1 | exact HCr.out.drew1 | exact HC0.out.drew1 | exact HC3.out.trans (Chg.of_below (below_al (Below.refl _ _) _)) | exact HC2.out.trans (Chg.of_below (below_al (Below.refl _ _) _)) | exact HCr.out.trans (Chg.of_below (below_al (Below.refl _ _) _)) | exact HC0.out.trans (Chg.of_below (below_al (Below.refl _ _) _)) | fail)))
          (first
            | (go_at_call 99; (have hBB := (‹_ ∧ _ ∧ _ ∧ Hid (Chg [] w1 _)›).2.2.2); (with_reducible refine ((implNatText_any _ a.1.2 0 _ _ hla (Nat.le_refl _) (OIa.out _ (BBF.out _ hBB.out)).row (HT.out.below (BBF.out _ hBB.out))).mono fun _ _ h => postT_eqD ED.out h).mono ?_); rintro e w2 ⟨rfl, b2⟩; have HC2 := Lib.hid (hBB.out.trans (Chg.of_below b2)); have HBZ2 := Lib.hid hBB.out.size; clear hBB)
            | (go_at_call 98; (have hBB := (‹_ ∧ _ ∧ _ ∧ Hid (Chg [] w1 _)›).2.2.2); (with_reducible refine ((implPad_any D n1 _ hDs hn3 hn4).mono fun _ _ h => postT_eqD EB.out h).mono ?_); rintro e w3 ⟨rfl, b3⟩; have HC3 := Lib.hid (hBB.out.trans (Chg.of_below b3)); have HBZ3 := Lib.hid hBB.out.size; clear hBB))
        all_goals
          have bb3 := BBF.out _ HC3.out
          replace ka := ka.chg HC3.out (fun i hi hm => by simp at hm)
          have hj1 : (⟨#[]⟩ : ByteArray).size ≤ 1048576 := by decide
          have hj2 : (B.extract 0 K).size ≤ 1048576 := by rw [ByteArray.size_extract]; omega
          have hj3 : (B.extract K B.size).size ≤ 1048576 := by rw [ByteArray.size_extract]; omega
          have HVV := Lib.hid (show (⟨#[]⟩ : ByteArray) ++ (B.extract 0 K ++ ⟨#[46]⟩ ++ B.extract K B.size) = T from by have h := HV.out; first | exact h | (rw [if_pos rfl] at h; exact h) | (rw [if_neg (by decide)] at h; exact h))
          have ka_c0 := ka.here.cell 0 _ rfl
          have ka_c1 := ka.here.cell 1 _ rfl
          have ka_c2 := ka.here.cell 2 _ rfl
          go_wp2_with fail
          have HC0 := Lib.hid (show Chg [] w3 w3.drew from (Chg.refl _ _).drew1)
          have HCr := Lib.hid (show Chg [] w3 w3 from Chg.refl _ _)
          have KL := Lib.hid (show ∀ W, Chg [] w3 W → W.cell? ⟨w.heap.size, 0, none⟩ = some (.bool a.1.1) ∧ W.cell? ⟨w.heap.size, 1, none⟩ = some (.slice Aa a.1.2.length ca) ∧ W.cell? ⟨w.heap.size, 2, none⟩ = some (.int .i64 a.2) ∧ Hid (Chg [] w3 W) from fun W hc => ⟨(ka.chg hc (fun i hi hm => by simp at hm)).here.cell 0 _ rfl, (ka.chg hc (fun i hi hm => by simp at hm)).here.cell 1 _ rfl, (ka.chg hc (fun i hi hm => by simp at hm)).here.cell 2 _ rfl, Lib.hid hc⟩)
          have BBF := Lib.hid (show ∀ W, Chg [] w3 W → Below w.heap.size w W from fun W hc => below_chg bb3 hc bb3.size (fun i hi => by simp at hi))
          clear ka_c0 ka_c1 ka_c2
          go_region_held3 (fun W => W.cell? ⟨w.heap.size, 0, none⟩ = some (.bool a.1.1) ∧ W.cell? ⟨w.heap.size, 1, none⟩ = some (.slice Aa a.1.2.length ca) ∧ W.cell? ⟨w.heap.size, 2, none⟩ = some (.int .i64 a.2) ∧ Hid (Chg [] w3 W))
            ((refine KL.out _ ?_; (first | exact HC4.out | exact HCr.out | exact HC0.out | exact HC4.out.drew1 | exact HCr.out.drew1 | exact HC0.out.drew1 | exact HC4.out.trans (Chg.of_below (below_al (Below.refl _ _) _)) | exact HCr.out.trans (Chg.of_below (below_al (Below.refl _ _) _)) | exact HC0.out.trans (Chg.of_below (below_al (Below.refl _ _) _)) | fail)))
            (first
              | (go_at_call 95; (have hBB := (‹_ ∧ _ ∧ _ ∧ Hid (Chg [] w3 _)›).2.2.2); (with_reducible refine (join4_at ⟨#[]⟩ (B.extract 0 K) (B.extract K B.size) T _ _ _ hj1 hj2 hj3 HVV.out (by first | exact (box_new _ _ 9).here | exact box_drewD (box_new _ _ 9).here)).mono ?_); rintro e w4 ⟨rfl, b4⟩; have HC4 := Lib.hid (hBB.out.trans (Chg.of_below b4)); have HBZ4 := Lib.hid hBB.out.size; clear hBB))
          all_goals
            have bb4 := BBF.out _ HC4.out
            replace ka := ka.chg HC4.out (fun i hi hm => by simp at hm)
            go_wp2
            go_ret
            exact ⟨rfl, bb4⟩
  · have ok' : okD a = false := by simpa using ok
    have HV := Lib.hid (show (⟨#[]⟩ : ByteArray) = T by rw [← ET.out]; unfold textD; rw [if_neg ok])
    rw [ok']
    clear ok ok' ka
    go_wp2
    go_ret
    exact ⟨ret_strD HV.out, bb1⟩
end Go.Proofs.YtcenmdiblbooeaaDoor

namespace Go.Proofs.YtcenmdiblbooeaaDoor
open Go.RowKit

/-- does the byte occur in by -/
def hitB (by_ : ByteArray) (c : UInt8) : Bool := by_.data.toList.contains c
/-- the pieces that the first k bytes of s end, and where the next piece begins -/
def cutsTo (s by_ : ByteArray) : Nat → List ByteArray × Nat
  | 0 => ([], 0)
  | k + 1 => if hitB by_ (s.data.toList.getD k 0) then ((cutsTo s by_ k).1 ++ [s.extract (cutsTo s by_ k).2 k], k + 1) else cutsTo s by_ k
def cutAtB (s by_ : ByteArray) : List ByteArray := (cutsTo s by_ s.size).1 ++ [s.extract (cutsTo s by_ s.size).2 s.size]

theorem cutsTo_le (s by_ : ByteArray) (k : Nat) : (cutsTo s by_ k).2 ≤ k ∧ (cutsTo s by_ k).1.length ≤ k := by
  induction k with
  | zero => simp [cutsTo]
  | succ k ih =>
    unfold cutsTo
    split
    · simp; omega
    · omega
theorem getD_get (s : ByteArray) (k : Nat) (h : k < s.size) : s.data.toList.getD k 0 = s[k] := by
  rw [List.getD_eq_getElem?_getD, List.getElem?_eq_getElem (by simpa using h)]
  rfl
theorem cutsTo_hit (s by_ : ByteArray) (k : Nat) (h : k < s.size) (hh : hitB by_ s[k] = true) : cutsTo s by_ (k + 1) = ((cutsTo s by_ k).1 ++ [s.extract (cutsTo s by_ k).2 k], k + 1) := by
  rw [cutsTo, getD_get s k h, if_pos hh]
theorem cutsTo_miss (s by_ : ByteArray) (k : Nat) (h : k < s.size) (hh : hitB by_ s[k] = false) : cutsTo s by_ (k + 1) = cutsTo s by_ k := by
  rw [cutsTo, getD_get s k h, if_neg (by simp [hh])]
theorem index_hit (l : List UInt8) (c : UInt8) : (0 ≤ Lib.indexByte l c) ↔ l.contains c = true := by
  induction l with
  | nil => simp [Lib.indexByte]
  | cons b l ih =>
    have hg := Lib.indexByte_ge l c
    unfold Lib.indexByte
    by_cases hbc : b = c
    · simp [hbc]
    · have hne : (b == c) = false := by simpa using hbc
      rw [hne, List.contains_cons]
      have hne' : (c == b) = false := by simpa using fun e => hbc e.symm
      rw [hne', Bool.false_or, ← ih]
      by_cases hm : Lib.indexByte l c = -1
      · simp [hm]
      · simp [hm]; omega
end Go.Proofs.YtcenmdiblbooeaaDoor

namespace Go.Proofs.YtcenmdiblbooeaaDoor
open Go.RowKit

def textM (m : MI) : ByteArray := if okM m = true then m.1 ++ ⟨#[32]⟩ ++ textD (m.2, placesC m.1) else ⟨#[]⟩
theorem textM_size (m : MI) : (textM m).size ≤ 106 := by
  unfold textM
  split
  · rename_i h
    have h1 := okM_size h
    have h2 := textD_size (m.2, placesC m.1)
    rw [ByteArray.size_append, ByteArray.size_append]
    show m.1.size + 1 + _ ≤ 106
    omega
  · decide
/-! ### a text at its first space -/
def spaceAt (s : ByteArray) : Int := Lib.indexByte s.data.toList 32
def hdM (s : ByteArray) : ByteArray := if spaceAt s < 0 then s else s.extract 0 (spaceAt s).toNat
def tlM (s : ByteArray) : ByteArray := if spaceAt s < 0 then ⟨#[]⟩ else s.extract ((spaceAt s).toNat + 1) s.size
/-- what is read -/
def readM (s : ByteArray) : MI := (hdM s, (trD (tlM s)).1.1)
def trM (s : ByteArray) : MI × Bool := if (trD (tlM s)).2 = true ∧ textM (readM s) = s then (readM s, true) else (zeroM, false)
theorem trM_bad1 {s : ByteArray} (h : (trD (tlM s)).2 = false) : trM s = (zeroM, false) := by
  unfold trM
  rw [if_neg]
  rintro ⟨h1, _⟩
  rw [h] at h1
  cases h1
theorem trM_bad2 {s : ByteArray} (h : ¬ textM (readM s) = s) : trM s = (zeroM, false) := by
  unfold trM
  rw [if_neg (fun hp => h hp.2)]
theorem trM_good {s : ByteArray} (h : (trD (tlM s)).2 = true) (h2 : textM (readM s) = s) : trM s = (readM s, true) := by
  unfold trM
  rw [if_pos ⟨h, h2⟩]
theorem textD_pos {d : DI} (h : okD d = true) : ¬ textD d = ⟨#[]⟩ := by
  obtain ⟨n, m, b⟩ := body_of h
  have hb := b.long
  intro e
  have h6 := congrArg List.length (text_list h)
  rw [e, List.length_append] at h6
  have h7 : 1 ≤ (if 0 < d.2 then (bodyD d).data.toList.take ((bodyD d).size - d.2.toNat) ++ 46 :: (bodyD d).data.toList.drop ((bodyD d).size - d.2.toNat) else (bodyD d).data.toList).length := by
    split
    · rw [List.length_append, List.length_cons]; omega
    · rw [listB_len]; omega
  have h8 : ((⟨#[]⟩ : ByteArray).data.toList).length = 0 := rfl
  rw [h8] at h6
  omega
theorem trD_none : (trD ⟨#[]⟩).2 = false := by
  cases e : (trD ⟨#[]⟩).2 with
  | false => rfl
  | true =>
    obtain ⟨h1, h2⟩ := trD_yes e
    exact absurd h2 (textD_pos h1)
theorem trM_sz (s : ByteArray) : szM (trM s).1 ≤ 1048576 := by
  unfold trM
  split
  · rename_i h
    obtain ⟨h1, h2⟩ := h
    by_cases hk : okM (readM s) = true
    · have h3 := (okM_parts hk).2.2
      have h4 := okM_size hk
      unfold szM szS szI
      dsimp only
      omega
    · exfalso
      have e : s = ⟨#[]⟩ := by rw [← h2]; unfold textM; rw [if_neg hk]
      subst e
      have h4 : tlM ⟨#[]⟩ = ⟨#[]⟩ := by decide
      rw [h4, trD_none] at h1
      cases h1
  · decide
theorem dig_noM {l : List UInt8} (h : DigL l) : ∀ c ∈ l, c ≠ 32 := fun c hc e => by
  subst e
  exact absurd (h _ hc).1 (by decide)
theorem textD_nospace {d : DI} (h : okD d = true) : ∀ c ∈ (textD d).data.toList, c ≠ 32 := by
  obtain ⟨n, m, b⟩ := body_of h
  rw [text_list h]
  intro c hc
  rcases List.mem_append.1 hc with hc | hc
  · split at hc
    · rw [List.mem_singleton.1 hc]; decide
    · exact absurd hc List.not_mem_nil
  · split at hc
    · rcases List.mem_append.1 hc with hc | hc
      · exact dig_noM b.dig c (List.mem_of_mem_take hc)
      · rcases List.mem_cons.1 hc with rfl | hc
        · decide
        · exact dig_noM b.dig c (List.mem_of_mem_drop hc)
    · exact dig_noM b.dig c hc
theorem trD_space {s : ByteArray} (h : 32 ∈ s.data.toList) : (trD s).2 = false := by
  cases e : (trD s).2 with
  | false => rfl
  | true =>
    obtain ⟨h1, h2⟩ := trD_yes e
    rw [← h2] at h
    exact absurd rfl (textD_nospace h1 32 h)
/-! ### the pieces at every space -/
theorem hit32 (c : UInt8) : hitB ⟨#[32]⟩ c = decide (c = 32) := by
  unfold hitB
  show List.contains [32] c = _
  by_cases h : c = 32
  · subst h; decide
  · rw [decide_eq_false h]
    simp [h]
theorem cuts_none (s : ByteArray) (k : Nat) (h : ∀ j, j < k → ¬ s.data.toList.getD j 0 = 32) : cutsTo s ⟨#[32]⟩ k = ([], 0) := by
  induction k with
  | zero => rfl
  | succ k ih =>
    unfold cutsTo
    rw [hit32, decide_eq_false (h k (by omega)), if_neg (by decide)]
    exact ih fun j hj => h j (by omega)
theorem cuts_some (s : ByteArray) (o : Nat) (h : ∀ j, j < o → ¬ s.data.toList.getD j 0 = 32) (ho : s.data.toList.getD o 0 = 32) (k : Nat) :
    (cutsTo s ⟨#[32]⟩ (o + 1 + k) = ([s.extract 0 o], o + 1)) ∨ (2 ≤ (cutsTo s ⟨#[32]⟩ (o + 1 + k)).1.length ∧ ∃ j, o < j ∧ j < o + 1 + k ∧ s.data.toList.getD j 0 = 32) := by
  induction k with
  | zero =>
    left
    show cutsTo s ⟨#[32]⟩ (o + 1) = _
    unfold cutsTo
    rw [hit32, decide_eq_true ho, if_pos rfl, cuts_none s o h]
    rfl
  | succ k ih =>
    show (cutsTo s ⟨#[32]⟩ (o + 1 + k + 1) = _) ∨ _
    have e : cutsTo s ⟨#[32]⟩ (o + 1 + (k + 1)) = if hitB ⟨#[32]⟩ (s.data.toList.getD (o + 1 + k) 0) then ((cutsTo s ⟨#[32]⟩ (o + 1 + k)).1 ++ [s.extract (cutsTo s ⟨#[32]⟩ (o + 1 + k)).2 (o + 1 + k)], o + 1 + k + 1) else cutsTo s ⟨#[32]⟩ (o + 1 + k) := rfl
    rw [hit32] at e
    by_cases hc : s.data.toList.getD (o + 1 + k) 0 = 32
    · rw [decide_eq_true hc, if_pos rfl] at e
      right
      rw [e]
      refine ⟨?_, o + 1 + k, by omega, by omega, hc⟩
      rcases ih with h1 | ⟨h1, _⟩
      · rw [h1]; simp
      · simp; omega
    · rw [decide_eq_false hc, if_neg (by decide)] at e
      rcases ih with h1 | ⟨h1, j, h2, h3, h4⟩
      · left; exact e.trans h1
      · right
        rw [e]
        exact ⟨h1, j, h2, by omega, h4⟩
theorem space_lt {s : ByteArray} {o : Nat} (h : spaceAt s = o) : o < s.size := by
  obtain ⟨h1, _⟩ := Lib.indexByte_some h
  have := (List.getElem?_eq_some_iff.1 h1).1
  rw [listB_len] at this
  exact this
theorem space_cases (s : ByteArray) : spaceAt s = -1 ∨ ∃ o : Nat, spaceAt s = o ∧ o < s.size := by
  have h := Lib.indexByte_ge s.data.toList 32
  by_cases e : spaceAt s = -1
  · exact .inl e
  · have ho : spaceAt s = ((spaceAt s).toNat : Nat) := by unfold spaceAt at *; omega
    exact .inr ⟨_, ho, space_lt ho⟩
theorem space_no (l : List UInt8) (h : Lib.indexByte l 32 = -1) : ∀ c ∈ l, c ≠ 32 := by
  intro c hc e
  subst e
  have := (index_hit l 32).2 (List.contains_iff_mem.2 hc)
  omega
/-- either the text is two pieces, or it is not read -/
theorem cut_two (s : ByteArray) : (cutAtB s ⟨#[32]⟩ = [hdM s, tlM s] ∧ ¬ s = ⟨#[]⟩) ∨ (¬ (cutAtB s ⟨#[32]⟩).length = 2 ∧ trM s = (zeroM, false)) := by
  rcases space_cases s with h | ⟨o, h, ho⟩
  · right
    have hn := space_no _ h
    have e := cuts_none s s.size (fun j hj he => hn _ (getD_mem (l := s.data.toList) hj) he)
    refine ⟨?_, trM_bad1 ?_⟩
    · unfold cutAtB
      rw [e]
      simp
    · rw [show tlM s = ⟨#[]⟩ by unfold tlM; rw [if_pos (by omega)]]
      exact trD_none
  · obtain ⟨h1, h2⟩ := Lib.indexByte_some h
    have hb : ∀ j, j < o → ¬ s.data.toList.getD j 0 = 32 := fun j hj he => h2 j hj (by
      rw [← he, List.getD_eq_getElem?_getD, List.getElem?_eq_getElem (by rw [listB_len]; omega)]
      rfl)
    have hc := cuts_some s o hb (getD_of h1) (s.size - (o + 1))
    rw [show o + 1 + (s.size - (o + 1)) = s.size by omega] at hc
    have eh : hdM s = s.extract 0 o := by unfold hdM; rw [if_neg (by omega), h, Int.toNat_natCast]
    have et : tlM s = s.extract (o + 1) s.size := by unfold tlM; rw [if_neg (by omega), h, Int.toNat_natCast]
    rcases hc with hc | ⟨hc, j, j1, j2, j3⟩
    · left
      refine ⟨?_, fun e => by subst e; exact absurd ho (Nat.not_lt_zero _)⟩
      unfold cutAtB
      rw [hc, eh, et]
      rfl
    · right
      refine ⟨?_, trM_bad1 (trD_space ?_)⟩
      · unfold cutAtB
        rw [List.length_append]
        simp
        omega
      · rw [et, extract_listD, List.take_of_length_le (Nat.le_of_eq (listB_len s))]
        refine List.mem_of_getElem? (i := j - (o + 1)) ?_
        rw [List.getElem?_drop, show o + 1 + (j - (o + 1)) = j by omega, List.getElem?_eq_getElem (by rw [listB_len]; omega)]
        rw [List.getD_eq_getElem?_getD, List.getElem?_eq_getElem (by rw [listB_len]; omega)] at j3
        exact congrArg some j3
/-- spec's reading of two pieces -/
theorem read_no {s : ByteArray} (hs : ¬ s = ⟨#[]⟩) (h : (makeM (hdM s) (trD (tlM s)).1.1).2 = false) : trM s = (zeroM, false) := by
  refine trM_bad2 fun e => hs ?_
  rw [← e]
  unfold textM
  rw [if_neg]
  intro hk
  unfold makeM at h
  rw [if_pos (show okM (hdM s, (trD (tlM s)).1.1) = true from hk)] at h
  cases h
theorem read_yes {s : ByteArray} (h : (makeM (hdM s) (trD (tlM s)).1.1).2 = true) : makeM (hdM s) (trD (tlM s)).1.1 = (readM s, true) := by
  unfold makeM at h ⊢
  split at h
  · rw [if_pos (by assumption)]; rfl
  · cases h
end Go.Proofs.YtcenmdiblbooeaaDoor

namespace Go.Proofs.YtcenmdiblbooeaaDoor
open Go.RowKit

theorem join_two (A B : ByteArray) : joinB ⟨#[32]⟩ [A, B] = A ++ ⟨#[32]⟩ ++ B := by
  apply ByteArray.ext
  simp [joinB, joinTo]
theorem two_smallM {A B : ByteArray} (h1 : A.size ≤ 1048576) (h2 : B.size ≤ 1048576) : ∀ s ∈ [A, B], s.size ≤ 1048576 := fun s hs => by
  simp at hs
  rcases hs with rfl | rfl
  · exact h1
  · exact h2
theorem join2_at (A B T0 : ByteArray) (g : Nat) (W : World) (T : TypeId) (h1 : A.size ≤ 1048576) (h2 : B.size ≤ 1048576) (hT : A ++ ⟨#[32]⟩ ++ B = T0) (hb : BoxAt g #[.string A, .string B] T W) :
    Calls Tryd.prog 64 #[.slice (some ⟨g, 0, none⟩) 2 2, .string ⟨#[32]⟩] W (PostT T0 W) := by
  have h := implJoin_any (.slice (some ⟨g, 0, none⟩) 2 2) ⟨#[32]⟩ [A, B] 0 _ W (Nat.le_refl _) (by simp) (by decide) (two_smallM h1 h2) (box_rowD hb)
  rw [join_two, hT] at h
  exact h
theorem postT_isM {a b : ByteArray} (h : a = b) {w w' : World} {e : Ending} (k : PostT a w e w') : PostT b w e w' := h ▸ k
theorem eq_boxed {cs ds : Array Value} (e : ds = cs) (w : World) : At [] ((fun (v : Value) (_ : World) => v = .agg cs) (.agg ds)) w := ⟨by rw [e], fun _ h => absurd h List.not_mem_nil, fun _ _ => by rw [e]⟩
set_option maxHeartbeats 4000000 in
set_option maxRecDepth 100000 in
theorem implMoneyText_any (vm : Value) (m : MI) (w : World) (hl : m.2.2.length ≤ 1048576) (hm : OwnM vm m w) (ht : CurTab w) (hd : Tab w) :
    Calls Tryd.prog 26 #[vm] w (PostT (textM m) w) := by
  have Hm := Lib.hid hm
  obtain ⟨Am, cm, rfl⟩ := ownM_form hm
  have OMm := Lib.hid (show ∀ W, Below w.heap.size w W → OwnM (.agg #[.string m.1, .bool m.2.1, .slice Am m.2.2.length cm]) m W from fun W hb => OwnM.below Hm.out hb)
  have OIm := Lib.hid (show ∀ W, Below w.heap.size w W → OwnI (.slice Am m.2.2.length cm) m.2.2 W from fun W hb => ownM_open (OMm.out W hb))
  have OSm := Lib.hid (show ∀ W, Below w.heap.size w W → OwnS (.agg #[.bool m.2.1, .slice Am m.2.2.length cm]) m.2 W from fun W hb => OwnS.mk (OIm.out W hb))
  clear hm
  have HT := Lib.hid ht
  clear ht
  have HD := Lib.hid hd
  clear hd
  have bb0 : Below w.heap.size w (w.alloc (.cells #[.string m.1, .bool m.2.1, .slice Am m.2.2.length cm] 32)) := below_al (Below.refl _ _) _
  have km := (box_new w #[.string m.1, .bool m.2.1, .slice Am m.2.2.length cm] 32)
  go_enter Tryd.func26, Tryd.ntmps26
  have km_c0 := km.here.cell 0 _ rfl
  have km_c1 := km.here.cell 1 _ rfl
  have km_c2 := km.here.cell 2 _ rfl
  go_wp2_with fail
  clear km_c0 km_c1 km_c2
  refine (implMoneyOk_any _ m _ hl (OMm.out _ bb0) (HT.out.below bb0)).mono ?_
  rintro e w1 ⟨rfl, b1⟩
  have bb1 := Below.next bb0 b1
  replace km := km.below b1
  by_cases ok : okM m = true
  · rw [ok]
    obtain ⟨T, hT⟩ : ∃ T, textD (m.2, placesC m.1) = T := ⟨_, rfl⟩
    have ET := Lib.hid hT
    have HV := Lib.hid (show m.1 ++ ⟨#[32]⟩ ++ T = textM m by unfold textM; rw [if_pos ok, hT])
    have hs1 : m.1.size ≤ 1048576 := by have := okM_size ok; omega
    have hs2 : T.size ≤ 1048576 := by rw [← hT]; have := textD_size (m.2, placesC m.1); omega
    clear ok hT
    have km_c0 := km.here.cell 0 _ rfl
    have km_c1 := km.here.cell 1 _ rfl
    have km_c2 := km.here.cell 2 _ rfl
    go_upto_region 3 with fail
    go_cut [3] (fun s wx => NewLocV 78 (fun (v : Value) (_ : World) => v = .agg #[.bool m.2.1, .slice Am m.2.2.length cm, .int .i64 (placesC m.1)]) w1 s wx)
    case first =>
      have hlk := km.lt w.heap.size (by simp)
      have hne1 : ¬ w1.heap.size = w.heap.size := by omega
      have hne2 : ¬ w.heap.size = w1.heap.size := by omega
      have BB := Lib.hid bb1
      have HKM := Lib.hid (show ∀ W, Below w1.heap.size w1 W → At [w.heap.size] (BoxAt w.heap.size #[.string m.1, .bool m.2.1, .slice Am m.2.2.length cm] 32) W from fun W hb => km.below hb)
      have HK2 := HKM
      go_region_with (go_at_call 63; (first
        | (refine (implCurPlaces_any m.1 _ (HT.out.below (below_al (Below.drew1 BB.out) (.cells #[.bool false, .slice none 0 0, .int .i64 0] 78)))).mono ?_; rintro e wc ⟨rfl, bc⟩; have HBC := Lib.hid (Below.next (below_al (Below.drew1 (Below.refl _ _)) _) bc : Below w1.heap.size w1 wc); have hbxf : At [w1.heap.size] (BoxAt w1.heap.size #[.bool false, .slice none 0 0, .int .i64 0] 78) wc := At.below (box_new w1.drew #[.bool false, .slice none 0 0, .int .i64 0] 78) bc; have HGB := Lib.hid (show w1.heap.size < (w1.drew.alloc (.cells #[.bool false, .slice none 0 0, .int .i64 0] 78)).heap.size from (box_new w1.drew #[.bool false, .slice none 0 0, .int .i64 0] 78).lt _ (List.mem_singleton.2 rfl)); have cz0 := hbxf.here.cell 0 _ rfl; have cz1 := hbxf.here.cell 1 _ rfl; have cz2 := hbxf.here.cell 2 _ rfl; have fz0 := Lib.frozen_of_heap hbxf.here 0; have fz1 := Lib.frozen_of_heap hbxf.here 1; have fz2 := Lib.frozen_of_heap hbxf.here 2; clear bc; (have kmc := HKM.out _ HBC.out; have dm0 := kmc.here.cell 0 _ rfl; have dm1 := kmc.here.cell 1 _ rfl; have dm2 := kmc.here.cell 2 _ rfl; have hlc := kmc.lt w.heap.size (by simp); have hnc2 : ¬ w.heap.size = wc.heap.size := Nat.ne_of_lt hlc; have hnc1 : ¬ wc.heap.size = w.heap.size := fun e => Nat.ne_of_lt hlc e.symm; clear kmc))
        | (refine (implCurPlaces_any m.1 _ (HT.out.below (Below.drew1 BB.out))).mono ?_; rintro e wc ⟨rfl, bc⟩; have HBC := Lib.hid (Below.next (Below.drew1 (Below.refl _ _)) bc : Below w1.heap.size w1 wc); clear bc; (have kmc := HKM.out _ HBC.out; have dm0 := kmc.here.cell 0 _ rfl; have dm1 := kmc.here.cell 1 _ rfl; have dm2 := kmc.here.cell 2 _ rfl; have hlc := kmc.lt w.heap.size (by simp); have hnc2 : ¬ w.heap.size = wc.heap.size := Nat.ne_of_lt hlc; have hnc1 : ¬ wc.heap.size = w.heap.size := fun e => Nat.ne_of_lt hlc e.symm; clear kmc))))
      all_goals (go_wp2_with fail; go_meet; first | exact newLocV_last (W1 := w1) (eq_boxed rfl _) (fun _ hi => absurd hi List.not_mem_nil) (Nat.le_refl _) HBC.out | exact newLocV_early3 hbxf.here (eq_boxed rfl _) (fun _ hi => absurd hi List.not_mem_nil) (Nat.le_refl _) HGB.out HBC.out)
    rename World => w2
    clear km_c0 km_c1 km_c2
    obtain ⟨gn, csn, Sn, rfl, kn, on, nn, ln, b2⟩ := hcut
    have en := on.here
    injection en with en
    subst en
    clear on nn ln
    have bb2 := Below.next bb1 b2
    replace km := km.below b2
    have km_c0 := km.here.cell 0 _ rfl
    have km_c1 := km.here.cell 1 _ rfl
    have km_c2 := km.here.cell 2 _ rfl
    have kn_c0 := kn.here.cell 0 _ rfl
    have kn_c1 := kn.here.cell 1 _ rfl
    have kn_c2 := kn.here.cell 2 _ rfl
    go_wp2_with fail
    have HC0 := Lib.hid (show Chg [] w2 w2.drew from (Chg.refl _ _).drew1)
    have HCr := Lib.hid (show Chg [] w2 w2 from Chg.refl _ _)
    have KL := Lib.hid (show ∀ W, Chg [] w2 W → W.cell? ⟨w.heap.size, 0, none⟩ = some (.string m.1) ∧ W.cell? ⟨w.heap.size, 1, none⟩ = some (.bool m.2.1) ∧ W.cell? ⟨w.heap.size, 2, none⟩ = some (.slice Am m.2.2.length cm) ∧ W.cell? ⟨gn, 0, none⟩ = some (.bool m.2.1) ∧ W.cell? ⟨gn, 1, none⟩ = some (.slice Am m.2.2.length cm) ∧ W.cell? ⟨gn, 2, none⟩ = some (.int .i64 (placesC m.1)) ∧ Hid (Chg [] w2 W) from fun W hc => ⟨(km.chg hc (fun i hi hm => by simp at hm)).here.cell 0 _ rfl, (km.chg hc (fun i hi hm => by simp at hm)).here.cell 1 _ rfl, (km.chg hc (fun i hi hm => by simp at hm)).here.cell 2 _ rfl, (kn.chg hc (fun i hi hm => by simp at hm)).here.cell 0 _ rfl, (kn.chg hc (fun i hi hm => by simp at hm)).here.cell 1 _ rfl, (kn.chg hc (fun i hi hm => by simp at hm)).here.cell 2 _ rfl, Lib.hid hc⟩)
    have BBF := Lib.hid (show ∀ W, Chg [] w2 W → Below w.heap.size w W from fun W hc => below_chg bb2 hc bb2.size (fun i hi => by simp at hi))
    clear km_c0 km_c1 km_c2 kn_c0 kn_c1 kn_c2
    go_region_held3 (fun W => W.cell? ⟨w.heap.size, 0, none⟩ = some (.string m.1) ∧ W.cell? ⟨w.heap.size, 1, none⟩ = some (.bool m.2.1) ∧ W.cell? ⟨w.heap.size, 2, none⟩ = some (.slice Am m.2.2.length cm) ∧ W.cell? ⟨gn, 0, none⟩ = some (.bool m.2.1) ∧ W.cell? ⟨gn, 1, none⟩ = some (.slice Am m.2.2.length cm) ∧ W.cell? ⟨gn, 2, none⟩ = some (.int .i64 (placesC m.1)) ∧ Hid (Chg [] w2 W))
      ((refine KL.out _ ?_; (first | exact HC4.out | exact HC3.out | exact HCr.out | exact HC0.out | exact HC4.out.drew1 | exact HC3.out.drew1 | exact HCr.out.drew1 | exact HC0.out.drew1 | exact HC4.out.trans (Chg.of_below (below_al (Below.refl _ _) _)) | exact HC3.out.trans (Chg.of_below (below_al (Below.refl _ _) _)) | exact HCr.out.trans (Chg.of_below (below_al (Below.refl _ _) _)) | exact HC0.out.trans (Chg.of_below (below_al (Below.refl _ _) _)) | fail)))
      (first
        | (go_at_call 65; (have hBB := (‹_ ∧ _ ∧ _ ∧ _ ∧ _ ∧ _ ∧ Hid (Chg [] w2 _)›).2.2.2.2.2.2); (with_reducible refine ((implDecText_any _ (m.2, placesC m.1) _ hl (OwnD.mk (q := (m.2, placesC m.1)) (OIm.out _ (BBF.out _ hBB.out))) (HD.out.below (BBF.out _ hBB.out))).mono fun _ _ h => postT_isM ET.out h).mono ?_); rintro e w3 ⟨rfl, b3⟩; have HC3 := Lib.hid (hBB.out.trans (Chg.of_below b3)); have HBZ3 := Lib.hid hBB.out.size; clear hBB)
        | (go_at_call 64; (have hBB := (‹_ ∧ _ ∧ _ ∧ _ ∧ _ ∧ _ ∧ Hid (Chg [] w2 _)›).2.2.2.2.2.2); (with_reducible refine (join2_at m.1 T (textM m) _ _ _ hs1 hs2 HV.out (by first | exact (box_new _ _ 9).here | exact box_drewD (box_new _ _ 9).here)).mono ?_); rintro e w4 ⟨rfl, b4⟩; have HC4 := Lib.hid (hBB.out.trans (Chg.of_below b4)); have HBZ4 := Lib.hid hBB.out.size; clear hBB))
    all_goals
      have bb4 := BBF.out _ HC4.out
      replace km := km.chg HC4.out (fun i hi hm => by simp at hm)
      replace kn := kn.chg HC4.out (fun i hi hm => by simp at hm)
      go_wp2
      go_ret
      exact ⟨rfl, bb4⟩
  · have ok' : okM m = false := by simpa using ok
    have HV := Lib.hid (show textM m = ⟨#[]⟩ by unfold textM; rw [if_neg ok])
    rw [ok']
    clear ok ok'
    go_wp2
    go_ret
    exact ⟨ret_str HV.out.symm, bb1⟩
end Go.Proofs.YtcenmdiblbooeaaDoor

namespace Go.Proofs.YtcenmdiblbooeaaDoor
open Go.RowKit

theorem specPadT (s : ByteArray) (n : Int) (w : World) (T : ByteArray) (hs : s.size ≤ 1048576) (hn : n ≤ 2000) (hT : padB s n = T) : Calls Tryd.prog 93 #[.string s, .int .i64 n] w (PostT T w) := by
  subst hT
  refine (specPad_any s n w hs hn).mono ?_
  rintro e w' ⟨rfl, rfl⟩
  exact ⟨rfl, Below.refl _ _⟩
set_option maxHeartbeats 4000000 in
set_option maxRecDepth 100000 in
theorem specDecText_any (va : Value) (a : DI) (w : World) (hla : a.1.2.length ≤ 1048576) (ha : OwnD va a w) :
    Calls Tryd.prog 61 #[va] w (PostT (textD a) w) := by
  have Ha := Lib.hid ha
  obtain ⟨Aa, ca, rfl⟩ := ownD_form ha
  have ODa := Lib.hid (show ∀ W, Below w.heap.size w W → OwnD (.agg #[.bool a.1.1, .slice Aa a.1.2.length ca, .int .i64 a.2]) a W from fun W hb => OwnD.below Ha.out hb)
  have OIa := Lib.hid (show ∀ W, Below w.heap.size w W → OwnI (.slice Aa a.1.2.length ca) a.1.2 W from fun W hb => ownD_open (ODa.out W hb))
  have OSa := Lib.hid (show ∀ W, Below w.heap.size w W → OwnS (.agg #[.bool a.1.1, .slice Aa a.1.2.length ca]) a.1 W from fun W hb => OwnS.mk (OIa.out W hb))
  clear ha
  have bb0 : Below w.heap.size w (w.alloc (.cells #[.bool a.1.1, .slice Aa a.1.2.length ca, .int .i64 a.2] 78)) := below_al (Below.refl _ _) _
  have ka := (box_new w #[.bool a.1.1, .slice Aa a.1.2.length ca, .int .i64 a.2] 78)
  obtain ⟨T, hT⟩ : ∃ T, textD a = T := ⟨_, rfl⟩
  have ET := Lib.hid hT
  rw [hT]
  clear hT
  go_enter Tryd.func61, Tryd.ntmps61
  have ka_c0 := ka.here.cell 0 _ rfl
  have ka_c1 := ka.here.cell 1 _ rfl
  have ka_c2 := ka.here.cell 2 _ rfl
  go_wp2_with fail
  clear ka_c0 ka_c1 ka_c2
  refine (specDecOk_any _ a _ hla (ODa.out _ bb0)).mono ?_
  rintro e w1 ⟨rfl, b1⟩
  have bb1 := Below.next bb0 b1
  replace ka := ka.below b1
  by_cases ok : okD a = true
  · rw [ok]
    have HO := Lib.hid ok
    have qa := partsD ok
    have ta := qa.lo
    have ta2 := qa.hi
    obtain ⟨K, hK, hKl, hB⟩ := body_K ok
    have HV := Lib.hid (show T = if a.1.1 = true then (⟨#[45]⟩ : ByteArray) ++ pointB (bodyD a) a.2 else pointB (bodyD a) a.2 by rw [← ET.out]; unfold textD; rw [if_pos HO.out])
    have hP0 : ¬ 0 < a.2 → pointB (bodyD a) a.2 = bodyD a := fun h => by unfold pointB; rw [if_neg h]
    have hP1 : 0 < a.2 → pointB (bodyD a) a.2 = (bodyD a).extract 0 K ++ ⟨#[46]⟩ ++ (bodyD a).extract K (bodyD a).size := fun h => by unfold pointB; rw [if_pos h, show (bodyD a).size - a.2.toNat = K by omega]
    obtain ⟨n1, hn1⟩ : ∃ n, IntKind.i64.wrap (a.2 + 1) = n := ⟨_, rfl⟩
    have hn2 : n1 = a.2 + 1 := by rw [← hn1]; exact IntWalk.i64_in _ (by omega)
    obtain ⟨D, hD⟩ : ∃ D, natTextB a.1.2 = D := ⟨_, rfl⟩
    have hDs : D.size ≤ 1048576 := by rw [← hD]; have := natTextB_size a.1.2; omega
    have EB := Lib.hid (show padB D n1 = bodyD a by rw [← hD, hn2]; rfl)
    have hn3 : n1 ≤ 2000 := by omega
    obtain ⟨Q, hQ⟩ : ∃ Q, pointB (bodyD a) a.2 = Q := ⟨_, rfl⟩
    rw [hQ] at HV hP0 hP1
    generalize bodyD a = B at *
    have ED := Lib.hid hD
    have hKw : IntKind.i64.wrap ((B.size : Int) - a.2) = (K : Int) := by rw [hK]; exact IntWalk.i64_in _ (by omega)
    have c1 : (0 : Int) ≤ (K : Int) := by omega
    have c2 : (K : Int) ≤ (B.size : Int) := by omega
    have HP0 := Lib.hid hP0
    have HP1 := Lib.hid hP1
    have hQs : Q.size ≤ 200 := by
      by_cases h : 0 < a.2
      · rw [hP1 h, ByteArray.size_append, ByteArray.size_append, ByteArray.size_extract, ByteArray.size_extract]; have e : (⟨#[46]⟩ : ByteArray).size = 1 := rfl; omega
      · rw [hP0 h]; omega
    clear hD hn2 hK ok qa hP0 hP1 hQ
    have ka_c0 := ka.here.cell 0 _ rfl
    have ka_c1 := ka.here.cell 1 _ rfl
    have ka_c2 := ka.here.cell 2 _ rfl
    go_wp2_with fail
    have HC0 := Lib.hid (show Chg [] w1 w1.drew from (Chg.refl _ _).drew1)
    have HCr := Lib.hid (show Chg [] w1 w1 from Chg.refl _ _)
    have KL := Lib.hid (show ∀ W, Chg [] w1 W → W.cell? ⟨w.heap.size, 0, none⟩ = some (.bool a.1.1) ∧ W.cell? ⟨w.heap.size, 1, none⟩ = some (.slice Aa a.1.2.length ca) ∧ W.cell? ⟨w.heap.size, 2, none⟩ = some (.int .i64 a.2) ∧ Hid (Chg [] w1 W) from fun W hc => ⟨(ka.chg hc (fun i hi hm => by simp at hm)).here.cell 0 _ rfl, (ka.chg hc (fun i hi hm => by simp at hm)).here.cell 1 _ rfl, (ka.chg hc (fun i hi hm => by simp at hm)).here.cell 2 _ rfl, Lib.hid hc⟩)
    have BBF := Lib.hid (show ∀ W, Chg [] w1 W → Below w.heap.size w W from fun W hc => below_chg bb1 hc bb1.size (fun i hi => by simp at hi))
    clear ka_c0 ka_c1 ka_c2
    go_region_held3 (fun W => W.cell? ⟨w.heap.size, 0, none⟩ = some (.bool a.1.1) ∧ W.cell? ⟨w.heap.size, 1, none⟩ = some (.slice Aa a.1.2.length ca) ∧ W.cell? ⟨w.heap.size, 2, none⟩ = some (.int .i64 a.2) ∧ Hid (Chg [] w1 W))
      ((refine KL.out _ ?_; (first | exact HC3.out | exact HC2.out | exact HCr.out | exact HC0.out | exact HC3.out.drew1 | exact HC2.out.drew1 | exact HCr.out.drew1 | exact HC0.out.drew1 | exact HC3.out.trans (Chg.of_below (below_al (Below.refl _ _) _)) | exact HC2.out.trans (Chg.of_below (below_al (Below.refl _ _) _)) | exact HCr.out.trans (Chg.of_below (below_al (Below.refl _ _) _)) | exact HC0.out.trans (Chg.of_below (below_al (Below.refl _ _) _)) | fail)))
      (first
        | (go_at_call 94; (have hBB := (‹_ ∧ _ ∧ _ ∧ Hid (Chg [] w1 _)›).2.2.2); (with_reducible refine ((specNatText_any _ a.1.2 0 _ _ hla (Nat.le_refl _) (OIa.out _ (BBF.out _ hBB.out)).row).mono fun _ _ h => postT_eqD ED.out h).mono ?_); rintro e w2 ⟨rfl, b2⟩; have HC2 := Lib.hid (hBB.out.trans (Chg.of_below b2)); have HBZ2 := Lib.hid hBB.out.size; clear hBB)
        | (go_at_call 93; (have hBB := (‹_ ∧ _ ∧ _ ∧ Hid (Chg [] w1 _)›).2.2.2); (with_reducible refine (specPadT D n1 _ B hDs hn3 EB.out).mono ?_); rintro e w3 ⟨rfl, b3⟩; have HC3 := Lib.hid (hBB.out.trans (Chg.of_below b3)); have HBZ3 := Lib.hid hBB.out.size; clear hBB))
    all_goals
      have bb3 := BBF.out _ HC3.out
      replace ka := ka.chg HC3.out (fun i hi hm => by simp at hm)
      (try (rename _ ∧ _ ∧ _ ∧ Hid (Chg _ _ _) => hgone; clear hgone))
      have hq1 : ¬ (9223372036854775807 < (1 : Int) + Q.size) := by omega
      by_cases h0 : 0 < a.2
      · have EQ := Lib.hid (HP1.out (by omega))
        have hs1 : (B.extract 0 K).size = K := by rw [ByteArray.size_extract]; omega
        have hs2 : (B.extract K B.size).size = B.size - K := by rw [ByteArray.size_extract]; omega
        cases hneg : a.1.1 with
        | true =>
          have HVV := Lib.hid (show T = (⟨#[45]⟩ : ByteArray) ++ (B.extract 0 K ++ ⟨#[46]⟩ ++ B.extract K B.size) by have h := HV.out; rw [hneg, EQ.out] at h; exact h)
          rw [hneg] at ka
          clear hneg
          have ka_c0 := ka.here.cell 0 _ rfl
          have ka_c1 := ka.here.cell 1 _ rfl
          have ka_c2 := ka.here.cell 2 _ rfl
          go_wp2
          go_quiet (fail)
          go_wp2
          go_ret
          exact ⟨ret_strD HVV.out.symm, below_drewN bb3 _⟩
        | false =>
          have HVV := Lib.hid (show T = (B.extract 0 K ++ ⟨#[46]⟩ ++ B.extract K B.size) by have h := HV.out; rw [hneg, EQ.out] at h; exact h)
          rw [hneg] at ka
          clear hneg
          have ka_c0 := ka.here.cell 0 _ rfl
          have ka_c1 := ka.here.cell 1 _ rfl
          have ka_c2 := ka.here.cell 2 _ rfl
          go_wp2
          go_quiet (fail)
          go_wp2
          go_ret
          exact ⟨ret_strD HVV.out.symm, below_drewN bb3 _⟩
      · have EQ := Lib.hid (HP0.out (by omega))
        cases hneg : a.1.1 with
        | true =>
          have HVV := Lib.hid (show T = (⟨#[45]⟩ : ByteArray) ++ B by have h := HV.out; rw [hneg, EQ.out] at h; exact h)
          rw [hneg] at ka
          clear hneg
          have ka_c0 := ka.here.cell 0 _ rfl
          have ka_c1 := ka.here.cell 1 _ rfl
          have ka_c2 := ka.here.cell 2 _ rfl
          go_wp2
          go_ret
          exact ⟨ret_strD HVV.out.symm, bb3⟩
        | false =>
          have HVV := Lib.hid (show T = B by have h := HV.out; rw [hneg, EQ.out] at h; exact h)
          rw [hneg] at ka
          clear hneg
          have ka_c0 := ka.here.cell 0 _ rfl
          have ka_c1 := ka.here.cell 1 _ rfl
          have ka_c2 := ka.here.cell 2 _ rfl
          go_wp2
          go_ret
          exact ⟨ret_strD HVV.out.symm, bb3⟩
  · have ok' : okD a = false := by simpa using ok
    have HV := Lib.hid (show (⟨#[]⟩ : ByteArray) = T by rw [← ET.out]; unfold textD; rw [if_neg ok])
    rw [ok']
    clear ok ok' ka
    go_wp2
    go_ret
    exact ⟨ret_strD HV.out, bb1⟩
end Go.Proofs.YtcenmdiblbooeaaDoor

namespace Go.Proofs.YtcenmdiblbooeaaDoor
open Go.RowKit

set_option maxHeartbeats 4000000 in
set_option maxRecDepth 100000 in
theorem specMoneyText_any (vm : Value) (m : MI) (w : World) (hl : m.2.2.length ≤ 1048576) (hm : OwnM vm m w) :
    Calls Tryd.prog 25 #[vm] w (PostT (textM m) w) := by
  have Hm := Lib.hid hm
  obtain ⟨Am, cm, rfl⟩ := ownM_form hm
  have OMm := Lib.hid (show ∀ W, Below w.heap.size w W → OwnM (.agg #[.string m.1, .bool m.2.1, .slice Am m.2.2.length cm]) m W from fun W hb => OwnM.below Hm.out hb)
  have OIm := Lib.hid (show ∀ W, Below w.heap.size w W → OwnI (.slice Am m.2.2.length cm) m.2.2 W from fun W hb => ownM_open (OMm.out W hb))
  have OSm := Lib.hid (show ∀ W, Below w.heap.size w W → OwnS (.agg #[.bool m.2.1, .slice Am m.2.2.length cm]) m.2 W from fun W hb => OwnS.mk (OIm.out W hb))
  clear hm
  have bb0 : Below w.heap.size w (w.alloc (.cells #[.string m.1, .bool m.2.1, .slice Am m.2.2.length cm] 32)) := below_al (Below.refl _ _) _
  have km := (box_new w #[.string m.1, .bool m.2.1, .slice Am m.2.2.length cm] 32)
  go_enter Tryd.func25, Tryd.ntmps25
  have km_c0 := km.here.cell 0 _ rfl
  have km_c1 := km.here.cell 1 _ rfl
  have km_c2 := km.here.cell 2 _ rfl
  go_wp2_with fail
  clear km_c0 km_c1 km_c2
  refine (specMoneyOk_any _ m _ hl (OMm.out _ bb0)).mono ?_
  rintro e w1 ⟨rfl, b1⟩
  have bb1 := Below.next bb0 b1
  replace km := km.below b1
  by_cases ok : okM m = true
  · rw [ok]
    have HV := Lib.hid (show textM m = m.1 ++ ⟨#[32]⟩ ++ textD (m.2, placesC m.1) by unfold textM; rw [if_pos ok])
    have HOK := Lib.hid ok
    clear ok
    have hs1 := (okM_size HOK.out)
    have hs2 := textD_size (m.2, placesC m.1)
    have hs3 : m.1.size + 1 ≤ 9223372036854775807 := by omega
    have hs4 : m.1.size + 1 + (textD (m.2, placesC m.1)).size ≤ 9223372036854775807 := by omega
    have hs5 : (m.1 ++ (⟨#[32]⟩ : ByteArray)).size + (textD (m.2, placesC m.1)).size ≤ 9223372036854775807 := by rw [ByteArray.size_append]; exact hs4
    have hs6 : ¬ 9223372036854775807 < m.1.size + 1 := by omega
    have hs7 : ¬ 9223372036854775807 < m.1.size + 1 + (textD (m.2, placesC m.1)).size := by omega
    have hs8 : ¬ 9223372036854775807 ≤ m.1.size := by omega
    have hs9 : m.1.size < 9223372036854775807 := by omega
    clear HOK
    have km_c0 := km.here.cell 0 _ rfl
    have km_c1 := km.here.cell 1 _ rfl
    have km_c2 := km.here.cell 2 _ rfl
    go_wp2_with fail
    have HC0 := Lib.hid (show Chg [] w1 w1.drew from (Chg.refl _ _).drew1)
    have HCr := Lib.hid (show Chg [] w1 w1 from Chg.refl _ _)
    have KL := Lib.hid (show ∀ W, Chg [] w1 W → W.cell? ⟨w.heap.size, 0, none⟩ = some (.string m.1) ∧ W.cell? ⟨w.heap.size, 1, none⟩ = some (.bool m.2.1) ∧ W.cell? ⟨w.heap.size, 2, none⟩ = some (.slice Am m.2.2.length cm) ∧ Hid (Chg [] w1 W) from fun W hc => ⟨(km.chg hc (fun i hi hm => by simp at hm)).here.cell 0 _ rfl, (km.chg hc (fun i hi hm => by simp at hm)).here.cell 1 _ rfl, (km.chg hc (fun i hi hm => by simp at hm)).here.cell 2 _ rfl, Lib.hid hc⟩)
    have BBF := Lib.hid (show ∀ W, Chg [] w1 W → Below w.heap.size w W from fun W hc => below_chg bb1 hc bb1.size (fun i hi => by simp at hi))
    clear km_c0 km_c1 km_c2
    go_region_held3 (fun W => W.cell? ⟨w.heap.size, 0, none⟩ = some (.string m.1) ∧ W.cell? ⟨w.heap.size, 1, none⟩ = some (.bool m.2.1) ∧ W.cell? ⟨w.heap.size, 2, none⟩ = some (.slice Am m.2.2.length cm) ∧ Hid (Chg [] w1 W))
      ((refine KL.out _ ?_; (first | exact HC3.out | exact HC2.out | exact HCr.out | exact HC0.out | exact HC3.out.drew1 | exact HC2.out.drew1 | exact HCr.out.drew1 | exact HC0.out.drew1 | exact HC3.out.trans (Chg.of_below (below_al (Below.refl _ _) _)) | exact HC2.out.trans (Chg.of_below (below_al (Below.refl _ _) _)) | exact HCr.out.trans (Chg.of_below (below_al (Below.refl _ _) _)) | exact HC0.out.trans (Chg.of_below (below_al (Below.refl _ _) _)) | fail)))
      (first
        | (go_at_call 62; (have hBB := (‹_ ∧ _ ∧ _ ∧ Hid (Chg [] w1 _)›).2.2.2); (with_reducible refine (specCurPlaces_any m.1 _).mono ?_); rintro e w2 ⟨rfl, b2⟩; have HC2 := Lib.hid (hBB.out.trans (Chg.of_below b2)); have HBZ2 := Lib.hid hBB.out.size; clear hBB)
        | (go_at_call 61; (have hBB := (‹_ ∧ _ ∧ _ ∧ Hid (Chg [] w1 _)›).2.2.2); (with_reducible refine (specDecText_any _ (m.2, placesC m.1) _ hl (OwnD.mk (q := (m.2, placesC m.1)) (OIm.out _ (BBF.out _ hBB.out)))).mono ?_); rintro e w3 ⟨rfl, b3⟩; have HC3 := Lib.hid (hBB.out.trans (Chg.of_below b3)); have HBZ3 := Lib.hid hBB.out.size; clear hBB))
    all_goals
      have bb3 := BBF.out _ HC3.out
      replace km := km.chg HC3.out (fun i hi hm => by simp at hm)
      go_wp2
      go_ret
      exact ⟨ret_str HV.out.symm, bb3⟩
  · have ok' : okM m = false := by simpa using ok
    have HV := Lib.hid (show textM m = ⟨#[]⟩ by unfold textM; rw [if_neg ok])
    rw [ok']
    clear ok ok'
    go_wp2
    go_ret
    exact ⟨ret_str HV.out.symm, bb1⟩
end Go.Proofs.YtcenmdiblbooeaaDoor

namespace Go.Proofs.YtcenmdiblbooeaaDoor
open Go.RowKit

set_option maxHeartbeats 4000000 in
set_option maxRecDepth 100000 in
theorem lawMoneyAdd_walk (va : Value) (vb : Value) (a : MI) (b : MI) (R0 : MI) (R1 : Bool) (w : World)
    (hS : ∀ (ua : Value) (ub : Value) (W : World), OwnM ua a W → OwnM ub b W → Calls Tryd.prog 27 #[ua, ub] W (PostMb R0 R1 W))
    (hI : ∀ (ua : Value) (ub : Value) (W : World), OwnM ua a W → OwnM ub b W → CurTab W → Calls Tryd.prog 28 #[ua, ub] W (PostMb R0 R1 W))
    (ht0 : CurTab w) (hl : szM a + szM b ≤ 1048576) (hlR0 : szM R0 ≤ 1048576) (ra : RdM w va a) (rb : RdM w vb b) :
    Calls Tryd.prog 7 #[va, vb] w fun e w' => e = .returned (.bool true) ∧ Below w.heap.size w w' := by
  have HS := Lib.hid hS
  have HI := Lib.hid hI
  clear hS hI
  have HT0 := Lib.hid ht0
  clear ht0
  have hsa := szM_nonneg a
  have hsb := szM_nonneg b
  have hsR0 := szM_nonneg R0
  have hma := mkM_range a
  have hmb := mkM_range b
  have hmR0 := mkM_range R0
  have hza : szM a ≤ 1048576 := by omega
  obtain ⟨Aa, ca, rfl⟩ := rdM_form ra
  have hzb : szM b ≤ 1048576 := by omega
  obtain ⟨Ab, cb, rfl⟩ := rdM_form rb
  have bb0 : Below w.heap.size w ((w.alloc (.cells #[.string a.1, .bool a.2.1, .slice Aa a.2.2.length ca] 27)).alloc (.cells #[.string b.1, .bool b.2.1, .slice Ab b.2.2.length cb] 27)) := below_al (below_al (Below.refl _ _) _) _
  have ka := (box_new w #[.string a.1, .bool a.2.1, .slice Aa a.2.2.length ca] 27).below (below_al (Below.refl _ _) (.cells #[.string b.1, .bool b.2.1, .slice Ab b.2.2.length cb] 27))
  have kb := (box_new (w.alloc (.cells #[.string a.1, .bool a.2.1, .slice Aa a.2.2.length ca] 27)) #[.string b.1, .bool b.2.1, .slice Ab b.2.2.length cb] 27)
  rw [show (w.alloc (.cells #[.string a.1, .bool a.2.1, .slice Aa a.2.2.length ca] 27)).heap.size = w.heap.size + 1 by simp] at kb
  have RFa : Hid (∀ W, Below w.heap.size w W → RdM W (.agg #[.string a.1, .bool a.2.1, .slice Aa a.2.2.length ca]) a) := Lib.hid fun W hb => ra.below hb
  have RFb : Hid (∀ W, Below w.heap.size w W → RdM W (.agg #[.string b.1, .bool b.2.1, .slice Ab b.2.2.length cb]) b) := Lib.hid fun W hb => rb.below hb
  go_enter Tryd.func7, Tryd.ntmps7
  have ka_c0 := ka.here.cell 0 _ rfl
  have ka_c1 := ka.here.cell 1 _ rfl
  have ka_c2 := ka.here.cell 2 _ rfl
  go_wp2_with fail
  clear ka_c0 ka_c1 ka_c2
  refine (szM_cal _ a (1048576) _ (capM_of hza) (by omega) (by omega) (RFa.out _ bb0)).mono ?_
  rintro e w1 ⟨rfl, b1⟩
  rw [leftI_of (by omega)]
  have bb1 := Below.next bb0 b1
  replace ka := ka.below b1
  replace kb := kb.below b1
  have hn : decide (((1048576 : Int) - szM a : Int) < 0) = false := decide_eq_false (by omega)
  have kb_c0 := kb.here.cell 0 _ rfl
  have kb_c1 := kb.here.cell 1 _ rfl
  have kb_c2 := kb.here.cell 2 _ rfl
  go_wp2_with fail
  clear kb_c0 kb_c1 kb_c2
  refine (szM_cal _ b (1048576 - szM a) _ (capM_of hzb) (by omega) (by omega) (RFb.out _ bb1)).mono ?_
  rintro e w2 ⟨rfl, b2⟩
  rw [leftI_of (by omega)]
  have bb2 := Below.next bb1 b2
  replace ka := ka.below b2
  replace kb := kb.below b2
  clear hn
  have hn : decide (((1048576 : Int) - szM a - szM b : Int) < 0) = false := decide_eq_false (by omega)
  have HKa := Lib.hid (ka.lt (w.heap.size) (by simp))
  have HKb := Lib.hid (kb.lt (w.heap.size + 1) (by simp))
  have ka_c0 := ka.here.cell 0 _ rfl
  have ka_c1 := ka.here.cell 1 _ rfl
  have ka_c2 := ka.here.cell 2 _ rfl
  have kb_c0 := kb.here.cell 0 _ rfl
  have kb_c1 := kb.here.cell 1 _ rfl
  have kb_c2 := kb.here.cell 2 _ rfl
  go_upto_region 8 with fail
  go_cut [6, 7] (fun s t1 wx => NewLocV 32 (fun v => OwnM v R0) w2 s wx ∧ t1 = .bool R1)
  case first =>
    have HB0 := Lib.hid (show Below w2.heap.size w2 w2.drew from (Below.refl _ _).drew)
    have KL := Lib.hid (show ∀ W, Below w2.heap.size w2 W → W.cell? ⟨w.heap.size, 0, none⟩ = some (.string a.1) ∧ W.cell? ⟨w.heap.size, 1, none⟩ = some (.bool a.2.1) ∧ W.cell? ⟨w.heap.size, 2, none⟩ = some (.slice Aa a.2.2.length ca) ∧ W.cell? ⟨w.heap.size + 1, 0, none⟩ = some (.string b.1) ∧ W.cell? ⟨w.heap.size + 1, 1, none⟩ = some (.bool b.2.1) ∧ W.cell? ⟨w.heap.size + 1, 2, none⟩ = some (.slice Ab b.2.2.length cb) ∧ Hid (Below w2.heap.size w2 W) from
      fun W hb => ⟨(ka.below hb).here.cell 0 _ rfl, (ka.below hb).here.cell 1 _ rfl, (ka.below hb).here.cell 2 _ rfl, (kb.below hb).here.cell 0 _ rfl, (kb.below hb).here.cell 1 _ rfl, (kb.below hb).here.cell 2 _ rfl, Lib.hid hb⟩)
    have BBF := Lib.hid (show ∀ W, Below w2.heap.size w2 W → Below w.heap.size w W from fun W hb => Below.next bb2 hb)
    clear ka_c0 ka_c1 ka_c2 kb_c0 kb_c1 kb_c2
    go_region_held3 (fun W => W.cell? ⟨w.heap.size, 0, none⟩ = some (.string a.1) ∧ W.cell? ⟨w.heap.size, 1, none⟩ = some (.bool a.2.1) ∧ W.cell? ⟨w.heap.size, 2, none⟩ = some (.slice Aa a.2.2.length ca) ∧ W.cell? ⟨w.heap.size + 1, 0, none⟩ = some (.string b.1) ∧ W.cell? ⟨w.heap.size + 1, 1, none⟩ = some (.bool b.2.1) ∧ W.cell? ⟨w.heap.size + 1, 2, none⟩ = some (.slice Ab b.2.2.length cb) ∧ Hid (Below w2.heap.size w2 W))
      ((refine KL.out _ ?_; (first | exact HBf.out | exact HBtb.out | exact HBta.out | exact HB0.out | exact below_al HBf.out _ | exact below_al HBtb.out _ | exact below_al HBta.out _ | exact below_al HB0.out _ | exact below_set3 HBf.out (by first | exact HBtb.out.size | exact HBta.out.size | exact HB0.out.size) | fail)))
      (first
        | (go_at_call 18; (have hBB := (‹_ ∧ _ ∧ _ ∧ _ ∧ _ ∧ _ ∧ Hid (Below w2.heap.size w2 _)›).2.2.2.2.2.2); (with_reducible refine (toM_new _ a _ hza (RFa.out _ (BBF.out _ hBB.out))).mono ?_); rintro e wta ⟨ta, Sta, rfl, ota, lta, bta⟩; have HBta := Lib.hid (Below.next hBB.out bta); (try have hbxa : At [w2.heap.size] (BoxAt w2.heap.size #[.string ⟨#[]⟩, .bool false, .slice none 0 0] 32) wta := At.below (box_new w2.drew _ _) bta); clear hBB)
        | (go_at_call 18; (have hBB := (‹_ ∧ _ ∧ _ ∧ _ ∧ _ ∧ _ ∧ Hid (Below w2.heap.size w2 _)›).2.2.2.2.2.2); (with_reducible refine (toM_new _ b _ hzb (RFb.out _ (BBF.out _ hBB.out))).mono ?_); rintro e wtb ⟨tb, Stb, rfl, otb, ltb, btb⟩; have HBtb := Lib.hid (Below.next hBB.out btb); (have otab := At.below (by first | exact ota | exact At.below ota (below_al (Below.refl _ _) _)) btb); (first | have hbxb := At.below (box_new _ _ _) btb | have hbxb := At.below hbxa btb | skip); clear hBB)
        | (go_at_call 27; (have hBB := (‹_ ∧ _ ∧ _ ∧ _ ∧ _ ∧ _ ∧ Hid (Below w2.heap.size w2 _)›).2.2.2.2.2.2); (with_reducible refine (HS.out _ _ _ (At.here (by first | exact otab | exact At.below otab (below_al (Below.refl _ _) _))) (At.here (by first | exact otb | exact At.below otb (below_al (Below.refl _ _) _)))).mono ?_); rintro e wf ⟨uf, Sf, rfl, of, lf, bf⟩; have HBf := Lib.hid (Below.next hBB.out bf); have HBS := Lib.hid hBB.out.size; (first | have hbxg := At.below_lt (box_new _ _ _) bf | have hbxg := At.below_lt hbxb bf | skip); (try (have hbxf := hbxg.1; have HGB := Lib.hid hbxg.2; clear hbxg)); obtain ⟨Af, cf, rfl⟩ := ownM_form of.here; (try (have cz0 := hbxf.here.cell 0 _ rfl; have cz1 := hbxf.here.cell 1 _ rfl; have cz2 := hbxf.here.cell 2 _ rfl; have fz0 := Lib.frozen_of_heap hbxf.here 0; have fz1 := Lib.frozen_of_heap hbxf.here 1; have fz2 := Lib.frozen_of_heap hbxf.here 2)); clear hBB))
    all_goals (go_wp2_with fail; go_meet; first | exact ⟨newLocV_last of lf HBS.out HBf.out, rfl⟩ | exact ⟨newLocV_early3 hbxf.here of lf (by first | exact HBtb.out.size | exact HBta.out.size | exact HB0.out.size) HGB.out HBf.out, rfl⟩)
  rename World => w3
  clear ka_c0 ka_c1 ka_c2 kb_c0 kb_c1 kb_c2
  obtain ⟨⟨gw0, csw0, Sw0, rfl, kw0, ow0, nw0, lw0, b3⟩, rfl⟩ := hcut
  obtain ⟨Aw0, cw0, ew0⟩ := ownM_form ow0.here
  injection ew0 with ew0
  subst ew0
  have bb3 := Below.next bb2 b3
  replace ka := ka.below b3
  replace kb := kb.below b3
  have ka_c0 := ka.here.cell 0 _ rfl
  have ka_c1 := ka.here.cell 1 _ rfl
  have ka_c2 := ka.here.cell 2 _ rfl
  go_upto_region 9 with fail
  go_cut [8] (fun s wx => NewLocV 32 (fun v => OwnM v a) w3 s wx)
  case first =>
    go_wp2_with fail
    refine (toM_new _ a _ hza (RFa.out _ bb3)).mono ?_
    rintro e wt ⟨ut, St, rfl, ot, lt, bt⟩
    obtain ⟨At, ct, rfl⟩ := ownM_form ot.here
    go_wp2_with fail
    go_meet
    exact newLocV_last ot lt (Nat.le_refl _) bt
  rename World => w4
  clear ka_c0 ka_c1 ka_c2
  obtain ⟨gxa, csxa, Sxa, rfl, kxa, oxa, nxa, lxa, b4⟩ := hcut
  obtain ⟨Axa, cxa, exa⟩ := ownM_form oxa.here
  injection exa with exa
  subst exa
  have bb4 := Below.next bb3 b4
  replace ka := ka.below b4
  replace kb := kb.below b4
  replace kw0 := kw0.below b4
  replace ow0 := ow0.below b4
  have kb_c0 := kb.here.cell 0 _ rfl
  have kb_c1 := kb.here.cell 1 _ rfl
  have kb_c2 := kb.here.cell 2 _ rfl
  go_upto_region 10 with fail
  go_cut [9] (fun s wx => NewLocV 32 (fun v => OwnM v b) w4 s wx)
  case first =>
    go_wp2_with fail
    refine (toM_new _ b _ hzb (RFb.out _ bb4)).mono ?_
    rintro e wt ⟨ut, St, rfl, ot, lt, bt⟩
    obtain ⟨At, ct, rfl⟩ := ownM_form ot.here
    go_wp2_with fail
    go_meet
    exact newLocV_last ot lt (Nat.le_refl _) bt
  rename World => w5
  clear kb_c0 kb_c1 kb_c2
  obtain ⟨gxb, csxb, Sxb, rfl, kxb, oxb, nxb, lxb, b5⟩ := hcut
  obtain ⟨Axb, cxb, exb⟩ := ownM_form oxb.here
  injection exb with exb
  subst exb
  have bb5 := Below.next bb4 b5
  replace ka := ka.below b5
  replace kb := kb.below b5
  replace kw0 := kw0.below b5
  replace ow0 := ow0.below b5
  replace kxa := kxa.below b5
  replace oxa := oxa.below b5
  have kxa_c0 := kxa.here.cell 0 _ rfl
  have kxa_c1 := kxa.here.cell 1 _ rfl
  have kxa_c2 := kxa.here.cell 2 _ rfl
  have kxb_c0 := kxb.here.cell 0 _ rfl
  have kxb_c1 := kxb.here.cell 1 _ rfl
  have kxb_c2 := kxb.here.cell 2 _ rfl
  go_upto_region 11 with fail
  go_cut [10, 11] (fun s t1 wx => NewLocV 32 (fun v => OwnM v R0) w5 s wx ∧ t1 = .bool R1)
  case first =>
    go_wp2_with fail
    refine (HI.out _ _ _ oxa.here oxb.here (HT0.out.below bb5)).mono ?_
    rintro e wf ⟨uf, Sf, rfl, of, lf, bf⟩
    obtain ⟨Af, cf, rfl⟩ := ownM_form of.here
    go_wp2_with fail
    go_meet
    exact ⟨newLocV_last of lf (Nat.le_refl _) bf, rfl⟩
  rename World => w6
  clear kxa_c0 kxa_c1 kxa_c2 kxb_c0 kxb_c1 kxb_c2
  obtain ⟨⟨gg0, csg0, Sg0, rfl, kg0, og0, ng0, lg0, b6⟩, rfl⟩ := hcut
  obtain ⟨Ag0, cg0, eg0⟩ := ownM_form og0.here
  injection eg0 with eg0
  subst eg0
  have bb6 := Below.next bb5 b6
  replace ka := ka.below b6
  replace kb := kb.below b6
  replace kw0 := kw0.below b6
  replace ow0 := ow0.below b6
  replace kxa := kxa.below b6
  replace oxa := oxa.below b6
  replace kxb := kxb.below b6
  replace oxb := oxb.below b6
  have kg0_c0 := kg0.here.cell 0 _ rfl
  have kg0_c1 := kg0.here.cell 1 _ rfl
  have kg0_c2 := kg0.here.cell 2 _ rfl
  have kw0_c0 := kw0.here.cell 0 _ rfl
  have kw0_c1 := kw0.here.cell 1 _ rfl
  have kw0_c2 := kw0.here.cell 2 _ rfl
  go_wp2_with fail
  clear kg0_c0 kg0_c1 kg0_c2 kw0_c0 kw0_c1 kw0_c2
  refine (eqM_cal _ _ R0 R0 _ (capM_of (by omega)) (OwnM.rd og0.here) (OwnM.rd ow0.here)).mono ?_
  rintro e w7 ⟨rfl, b7⟩
  rw [decide_refl]
  have bb7 := Below.next bb6 b7
  replace ka := ka.below b7
  replace kb := kb.below b7
  replace kw0 := kw0.below b7
  replace ow0 := ow0.below b7
  replace kxa := kxa.below b7
  replace oxa := oxa.below b7
  replace kxb := kxb.below b7
  replace oxb := oxb.below b7
  replace kg0 := kg0.below b7
  replace og0 := og0.below b7
  have ka_c0 := ka.here.cell 0 _ rfl
  have ka_c1 := ka.here.cell 1 _ rfl
  have ka_c2 := ka.here.cell 2 _ rfl
  have kxa_c0 := kxa.here.cell 0 _ rfl
  have kxa_c1 := kxa.here.cell 1 _ rfl
  have kxa_c2 := kxa.here.cell 2 _ rfl
  go_wp2_with fail
  have HB0 := Lib.hid (show Below w7.heap.size w7 w7.drew from (Below.refl _ _).drew)
  have KL := Lib.hid (show ∀ W, Below w7.heap.size w7 W → W.cell? ⟨w.heap.size, 0, none⟩ = some (.string a.1) ∧ W.cell? ⟨w.heap.size, 1, none⟩ = some (.bool a.2.1) ∧ W.cell? ⟨w.heap.size, 2, none⟩ = some (.slice Aa a.2.2.length ca) ∧ W.cell? ⟨gxa, 0, none⟩ = some (.string a.1) ∧ W.cell? ⟨gxa, 1, none⟩ = some (.bool a.2.1) ∧ W.cell? ⟨gxa, 2, none⟩ = some (.slice Axa a.2.2.length cxa) ∧ Hid (Below w7.heap.size w7 W) from
    fun W hb => ⟨(ka.below hb).here.cell 0 _ rfl, (ka.below hb).here.cell 1 _ rfl, (ka.below hb).here.cell 2 _ rfl, (kxa.below hb).here.cell 0 _ rfl, (kxa.below hb).here.cell 1 _ rfl, (kxa.below hb).here.cell 2 _ rfl, Lib.hid hb⟩)
  have BBF := Lib.hid (show ∀ W, Below w7.heap.size w7 W → Below w.heap.size w W from fun W hb => Below.next bb7 hb)
  have OXF := Lib.hid (show ∀ W, Below w7.heap.size w7 W → OwnM (.agg #[.string a.1, .bool a.2.1, .slice Axa a.2.2.length cxa]) a W from fun W hb => (oxa.below hb).here)
  clear ka_c0 ka_c1 ka_c2 kxa_c0 kxa_c1 kxa_c2
  go_region_held3 (fun W => W.cell? ⟨w.heap.size, 0, none⟩ = some (.string a.1) ∧ W.cell? ⟨w.heap.size, 1, none⟩ = some (.bool a.2.1) ∧ W.cell? ⟨w.heap.size, 2, none⟩ = some (.slice Aa a.2.2.length ca) ∧ W.cell? ⟨gxa, 0, none⟩ = some (.string a.1) ∧ W.cell? ⟨gxa, 1, none⟩ = some (.bool a.2.1) ∧ W.cell? ⟨gxa, 2, none⟩ = some (.slice Axa a.2.2.length cxa) ∧ Hid (Below w7.heap.size w7 W))
    ((refine KL.out _ ?_; (first | exact HBe.out | exact HBt.out | exact HB0.out | fail)))
    (first
      | (go_at_call 18; (have hBB := (‹_ ∧ _ ∧ _ ∧ _ ∧ _ ∧ _ ∧ Hid (Below w7.heap.size w7 _)›).2.2.2.2.2.2); (with_reducible refine (toM_new _ a _ hza (RFa.out _ (BBF.out _ hBB.out))).mono ?_); rintro e wt ⟨t, St, rfl, ot, lt, bt⟩; have HBt := Lib.hid (Below.next hBB.out bt); clear hBB)
      | (go_at_call 20; (have hBB := (‹_ ∧ _ ∧ _ ∧ _ ∧ _ ∧ _ ∧ Hid (Below w7.heap.size w7 _)›).2.2.2.2.2.2); (with_reducible refine (eqM_cal _ _ a a _ (capM_of hza) (OwnM.rd (OXF.out _ hBB.out)) (OwnM.rd ot.here)).mono ?_); rintro e w8 ⟨rfl, be⟩; rw [decide_refl]; have HBe := Lib.hid (Below.next hBB.out be); clear hBB))
  have b8 := HBe.out
  have bb8 := Below.next bb7 b8
  replace ka := ka.below b8
  replace kb := kb.below b8
  replace kw0 := kw0.below b8
  replace ow0 := ow0.below b8
  replace kxa := kxa.below b8
  replace oxa := oxa.below b8
  replace kxb := kxb.below b8
  replace oxb := oxb.below b8
  replace kg0 := kg0.below b8
  replace og0 := og0.below b8
  clear HB0 KL BBF OXF HBt HBe ot lt
  have kb_c0 := kb.here.cell 0 _ rfl
  have kb_c1 := kb.here.cell 1 _ rfl
  have kb_c2 := kb.here.cell 2 _ rfl
  have kxb_c0 := kxb.here.cell 0 _ rfl
  have kxb_c1 := kxb.here.cell 1 _ rfl
  have kxb_c2 := kxb.here.cell 2 _ rfl
  go_wp2_with fail
  have HB0 := Lib.hid (show Below w8.heap.size w8 w8.drew from (Below.refl _ _).drew)
  have KL := Lib.hid (show ∀ W, Below w8.heap.size w8 W → W.cell? ⟨w.heap.size + 1, 0, none⟩ = some (.string b.1) ∧ W.cell? ⟨w.heap.size + 1, 1, none⟩ = some (.bool b.2.1) ∧ W.cell? ⟨w.heap.size + 1, 2, none⟩ = some (.slice Ab b.2.2.length cb) ∧ W.cell? ⟨gxb, 0, none⟩ = some (.string b.1) ∧ W.cell? ⟨gxb, 1, none⟩ = some (.bool b.2.1) ∧ W.cell? ⟨gxb, 2, none⟩ = some (.slice Axb b.2.2.length cxb) ∧ Hid (Below w8.heap.size w8 W) from
    fun W hb => ⟨(kb.below hb).here.cell 0 _ rfl, (kb.below hb).here.cell 1 _ rfl, (kb.below hb).here.cell 2 _ rfl, (kxb.below hb).here.cell 0 _ rfl, (kxb.below hb).here.cell 1 _ rfl, (kxb.below hb).here.cell 2 _ rfl, Lib.hid hb⟩)
  have BBF := Lib.hid (show ∀ W, Below w8.heap.size w8 W → Below w.heap.size w W from fun W hb => Below.next bb8 hb)
  have OXF := Lib.hid (show ∀ W, Below w8.heap.size w8 W → OwnM (.agg #[.string b.1, .bool b.2.1, .slice Axb b.2.2.length cxb]) b W from fun W hb => (oxb.below hb).here)
  clear kb_c0 kb_c1 kb_c2 kxb_c0 kxb_c1 kxb_c2
  go_region_held3 (fun W => W.cell? ⟨w.heap.size + 1, 0, none⟩ = some (.string b.1) ∧ W.cell? ⟨w.heap.size + 1, 1, none⟩ = some (.bool b.2.1) ∧ W.cell? ⟨w.heap.size + 1, 2, none⟩ = some (.slice Ab b.2.2.length cb) ∧ W.cell? ⟨gxb, 0, none⟩ = some (.string b.1) ∧ W.cell? ⟨gxb, 1, none⟩ = some (.bool b.2.1) ∧ W.cell? ⟨gxb, 2, none⟩ = some (.slice Axb b.2.2.length cxb) ∧ Hid (Below w8.heap.size w8 W))
    ((refine KL.out _ ?_; (first | exact HBe.out | exact HBt.out | exact HB0.out | fail)))
    (first
      | (go_at_call 18; (have hBB := (‹_ ∧ _ ∧ _ ∧ _ ∧ _ ∧ _ ∧ Hid (Below w8.heap.size w8 _)›).2.2.2.2.2.2); (with_reducible refine (toM_new _ b _ hzb (RFb.out _ (BBF.out _ hBB.out))).mono ?_); rintro e wt ⟨t, St, rfl, ot, lt, bt⟩; have HBt := Lib.hid (Below.next hBB.out bt); clear hBB)
      | (go_at_call 20; (have hBB := (‹_ ∧ _ ∧ _ ∧ _ ∧ _ ∧ _ ∧ Hid (Below w8.heap.size w8 _)›).2.2.2.2.2.2); (with_reducible refine (eqM_cal _ _ b b _ (capM_of hzb) (OwnM.rd (OXF.out _ hBB.out)) (OwnM.rd ot.here)).mono ?_); rintro e w9 ⟨rfl, be⟩; rw [decide_refl]; have HBe := Lib.hid (Below.next hBB.out be); clear hBB))
  have b9 := HBe.out
  have bb9 := Below.next bb8 b9
  replace ka := ka.below b9
  replace kb := kb.below b9
  replace kw0 := kw0.below b9
  replace ow0 := ow0.below b9
  replace kxa := kxa.below b9
  replace oxa := oxa.below b9
  replace kxb := kxb.below b9
  replace oxb := oxb.below b9
  replace kg0 := kg0.below b9
  replace og0 := og0.below b9
  clear HB0 KL BBF OXF HBt HBe ot lt
  have z1 := b1.size
  have z2 := b2.size
  have z3 := b3.size
  have z4 := b4.size
  have z5 := b5.size
  have z6 := b6.size
  have z7 := b7.size
  have z8 := b8.size
  have z9 := b9.size
  have AP_xa_xb := Lib.hid (Within.apart lxa lxb (.inl (by omega)))
  have AP_xa_g0 := Lib.hid (Within.apart lxa lg0 (.inl (by omega)))
  have AP_xb_g0 := Lib.hid (Within.apart lxb lg0 (.inl (by omega)))
  have AP_w0_xa := Lib.hid (Within.apart lw0 lxa (.inl (by omega)))
  have AP_w0_xb := Lib.hid (Within.apart lw0 lxb (.inl (by omega)))
  have AP_w0_g0 := Lib.hid (Within.apart lw0 lg0 (.inl (by omega)))
  have F_xa := Lib.hid (Within.from (B := w.heap.size) lxa (by have := bb2.size; omega))
  have N_xa := Lib.hid nxa
  have KX_a_xa := Lib.hid (show ∀ i ∈ [w.heap.size], i ∉ gxa :: Sxa from fun i hi hm => by have h1 := (lxa i hm).1; have h2 := HKa.out; simp at hi; omega)
  have KX_b_xa := Lib.hid (show ∀ i ∈ [w.heap.size + 1], i ∉ gxa :: Sxa from fun i hi hm => by have h1 := (lxa i hm).1; have h2 := HKb.out; simp at hi; omega)
  have F_xb := Lib.hid (Within.from (B := w.heap.size) lxb (by have := bb2.size; omega))
  have N_xb := Lib.hid nxb
  have KX_a_xb := Lib.hid (show ∀ i ∈ [w.heap.size], i ∉ gxb :: Sxb from fun i hi hm => by have h1 := (lxb i hm).1; have h2 := HKa.out; simp at hi; omega)
  have KX_b_xb := Lib.hid (show ∀ i ∈ [w.heap.size + 1], i ∉ gxb :: Sxb from fun i hi hm => by have h1 := (lxb i hm).1; have h2 := HKb.out; simp at hi; omega)
  have F_g0 := Lib.hid (Within.from (B := w.heap.size) lg0 (by have := bb2.size; omega))
  have N_g0 := Lib.hid ng0
  have KX_a_g0 := Lib.hid (show ∀ i ∈ [w.heap.size], i ∉ gg0 :: Sg0 from fun i hi hm => by have h1 := (lg0 i hm).1; have h2 := HKa.out; simp at hi; omega)
  have KX_b_g0 := Lib.hid (show ∀ i ∈ [w.heap.size + 1], i ∉ gg0 :: Sg0 from fun i hi hm => by have h1 := (lg0 i hm).1; have h2 := HKb.out; simp at hi; omega)
  clear z1 z2 z3 z4 z5 z6 z7 z8 z9
  have kxa_c0 := kxa.here.cell 0 _ rfl
  have kxa_c1 := kxa.here.cell 1 _ rfl
  have kxa_c2 := kxa.here.cell 2 _ rfl
  go_wp2_with fail
  clear kxa_c0 kxa_c1 kxa_c2
  refine (markM_cal _ a _ (1) _ (by omega) (by omega) oxa).mono ?_
  rintro e w10 ⟨rfl, mkxa, c10⟩
  clear oxa
  have bb10 := below_chg bb9 c10 bb9.size (fun i hi => F_xa.out i (List.mem_cons_of_mem _ hi))
  replace ka := ka.chg c10 (fun i hi hm => KX_a_xa.out i hi (List.mem_cons_of_mem _ hm))
  replace kb := kb.chg c10 (fun i hi hm => KX_b_xa.out i hi (List.mem_cons_of_mem _ hm))
  replace kw0 := kw0.chg c10 (fun i hi hm => AP_w0_xa.out i (by simp at hi; subst hi; exact List.mem_cons_self ..) (List.mem_cons_of_mem _ hm))
  replace ow0 := ow0.chg c10 (fun i hi hm => AP_w0_xa.out i (List.mem_cons_of_mem _ hi) (List.mem_cons_of_mem _ hm))
  replace kxa := kxa.chg c10 (fun i hi hm => by simp at hi; subst hi; exact N_xa.out hm)
  replace kxb := kxb.chg c10 (fun i hi hm => (apart_symm AP_xa_xb.out) i (by simp at hi; subst hi; exact List.mem_cons_self ..) (List.mem_cons_of_mem _ hm))
  replace oxb := oxb.chg c10 (fun i hi hm => (apart_symm AP_xa_xb.out) i (List.mem_cons_of_mem _ hi) (List.mem_cons_of_mem _ hm))
  replace kg0 := kg0.chg c10 (fun i hi hm => (apart_symm AP_xa_g0.out) i (by simp at hi; subst hi; exact List.mem_cons_self ..) (List.mem_cons_of_mem _ hm))
  replace og0 := og0.chg c10 (fun i hi hm => (apart_symm AP_xa_g0.out) i (List.mem_cons_of_mem _ hi) (List.mem_cons_of_mem _ hm))
  have kxb_c0 := kxb.here.cell 0 _ rfl
  have kxb_c1 := kxb.here.cell 1 _ rfl
  have kxb_c2 := kxb.here.cell 2 _ rfl
  go_wp2_with fail
  clear kxb_c0 kxb_c1 kxb_c2
  refine (markM_cal _ b _ (1 + mkM a) _ (by omega) (by omega) oxb).mono ?_
  rintro e w11 ⟨rfl, mkxb, c11⟩
  clear oxb
  have bb11 := below_chg bb10 c11 bb10.size (fun i hi => F_xb.out i (List.mem_cons_of_mem _ hi))
  replace ka := ka.chg c11 (fun i hi hm => KX_a_xb.out i hi (List.mem_cons_of_mem _ hm))
  replace kb := kb.chg c11 (fun i hi hm => KX_b_xb.out i hi (List.mem_cons_of_mem _ hm))
  replace kw0 := kw0.chg c11 (fun i hi hm => AP_w0_xb.out i (by simp at hi; subst hi; exact List.mem_cons_self ..) (List.mem_cons_of_mem _ hm))
  replace ow0 := ow0.chg c11 (fun i hi hm => AP_w0_xb.out i (List.mem_cons_of_mem _ hi) (List.mem_cons_of_mem _ hm))
  replace kxa := kxa.chg c11 (fun i hi hm => AP_xa_xb.out i (by simp at hi; subst hi; exact List.mem_cons_self ..) (List.mem_cons_of_mem _ hm))
  replace kxb := kxb.chg c11 (fun i hi hm => by simp at hi; subst hi; exact N_xb.out hm)
  replace kg0 := kg0.chg c11 (fun i hi hm => (apart_symm AP_xb_g0.out) i (by simp at hi; subst hi; exact List.mem_cons_self ..) (List.mem_cons_of_mem _ hm))
  replace og0 := og0.chg c11 (fun i hi hm => (apart_symm AP_xb_g0.out) i (List.mem_cons_of_mem _ hi) (List.mem_cons_of_mem _ hm))
  replace mkxa := mkxa.chg c11 (fun i hi hm => AP_xa_xb.out i (List.mem_cons_of_mem _ hi) (List.mem_cons_of_mem _ hm))
  have hk : decide (((1 + mkM a + mkM b) : Int) < 0) = false := decide_eq_false (by omega)
  have kg0_c0 := kg0.here.cell 0 _ rfl
  have kg0_c1 := kg0.here.cell 1 _ rfl
  have kg0_c2 := kg0.here.cell 2 _ rfl
  have kw0_c0 := kw0.here.cell 0 _ rfl
  have kw0_c1 := kw0.here.cell 1 _ rfl
  have kw0_c2 := kw0.here.cell 2 _ rfl
  go_wp2_with fail
  clear kg0_c0 kg0_c1 kg0_c2 kw0_c0 kw0_c1 kw0_c2
  refine (eqM_cal _ _ R0 R0 _ (capM_of (by omega)) (OwnM.rd og0.here) (OwnM.rd ow0.here)).mono ?_
  rintro e w12 ⟨rfl, b12⟩
  rw [decide_refl]
  have bb12 := Below.next bb11 b12
  replace ka := ka.below b12
  replace kb := kb.below b12
  replace kw0 := kw0.below b12
  replace ow0 := ow0.below b12
  replace kxa := kxa.below b12
  replace kxb := kxb.below b12
  replace kg0 := kg0.below b12
  replace og0 := og0.below b12
  replace mkxa := mkxa.below b12
  replace mkxb := mkxb.below b12
  clear hk
  have kg0_c0 := kg0.here.cell 0 _ rfl
  have kg0_c1 := kg0.here.cell 1 _ rfl
  have kg0_c2 := kg0.here.cell 2 _ rfl
  go_wp2_with fail
  clear kg0_c0 kg0_c1 kg0_c2
  refine (markM_cal _ R0 _ (1) _ (by omega) (by omega) og0).mono ?_
  rintro e w13 ⟨rfl, mkg0, c13⟩
  clear og0
  have bb13 := below_chg bb12 c13 bb12.size (fun i hi => F_g0.out i (List.mem_cons_of_mem _ hi))
  replace ka := ka.chg c13 (fun i hi hm => KX_a_g0.out i hi (List.mem_cons_of_mem _ hm))
  replace kb := kb.chg c13 (fun i hi hm => KX_b_g0.out i hi (List.mem_cons_of_mem _ hm))
  replace kw0 := kw0.chg c13 (fun i hi hm => AP_w0_g0.out i (by simp at hi; subst hi; exact List.mem_cons_self ..) (List.mem_cons_of_mem _ hm))
  replace ow0 := ow0.chg c13 (fun i hi hm => AP_w0_g0.out i (List.mem_cons_of_mem _ hi) (List.mem_cons_of_mem _ hm))
  replace kxa := kxa.chg c13 (fun i hi hm => AP_xa_g0.out i (by simp at hi; subst hi; exact List.mem_cons_self ..) (List.mem_cons_of_mem _ hm))
  replace kxb := kxb.chg c13 (fun i hi hm => AP_xb_g0.out i (by simp at hi; subst hi; exact List.mem_cons_self ..) (List.mem_cons_of_mem _ hm))
  replace kg0 := kg0.chg c13 (fun i hi hm => by simp at hi; subst hi; exact N_g0.out hm)
  replace mkxa := mkxa.chg c13 (fun i hi hm => AP_xa_g0.out i (List.mem_cons_of_mem _ hi) (List.mem_cons_of_mem _ hm))
  replace mkxb := mkxb.chg c13 (fun i hi hm => AP_xb_g0.out i (List.mem_cons_of_mem _ hi) (List.mem_cons_of_mem _ hm))
  have kg0_c0 := kg0.here.cell 0 _ rfl
  have kg0_c1 := kg0.here.cell 1 _ rfl
  have kg0_c2 := kg0.here.cell 2 _ rfl
  go_wp2_with fail
  clear kg0_c0 kg0_c1 kg0_c2
  refine (heldM_cal _ R0 (1) _ (by omega) (by omega) mkg0.here).mono ?_
  rintro e w14 ⟨rfl, b14⟩
  have bb14 := Below.next bb13 b14
  replace ka := ka.below b14
  replace kb := kb.below b14
  replace kw0 := kw0.below b14
  replace ow0 := ow0.below b14
  replace kxa := kxa.below b14
  replace kxb := kxb.below b14
  replace kg0 := kg0.below b14
  replace mkxa := mkxa.below b14
  replace mkxb := mkxb.below b14
  replace mkg0 := mkg0.below b14
  have hq14 : decide ((1 : Int) + mkM R0 < 0) = false := decide_eq_false (by omega)
  have ka_c0 := ka.here.cell 0 _ rfl
  have ka_c1 := ka.here.cell 1 _ rfl
  have ka_c2 := ka.here.cell 2 _ rfl
  have kb_c0 := kb.here.cell 0 _ rfl
  have kb_c1 := kb.here.cell 1 _ rfl
  have kb_c2 := kb.here.cell 2 _ rfl
  go_upto_region 31 with fail
  go_cut [15, 16] (fun s t1 wx => NewLocV 32 (fun v => OwnM v R0) w14 s wx ∧ t1 = .bool R1)
  case first =>
    have HB0 := Lib.hid (show Below w14.heap.size w14 w14.drew from (Below.refl _ _).drew)
    have KL := Lib.hid (show ∀ W, Below w14.heap.size w14 W → W.cell? ⟨w.heap.size, 0, none⟩ = some (.string a.1) ∧ W.cell? ⟨w.heap.size, 1, none⟩ = some (.bool a.2.1) ∧ W.cell? ⟨w.heap.size, 2, none⟩ = some (.slice Aa a.2.2.length ca) ∧ W.cell? ⟨w.heap.size + 1, 0, none⟩ = some (.string b.1) ∧ W.cell? ⟨w.heap.size + 1, 1, none⟩ = some (.bool b.2.1) ∧ W.cell? ⟨w.heap.size + 1, 2, none⟩ = some (.slice Ab b.2.2.length cb) ∧ Hid (Below w14.heap.size w14 W) from
      fun W hb => ⟨(ka.below hb).here.cell 0 _ rfl, (ka.below hb).here.cell 1 _ rfl, (ka.below hb).here.cell 2 _ rfl, (kb.below hb).here.cell 0 _ rfl, (kb.below hb).here.cell 1 _ rfl, (kb.below hb).here.cell 2 _ rfl, Lib.hid hb⟩)
    have BBF := Lib.hid (show ∀ W, Below w14.heap.size w14 W → Below w.heap.size w W from fun W hb => Below.next bb14 hb)
    clear ka_c0 ka_c1 ka_c2 kb_c0 kb_c1 kb_c2
    go_region_held3 (fun W => W.cell? ⟨w.heap.size, 0, none⟩ = some (.string a.1) ∧ W.cell? ⟨w.heap.size, 1, none⟩ = some (.bool a.2.1) ∧ W.cell? ⟨w.heap.size, 2, none⟩ = some (.slice Aa a.2.2.length ca) ∧ W.cell? ⟨w.heap.size + 1, 0, none⟩ = some (.string b.1) ∧ W.cell? ⟨w.heap.size + 1, 1, none⟩ = some (.bool b.2.1) ∧ W.cell? ⟨w.heap.size + 1, 2, none⟩ = some (.slice Ab b.2.2.length cb) ∧ Hid (Below w14.heap.size w14 W))
      ((refine KL.out _ ?_; (first | exact HBf.out | exact HBtb.out | exact HBta.out | exact HB0.out | exact below_al HBf.out _ | exact below_al HBtb.out _ | exact below_al HBta.out _ | exact below_al HB0.out _ | exact below_set3 HBf.out (by first | exact HBtb.out.size | exact HBta.out.size | exact HB0.out.size) | fail)))
      (first
        | (go_at_call 18; (have hBB := (‹_ ∧ _ ∧ _ ∧ _ ∧ _ ∧ _ ∧ Hid (Below w14.heap.size w14 _)›).2.2.2.2.2.2); (with_reducible refine (toM_new _ a _ hza (RFa.out _ (BBF.out _ hBB.out))).mono ?_); rintro e wta ⟨ta, Sta, rfl, ota, lta, bta⟩; have HBta := Lib.hid (Below.next hBB.out bta); (try have hbxa : At [w14.heap.size] (BoxAt w14.heap.size #[.string ⟨#[]⟩, .bool false, .slice none 0 0] 32) wta := At.below (box_new w14.drew _ _) bta); clear hBB)
        | (go_at_call 18; (have hBB := (‹_ ∧ _ ∧ _ ∧ _ ∧ _ ∧ _ ∧ Hid (Below w14.heap.size w14 _)›).2.2.2.2.2.2); (with_reducible refine (toM_new _ b _ hzb (RFb.out _ (BBF.out _ hBB.out))).mono ?_); rintro e wtb ⟨tb, Stb, rfl, otb, ltb, btb⟩; have HBtb := Lib.hid (Below.next hBB.out btb); (have otab := At.below (by first | exact ota | exact At.below ota (below_al (Below.refl _ _) _)) btb); (first | have hbxb := At.below (box_new _ _ _) btb | have hbxb := At.below hbxa btb | skip); clear hBB)
        | (go_at_call 28; (have hBB := (‹_ ∧ _ ∧ _ ∧ _ ∧ _ ∧ _ ∧ Hid (Below w14.heap.size w14 _)›).2.2.2.2.2.2); (with_reducible refine (HI.out _ _ _ (At.here (by first | exact otab | exact At.below otab (below_al (Below.refl _ _) _))) (At.here (by first | exact otb | exact At.below otb (below_al (Below.refl _ _) _))) (HT0.out.below (BBF.out _ hBB.out))).mono ?_); rintro e wf ⟨uf, Sf, rfl, of, lf, bf⟩; have HBf := Lib.hid (Below.next hBB.out bf); have HBS := Lib.hid hBB.out.size; (first | have hbxg := At.below_lt (box_new _ _ _) bf | have hbxg := At.below_lt hbxb bf | skip); (try (have hbxf := hbxg.1; have HGB := Lib.hid hbxg.2; clear hbxg)); obtain ⟨Af, cf, rfl⟩ := ownM_form of.here; (try (have cz0 := hbxf.here.cell 0 _ rfl; have cz1 := hbxf.here.cell 1 _ rfl; have cz2 := hbxf.here.cell 2 _ rfl; have fz0 := Lib.frozen_of_heap hbxf.here 0; have fz1 := Lib.frozen_of_heap hbxf.here 1; have fz2 := Lib.frozen_of_heap hbxf.here 2)); clear hBB))
    all_goals (go_wp2_with fail; go_meet; first | exact ⟨newLocV_last of lf HBS.out HBf.out, rfl⟩ | exact ⟨newLocV_early3 hbxf.here of lf (by first | exact HBtb.out.size | exact HBta.out.size | exact HB0.out.size) HGB.out HBf.out, rfl⟩)
  rename World => w15
  clear ka_c0 ka_c1 ka_c2 kb_c0 kb_c1 kb_c2
  obtain ⟨⟨gh0, csh0, Sh0, rfl, kh0, oh0, nh0, lh0, b15⟩, rfl⟩ := hcut
  obtain ⟨Ah0, ch0, eh0⟩ := ownM_form oh0.here
  injection eh0 with eh0
  subst eh0
  have bb15 := Below.next bb14 b15
  replace ka := ka.below b15
  replace kb := kb.below b15
  replace kw0 := kw0.below b15
  replace ow0 := ow0.below b15
  replace kxa := kxa.below b15
  replace kxb := kxb.below b15
  replace kg0 := kg0.below b15
  replace mkxa := mkxa.below b15
  replace mkxb := mkxb.below b15
  replace mkg0 := mkg0.below b15
  have kh0_c0 := kh0.here.cell 0 _ rfl
  have kh0_c1 := kh0.here.cell 1 _ rfl
  have kh0_c2 := kh0.here.cell 2 _ rfl
  have kw0_c0 := kw0.here.cell 0 _ rfl
  have kw0_c1 := kw0.here.cell 1 _ rfl
  have kw0_c2 := kw0.here.cell 2 _ rfl
  go_wp2_with fail
  clear kh0_c0 kh0_c1 kh0_c2 kw0_c0 kw0_c1 kw0_c2
  refine (eqM_cal _ _ R0 R0 _ (capM_of (by omega)) (OwnM.rd oh0.here) (OwnM.rd ow0.here)).mono ?_
  rintro e w16 ⟨rfl, b16⟩
  rw [decide_refl]
  have bb16 := Below.next bb15 b16
  replace ka := ka.below b16
  replace kb := kb.below b16
  replace kw0 := kw0.below b16
  replace ow0 := ow0.below b16
  replace kxa := kxa.below b16
  replace kxb := kxb.below b16
  replace kg0 := kg0.below b16
  replace mkxa := mkxa.below b16
  replace mkxb := mkxb.below b16
  replace mkg0 := mkg0.below b16
  replace kh0 := kh0.below b16
  replace oh0 := oh0.below b16
  have kg0_c0 := kg0.here.cell 0 _ rfl
  have kg0_c1 := kg0.here.cell 1 _ rfl
  have kg0_c2 := kg0.here.cell 2 _ rfl
  go_wp2_with fail
  clear kg0_c0 kg0_c1 kg0_c2
  refine (heldM_cal _ R0 (1) _ (by omega) (by omega) mkg0.here).mono ?_
  rintro e w17 ⟨rfl, b17⟩
  have bb17 := Below.next bb16 b17
  replace ka := ka.below b17
  replace kb := kb.below b17
  replace kw0 := kw0.below b17
  replace ow0 := ow0.below b17
  replace kxa := kxa.below b17
  replace kxb := kxb.below b17
  replace kg0 := kg0.below b17
  replace mkxa := mkxa.below b17
  replace mkxb := mkxb.below b17
  replace mkg0 := mkg0.below b17
  replace kh0 := kh0.below b17
  replace oh0 := oh0.below b17
  have hq17 : decide ((1 : Int) + mkM R0 < 0) = false := decide_eq_false (by omega)
  go_wp2
  go_ret
  exact ⟨rfl, bb17⟩
end Go.Proofs.YtcenmdiblbooeaaDoor

namespace Go.Proofs.YtcenmdiblbooeaaDoor
open Go.RowKit

set_option maxHeartbeats 2000000 in
set_option maxRecDepth 100000 in
theorem copyMoney_any (vm : Value) (m : MI) (w : World) (hl : m.2.2.length ≤ 1048576) (hm : OwnM vm m w) : Calls Tryd.prog 70 #[vm] w (NewV (fun v => OwnM v m) w) := by
  obtain ⟨Am, cm, rfl⟩ := ownM_form hm
  have hrow := (ownM_open hm).row
  have bb0 : Below w.heap.size w ((w.alloc (.cells #[.string m.1, .bool m.2.1, .slice Am m.2.2.length cm] 32)).alloc (.cells #[.string ⟨#[]⟩, .bool false, .slice none 0 0] 32)) := below_al (below_al (Below.refl _ _) _) _
  have hz0 : ((w.alloc (.cells #[.string m.1, .bool m.2.1, .slice Am m.2.2.length cm] 32)).alloc (.cells #[.string ⟨#[]⟩, .bool false, .slice none 0 0] 32)).heap.size = w.heap.size + 1 + 1 := by simp
  have km := (box_new w #[.string m.1, .bool m.2.1, .slice Am m.2.2.length cm] 32).below (below_al (Below.refl _ _) (.cells #[.string ⟨#[]⟩, .bool false, .slice none 0 0] 32))
  have ko := box_new (w.alloc (.cells #[.string m.1, .bool m.2.1, .slice Am m.2.2.length cm] 32)) #[.string ⟨#[]⟩, .bool false, .slice none 0 0] 32
  rw [show (w.alloc (.cells #[.string m.1, .bool m.2.1, .slice Am m.2.2.length cm] 32)).heap.size = w.heap.size + 1 by simp] at ko
  have hmk := make_ints m.2.2.length (by omega)
  have al := below_al (Below.refl ((w.alloc (.cells #[.string m.1, .bool m.2.1, .slice Am m.2.2.length cm] 32)).alloc (.cells #[.string ⟨#[]⟩, .bool false, .slice none 0 0] 32)).heap.size ((w.alloc (.cells #[.string m.1, .bool m.2.1, .slice Am m.2.2.length cm] 32)).alloc (.cells #[.string ⟨#[]⟩, .bool false, .slice none 0 0] 32))) (.cells (madeCells #[.int .i64 0] m.2.2.length) 3)
  have bb1 := Below.next bb0 al
  have hr1 := (hrow.below bb0 (Nat.le_refl _)).below al (by have := bb0.size; omega)
  have hh : (((w.alloc (.cells #[.string m.1, .bool m.2.1, .slice Am m.2.2.length cm] 32)).alloc (.cells #[.string ⟨#[]⟩, .bool false, .slice none 0 0] 32)).alloc (.cells (madeCells #[.int .i64 0] m.2.2.length) 3)).heap[w.heap.size + 1 + 1]? = some (.cells (madeCells #[.int .i64 0] m.2.2.length).toList.toArray 3 (0, 0)) := by rw [← hz0]; exact heap_alloc_new _ _
  have km1 := km.below al
  have ko1 := ko.below al
  have hsz : (Tryd.prog.info? 3).map (·.size) = some 1 := by kernel_rfl
  have hlen : (intsV m.2.2).length = m.2.2.length := intsV_length _
  have hmlen : (madeCells #[Value.int .i64 0] m.2.2.length).toList.length = m.2.2.length := by rw [Array.length_toList, size_madeCells]
  have hpos : 0 < (intsV m.2.2).length → (some ⟨w.heap.size + 1 + 1, 0, none⟩ : Option Addr) = some ⟨w.heap.size + 1 + 1, 0, none⟩ ∧ ∃ ad, Am = some ad ∧ ∀ j v, (intsV m.2.2)[j]? = some v → (((w.alloc (.cells #[.string m.1, .bool m.2.1, .slice Am m.2.2.length cm] 32)).alloc (.cells #[.string ⟨#[]⟩, .bool false, .slice none 0 0] 32)).alloc (.cells (madeCells #[.int .i64 0] m.2.2.length) 3)).cell? (ad.add j) = some v := by
    intro h0
    obtain ⟨A', c', e, hA⟩ := hr1
    injection e with e1 _ _
    subst e1
    obtain ⟨ad, rfl, _, _, _⟩ := hA 0 _ (List.getElem?_eq_getElem h0)
    exact ⟨rfl, ad, rfl, fun j v hj => by obtain ⟨a2, e2, _, _, h⟩ := hA j v hj; cases e2; exact h⟩
  have hone : ∀ v ∈ intsV m.2.2, v.oneCell' = true := fun v hv => by obtain ⟨i, _, rfl⟩ := List.mem_map.1 hv; rfl
  have hfit : 0 + (intsV m.2.2).length ≤ (madeCells #[Value.int .i64 0] m.2.2.length).toList.length := by rw [hlen, hmlen]; omega
  have hmin : (intsV m.2.2).length = Nat.min m.2.2.length m.2.2.length := by rw [hlen]; exact (Nat.min_self _).symm
  have HSP := Lib.hid (show splice (madeCells #[Value.int .i64 0] m.2.2.length).toList 0 (intsV m.2.2) = intsV m.2.2 by unfold splice; rw [List.take_zero, List.nil_append, List.drop_of_length_le (by rw [hlen, hmlen]; omega), List.append_nil])
  have km_c2 := km.here.cell 2 _ rfl
  have kn_c2 := km1.here.cell 2 _ rfl
  have HKM := Lib.hid km1
  have HKO := Lib.hid ko1
  have HAL := Lib.hid al
  clear km1 ko1 km ko al hlen hmlen hr1 hrow
  go_enter Tryd.func70, Tryd.ntmps70
  go_wp2_with (with_reducible refine wpList_copy_splice rfl (.tmp 9) (.tmp 12) 23 23 rfl 3 Tryd.underlying23 hsz (some ⟨w.heap.size + 1 + 1, 0, none⟩) Am m.2.2.length m.2.2.length m.2.2.length cm rfl rfl (w.heap.size + 1 + 1) 0 (madeCells #[Value.int .i64 0] m.2.2.length).toList 3 hh (intsV m.2.2) hmin hpos hfit hone (w.heap.size + 1 + 1) (((w.alloc (.cells #[.string m.1, .bool m.2.1, .slice Am m.2.2.length cm] 32)).alloc (.cells #[.string ⟨#[]⟩, .bool false, .slice none 0 0] 32)).alloc (.cells (madeCells #[.int .i64 0] m.2.2.length) 3)) (Below.refl _ _) (Nat.le_refl _) ?_)
  intro w2 HG hB2
  have hz1 : (((w.alloc (.cells #[.string m.1, .bool m.2.1, .slice Am m.2.2.length cm] 32)).alloc (.cells #[.string ⟨#[]⟩, .bool false, .slice none 0 0] 32)).alloc (.cells (madeCells #[.int .i64 0] m.2.2.length) 3)).heap.size = w.heap.size + 1 + 1 + 1 := by simp
  have hch : Chg [w.heap.size + 1 + 1] (((w.alloc (.cells #[.string m.1, .bool m.2.1, .slice Am m.2.2.length cm] 32)).alloc (.cells #[.string ⟨#[]⟩, .bool false, .slice none 0 0] 32)).alloc (.cells (madeCells #[.int .i64 0] m.2.2.length) 3)) w2 := ⟨hB2.os, hB2.tape, hB2.output, hB2.size, fun i hi hn => hB2.block i (by rw [hz1] at hi; simp at hn; omega)⟩
  have hg2 := HG.out
  rw [HSP.out] at hg2
  have hlen : (intsV m.2.2).length = m.2.2.length := intsV_length _
  have bb2 : Below w.heap.size w w2 := below_chg bb1 hch bb1.size (fun i hi => by simp at hi; omega)
  have km2 := HKM.out.chg hch (fun i hi hm => by simp at hi hm; omega)
  have ko2 := HKO.out.chg hch (fun i hi hm => by simp at hi hm; omega)
  have hown : w2.ownsRow (w.heap.size + 1 + 1) 3 1 (.slice (some ⟨w.heap.size + 1 + 1, 0, none⟩) m.2.2.length m.2.2.length) m.2.2.length (intsV m.2.2) :=
    ⟨by rw [hlen, Nat.mul_one], .inr ⟨w.heap.size + 1 + 1, m.2.2.length, (intsV m.2.2).toArray, rfl, Nat.le_refl _, hg2, Nat.le_refl _, by unfold maxLen; omega, by rw [List.size_toArray, hlen, Nat.mul_one], by rw [Nat.mul_one]; show (intsV m.2.2).take m.2.2.length = _; exact List.take_of_length_le (by rw [hlen]; exact Nat.le_refl _)⟩⟩
  have HW := Lib.hid (newV_chgM (φ := fun v => OwnM v m) (v := .agg #[.string m.1, .bool m.2.1, .slice (some ⟨w.heap.size + 1 + 1, 0, none⟩) m.2.2.length m.2.2.length]) (T := [w.heap.size + 1]) ((own_at' hown).imp fun _ h => (OwnM.mk h : OwnM _ m _)) (fun i hi hm => by have := own_within hown i hi; simp at hm; omega) (fun i hi => by simp at hi; omega) (fun i hi => by have := own_within hown i hi; omega) bb2)
  have cm0 := km2.here.cell 0 _ rfl
  have cm1 := km2.here.cell 1 _ rfl
  have cz0 := ko2.here.cell 0 _ rfl
  have cz1 := ko2.here.cell 1 _ rfl
  have cz2 := ko2.here.cell 2 _ rfl
  have fz0 := Lib.frozen_of_heap ko2.here 0
  have fz1 := Lib.frozen_of_heap ko2.here 1
  have fz2 := Lib.frozen_of_heap ko2.here 2
  clear HG hB2 hch hg2 bb2 km2 ko2 hown hh hpos hone hfit hmin HSP HKM HKO HAL km_c2 kn_c2 bb0 bb1 hz0 hz1 hmk
  go_wp2
  refine bodyPost_ret (v := .agg #[.string m.1, .bool m.2.1, .slice (some ⟨w.heap.size + 1 + 1, 0, none⟩) m.2.2.length m.2.2.length]) (by simp [results, Tryd.results70, go_sem, cz0, cz1, cz2]) rfl ?_
  refine HW.out _ ?_
  repeat (first | exact Chg.refl _ _ | refine Chg.setCell ?_ (by simp) _)
theorem postn_eqM {a b : Int} (h : a = b) {w w' : World} {e : Ending} (k : e = .returned (.int .i64 a) ∧ Below w.heap.size w w') : Postn b w e w' := by rw [← h]; exact k
set_option maxHeartbeats 4000000 in
set_option maxRecDepth 100000 in
theorem implMoneyNeg_any (va : Value) (a : MI) (w : World) (hla : a.2.2.length ≤ 1048576) (ha : OwnM va a w) (ht : CurTab w) :
    Calls Tryd.prog 32 #[va] w (PostMb (negM a).1 (negM a).2 w) := by
  have Ha := Lib.hid ha
  obtain ⟨Aa, ca, rfl⟩ := ownM_form ha
  have OMa := Lib.hid (show ∀ W, Below w.heap.size w W → OwnM (.agg #[.string a.1, .bool a.2.1, .slice Aa a.2.2.length ca]) a W from fun W hb => OwnM.below Ha.out hb)
  have OIa := Lib.hid (show ∀ W, Below w.heap.size w W → OwnI (.slice Aa a.2.2.length ca) a.2.2 W from fun W hb => ownM_open (OMa.out W hb))
  have OSa := Lib.hid (show ∀ W, Below w.heap.size w W → OwnS (.agg #[.bool a.2.1, .slice Aa a.2.2.length ca]) a.2 W from fun W hb => OwnS.mk (OIa.out W hb))
  clear ha
  have HT := Lib.hid ht
  clear ht
  have bb0 : Below w.heap.size w ((w.alloc (.cells #[.string a.1, .bool a.2.1, .slice Aa a.2.2.length ca] 32)).alloc (.cells #[.string ⟨#[]⟩, .bool false, .slice none 0 0] 32)) := below_al (below_al (Below.refl _ _) _) _
  have ka := (box_new w #[.string a.1, .bool a.2.1, .slice Aa a.2.2.length ca] 32).below (below_al (Below.refl _ _) (.cells #[.string ⟨#[]⟩, .bool false, .slice none 0 0] 32))
  have ko := (box_new (w.alloc (.cells #[.string a.1, .bool a.2.1, .slice Aa a.2.2.length ca] 32)) #[.string ⟨#[]⟩, .bool false, .slice none 0 0] 32)
  rw [show (w.alloc (.cells #[.string a.1, .bool a.2.1, .slice Aa a.2.2.length ca] 32)).heap.size = w.heap.size + 1 by simp] at ko
  have HKO := Lib.hid (ko.lt (w.heap.size + 1) (by simp))
  go_enter Tryd.func32, Tryd.ntmps32
  have ka_c0 := ka.here.cell 0 _ rfl
  have ka_c1 := ka.here.cell 1 _ rfl
  have ka_c2 := ka.here.cell 2 _ rfl
  go_wp2_with fail
  clear ka_c0 ka_c1 ka_c2
  refine (implMoneyOk_any _ a _ hla (OMa.out _ bb0) (HT.out.below bb0)).mono ?_
  rintro e w1 ⟨rfl, b1⟩
  have bb1 := Below.next bb0 b1
  replace ka := ka.below b1
  replace ko := ko.below b1
  by_cases ok : okM a = true
  · rw [ok]
    obtain ⟨sg, hsg⟩ : ∃ s, cmpS a.2 zeroS = s := ⟨_, rfl⟩
    have HV := Lib.hid (show negM a = ((a.1, (decide (0 < sg), a.2.2)), true) by rw [negM_good ok, hsg])
    have ESG := Lib.hid hsg
    clear ok hsg
    have ka_c0 := ka.here.cell 0 _ rfl
    have ka_c1 := ka.here.cell 1 _ rfl
    have ka_c2 := ka.here.cell 2 _ rfl
    go_wp2_with fail
    clear ka_c0 ka_c1 ka_c2
    refine (copyMoney_any _ a _ hla (OMa.out _ bb1)).mono ?_
    rintro e w2 ⟨uc, Sc, rfl, oc, lc, b2⟩
    obtain ⟨Ac, cc, rfl⟩ := ownM_form oc.here
    have bb2 := Below.next bb1 b2
    replace ka := ka.below b2
    replace ko := ko.below b2
    have kc := box_new (w2) #[.string a.1, .bool a.2.1, .slice Ac a.2.2.length cc] 32
    have alc := below_al (Below.refl (w2).heap.size (w2)) (.cells #[.string a.1, .bool a.2.1, .slice Ac a.2.2.length cc] 32)
    have bbc := Below.next bb2 alc
    replace ka := ka.below alc
    replace ko := ko.below alc
    replace oc := oc.below alc
    have HKC := Lib.hid (kc.lt w2.heap.size (by simp))
    have ka_c0 := ka.here.cell 0 _ rfl
    have ka_c1 := ka.here.cell 1 _ rfl
    have ka_c2 := ka.here.cell 2 _ rfl
    go_wp2_with fail
    clear ka_c0 ka_c1 ka_c2
    refine ((implIntSign_any _ a.2 _ hla (OSa.out _ bbc)).mono fun _ _ h => postn_eqM ESG.out h).mono ?_
    rintro e w3 ⟨rfl, b3⟩
    have bb3 := Below.next bbc b3
    replace ka := ka.below b3
    replace ko := ko.below b3
    replace oc := oc.below b3
    replace kc := kc.below b3
    have hcz : Chg [w2.heap.size] w3 (w3.setCell ⟨w2.heap.size, 1, none⟩ (.bool (decide (0 < sg)))) := (Chg.refl _ _).setCell (by simp) _
    have oc2 := (oc.chg hcz (fun i hi hm => by have := (lc i hi).2; simp at hm; omega)).imp (fun _ h => (show OwnM (.agg #[.string a.1, .bool (decide (0 < sg)), .slice Ac a.2.2.length cc]) (a.1, (decide (0 < sg), a.2.2)) _ from by have h2 := ownM_open h; exact OwnM.mk (q := (a.1, (decide (0 < sg), a.2.2))) h2))
    have hW2 := below_chg bb3 hcz bb3.size (fun i hi => by have := b1.size; have := HKO.out; simp at hi this; subst hi; have := b1.size; have := b2.size; simp at *; omega)
    have HW := Lib.hid (newMb_at (r := w.heap.size + 1) (b := true) (B := w.heap.size + 2) oc2 (fun i hi => ⟨by have := (lc i hi).1; have := b1.size; simp at *; omega, oc2.lt i hi⟩) (by omega) (by omega) hW2)
    have cz0 := ko.here.cell 0 _ rfl
    have fz0 := Lib.frozen_of_heap ko.here 0
    have cz1 := ko.here.cell 1 _ rfl
    have fz1 := Lib.frozen_of_heap ko.here 1
    have cz2 := ko.here.cell 2 _ rfl
    have fz2 := Lib.frozen_of_heap ko.here 2
    have cc0 := kc.here.cell 0 _ rfl
    have fc0 := Lib.frozen_of_heap kc.here 0
    have cc1 := kc.here.cell 1 _ rfl
    have fc1 := Lib.frozen_of_heap kc.here 1
    have cc2 := kc.here.cell 2 _ rfl
    have fc2 := Lib.frozen_of_heap kc.here 2
    have hn1 : ¬ w2.heap.size = w.heap.size + 1 := by have := b1.size; have := b2.size; simp at *; omega
    have hn2 : ¬ w.heap.size + 1 = w2.heap.size := fun e => hn1 e.symm
    clear oc oc2 hW2 hcz ko kc ka lc
    go_wp2
    refine bodyPost_ret (v := .tuple #[.agg #[.string a.1, .bool (decide (0 < sg)), .slice Ac a.2.2.length cc], .bool true]) (by simp [results, Tryd.results32, go_sem, cz0, cz1, cz2]) rfl ?_
    rw [HV.out]
    exact HW.out
  · have ok' : okM a = false := by simpa using ok
    have HV := Lib.hid (show negM a = (zeroM, false) from negM_bad ok)
    rw [ok']
    clear ok ok'
    have cz0 := ko.here.cell 0 _ rfl
    have fz0 := Lib.frozen_of_heap ko.here 0
    have cz1 := ko.here.cell 1 _ rfl
    have fz1 := Lib.frozen_of_heap ko.here 1
    have cz2 := ko.here.cell 2 _ rfl
    have fz2 := Lib.frozen_of_heap ko.here 2
    go_wp2
    refine bodyPost_ret (v := .tuple #[.agg #[.string ⟨#[]⟩, .bool false, .slice none 0 0], .bool false]) (by simp [results, Tryd.results32, go_sem, cz0, cz1, cz2]) rfl ?_
    rw [HV.out]
    first | exact newMb_zero _ bb1 | exact newMb_zero _ (below_set3 bb1 (by omega))
end Go.Proofs.YtcenmdiblbooeaaDoor

namespace Go.Proofs.YtcenmdiblbooeaaDoor
open Go.RowKit

/-- the decimal digits of k ahead of acc, at most f of them -/
def digGo : Nat → Nat → List UInt8 → List UInt8
  | 0, _, acc => acc
  | f + 1, k, acc => if k = 0 then acc else digGo f (k / 10) ((48 + UInt8.ofNat (k % 10)) :: acc)
def markB (k : Int) : ByteArray := if k ≤ 0 then ⟨#[109, 48]⟩ else ⟨(109 :: digGo 19 k.toNat []).toArray⟩

theorem digGo_step {f m : Nat} {acc : List UInt8} {D : List UInt8} (h : digGo f m acc = D ∧ m < 10 ^ f) (hm : 0 < m) : ∃ g, f = g + 1 ∧ digGo g (m / 10) ((48 + UInt8.ofNat (m % 10)) :: acc) = D ∧ m / 10 < 10 ^ g := by
  cases f with
  | zero => have := h.2; simp at this; omega
  | succ g =>
    refine ⟨g, rfl, ?_, ?_⟩
    · rw [← h.1, digGo, if_neg (by omega)]
    · have := h.2; rw [Nat.pow_succ] at this; omega
theorem digGo_zero (f : Nat) (acc : List UInt8) : digGo f 0 acc = acc := by cases f <;> simp [digGo]
theorem push_one (c : UInt8) (acc : List UInt8) : (⟨#[c]⟩ : ByteArray) ++ ⟨acc.toArray⟩ = ⟨(c :: acc).toArray⟩ := by
  apply ByteArray.ext
  simp
theorem mark_done {n m f : Nat} {acc : List UInt8} (h0 : 0 < (n : Int)) (hz : ¬ 0 < m) (h : digGo f m acc = digGo 19 n [] ∧ m < 10 ^ f) : (⟨#[109]⟩ : ByteArray) ++ ⟨acc.toArray⟩ = markB n := by
  obtain rfl : m = 0 := by omega
  rw [markB, if_neg (by omega), push_one, Int.toNat_natCast, ← h.1, digGo_zero]

/-- string([]byte{c}) -/
theorem conv_byte (W : World) (c : Int) : (convert 114 9 (.slice (some ⟨W.heap.size, 0, none⟩) 1 1)).run Tryd.prog (W.alloc (.cells #[.int .u8 c] 5)) = .ok (.string ⟨#[UInt8.ofNat c.toNat]⟩) (W.alloc (.cells #[.int .u8 c] 5)) := by
  rw [run_convert_bytes_string _ 114 9 5 _ _ _ Tryd.underlying114 Tryd.underlying5 Tryd.underlying9]
  rw [run_bytesToString _ _ 1 1 [c] ?_]
  · rfl
  · simp [loadCells, go_sem]

set_option maxHeartbeats 400000 in
set_option maxRecDepth 100000 in
theorem markText_any (k : Int) (w : World) (hk : k ≤ 9223372036854775807) :
    Calls Tryd.prog 83 #[.int .i64 k] w fun e w' => e = .returned (.string (markB k)) ∧ Below w.heap.size w w' := by
  by_cases h0 : k ≤ 0
  · go_enter Tryd.func83, Tryd.ntmps83
    go_wp2
    go_ret
    exact ⟨ret_str (by rw [markB, if_pos h0]), Below.refl _ _⟩
  · obtain ⟨n, rfl⟩ := Int.eq_ofNat_of_zero_le (show 0 ≤ k by omega)
    have hcv := conv_byte
    go_enter Tryd.func83, Tryd.ntmps83
    go_wp2
    go_loopw [0, 3] (fun a o wr => ∃ (m f : Nat) (acc : List UInt8), m ≤ 9223372036854775807 ∧ acc.length + f ≤ 19 ∧ a = .int .i64 m ∧ o = .string ⟨acc.toArray⟩ ∧ Hid (digGo f m acc = digGo 19 n [] ∧ m < 10 ^ f) ∧ Below w.heap.size w wr) (fun a _ _ => (intOf a).toNat)
    case atStart => exact ⟨n, 19, [], by omega, by simp, rfl, rfl, Lib.hid ⟨rfl, by omega⟩, Below.refl _ _⟩
    case round =>
      obtain ⟨m, f, acc, hm, hf, rfl, rfl, HD, hb⟩ := hrel
      by_cases hz : 0 < m
      · obtain ⟨g, rfl, h1, h2⟩ := digGo_step HD.out hz
        have H1 := Lib.hid (And.intro h1 h2)
        clear h1 h2 HD
        go_wp2
        go_roundw
        case rel => exact ⟨m / 10, g, _, by omega, by simp; omega, by go_num, by rw [push_one], H1, hb.alloc hb.size _⟩
        case measure => simp [intOf]; omega
      · go_wp2
        go_ret
        exact ⟨ret_str (mark_done (by omega) hz HD.out), hb⟩
end Go.Proofs.YtcenmdiblbooeaaDoor
