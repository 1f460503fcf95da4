/-
  Chapter 5, signed numbers and their texts, in both packages.
  Comparing: a number with itself, and two numbers turned round.
  Plain facts: a short signed number is read back from its text.
  Texts of decimal numbers: what DecText writes, what TextDec reads, and that each undoes the other.
  Texts of decimal numbers as package impl reads them: cut at the minus and at the point, the noughts ahead trimmed off.
  Chapter 5 of package spec: sums of signed numbers.
  Chapter 5 of package spec: IntNum, IntCmp, IntSign.
  Chapter 8 of package spec: what its functions return that need no fractions.
  A limb of a nat, or 0 beyond its ends.
  What NatTen of package impl returns.
  Chapter 5 of package impl: products, sums and differences.
  Chapter 5 of package impl: sums and differences.
  Chapter 5 of package impl: the number of a signed one, its order and its sign.
  Chapter 8 of package impl: what its functions return that need no fractions.
  strings.Cut at a point, strings.TrimLeft of noughts.
-/
import Derived.Lib.IndexLaws
import Derived.Lib.TrimByte
import Derived.Deep.RegionHeld3
import Derived.Deep.DeepCutAuto
import Derived.Deep.Cut
import Derived.Deep.CutBlock
import Derived.Test.YthfkdofnoomhaaaDoorJE4
namespace Go.Proofs.YthfkdofnoomhaaaDoor
open Go.RowKit

/-- the text of a signed number -/
def intStrB (x : SI) : ByteArray := if okS x = true then (if x.1 = true then ⟨#[45]⟩ ++ natTextB x.2 else natTextB x.2) else ⟨#[]⟩
/-- the number that a text is read as, and whether it is one -/
def siR (s : ByteArray) : SI := if decOk (bareB s) = true ∧ ¬ (negB s = true ∧ (tnR (bareB s)).length = 0) then (negB s, tnR (bareB s)) else zeroS
def siB (s : ByteArray) : Bool := decide (decOk (bareB s) = true ∧ ¬ (negB s = true ∧ (tnR (bareB s)).length = 0))
theorem tnR_ok {s : ByteArray} (h : decOk s = true) : natOkB (tnR s) = true := by
  have hd : digitsB s = true := by
    by_cases hd : digitsB s = true
    · exact hd
    · rw [decOk_dig s (by simpa using hd)] at h; exact absurd h (by decide)
  have h4 : s.size ≤ 450 := by
    by_cases h4 : s.size ≤ 450
    · exact h4
    · rw [decOk_long s h4] at h; exact absurd h (by decide)
  unfold tnR
  rw [if_pos h]
  exact limbs_okL _ (read_len s ((digitsB_iff s).1 hd).1 h4)
theorem tnR_bad {s : ByteArray} (h : ¬ decOk s = true) : tnR s = [] := by unfold tnR; rw [if_neg h]
theorem bareB_le (s : ByteArray) : (bareB s).size ≤ s.size := by
  cases h : negB s with
  | true => rw [← bareB_tail s h, ByteArray.size_extract]; omega
  | false => rw [bareB_self s h]; exact Nat.le_refl _
/-- a new signed number, and a bool -/
def NewSb (x : SI) (b : Bool) (w : World) (e : Ending) (w' : World) : Prop := ∃ u, e = .returned (.tuple #[.agg #[.bool x.1, u], .bool b]) ∧ w'.ownsRow w.heap.size 3 1 u x.2.length (intsV x.2) ∧ Below w.heap.size w w'
theorem newSb_ret {r : Nat} {u c0 c1 : Value} {x : SI} {b : Bool} {w W : World} {B : Nat} (hb : BoxAt r #[c0, c1] 28 W) (o : W.ownsRow B 3 1 u x.2.length (intsV x.2)) (hB : w.heap.size ≤ B) (hr : w.heap.size ≤ r) (hW : Below w.heap.size w W) :
    NewSb x b w (.returned (.tuple #[.agg #[.bool x.1, u], .bool b])) ((W.setCell ⟨r, 0, none⟩ (.bool x.1)).setCell ⟨r, 1, none⟩ u) := by
  have hne := Lib.ownBlock_ne o hb (by decide)
  refine ⟨u, rfl, own_low (own_stays o fun i hi => ?_) hB, below_set2 hW hr⟩
  have : i ≠ r := fun e => hne (by rw [hi, e])
  exact (Below.heap_setCell _ _ _ _ this).trans (Below.heap_setCell _ _ _ _ this)
theorem newSb_zero {b : Bool} {w W : World} (hW : Below w.heap.size w W) : NewSb zeroS b w (.returned (.tuple #[.agg #[.bool false, .slice none 0 0], .bool b])) W := ⟨_, rfl, World.ownsRow_nil _ _ _ _, hW⟩

set_option maxHeartbeats 1000000 in
set_option maxRecDepth 100000 in
theorem implIntStr_any (v : Value) (x : SI) (w : World) (hl : x.2.length ≤ 1048576) (h : RdS w v x) (ht : Tab w) :
    Calls Tryd.prog 63 #[v] w fun e w' => e = .returned (.string (intStrB x)) ∧ Below w.heap.size w w' := by
  obtain ⟨u, rfl, hp⟩ := h
  obtain ⟨A, c, rfl⟩ := row_form hp
  rw [intsV_length] at hp
  rw [intsV_length]
  have hbx : Below w.heap.size w (w.alloc (.cells #[.bool x.1, .slice A x.2.length c] 28)) := below_al (Below.refl _ _) _
  have kb := box_new w #[.bool x.1, .slice A x.2.length c] 28
  have hrd := rdS_below hp hbx
  by_cases okx : okS x = true
  · have HV := Lib.hid (show intStrB x = if x.1 = true then ⟨#[45]⟩ ++ natTextB x.2 else natTextB x.2 by unfold intStrB; rw [if_pos okx])
    have hts := natTextB_size x.2
    go_enter Tryd.func63, Tryd.ntmps63
    go_wp2_with fail
    refine (implIntOk_any _ x _ hl hrd).mono ?_
    rintro e w1 ⟨rfl, b1⟩
    rw [okx]
    have bb1 := Below.next hbx b1
    replace kb := kb.below b1
    have hrow : Row w1 0 w.heap.size (.slice A x.2.length c) (intsV x.2) := hp.below bb1 (Nat.le_refl _)
    have hsz := bb1.size
    have cb0 := kb.here.cell 0 _ rfl
    have cb1 := kb.here.cell 1 _ rfl
    clear hrd okx hp
    cases hn : x.1 with
    | true =>
      rw [hn] at cb0 HV
      clear hn
      go_wp2_with fail
      refine (implNatText_any _ x.2 0 w.heap.size _ hl hsz hrow (ht.below bb1)).mono ?_
      rintro e w2 ⟨rfl, b2⟩
      have bb2 := Below.next bb1 b2
      generalize natTextB x.2 = t at *
      clear hrow
      go_wp2
      go_ret
      exact ⟨ret_str (by rw [HV.out]; rfl), bb2⟩
    | false =>
      rw [hn] at cb0 HV
      clear hn
      go_wp2_with fail
      refine (implNatText_any _ x.2 0 w.heap.size _ hl hsz hrow (ht.below bb1)).mono ?_
      rintro e w2 ⟨rfl, b2⟩
      have bb2 := Below.next bb1 b2
      generalize natTextB x.2 = t at *
      clear hrow
      go_wp2
      go_ret
      exact ⟨ret_str (by rw [HV.out]; rfl), bb2⟩
  · have okx' : okS x = false := by simpa using okx
    have HV := Lib.hid (show intStrB x = ⟨#[]⟩ by unfold intStrB; rw [if_neg okx])
    clear okx
    go_enter Tryd.func63, Tryd.ntmps63
    go_wp2_with fail
    refine (implIntOk_any _ x _ hl hrd).mono ?_
    rintro e w1 ⟨rfl, b1⟩
    rw [okx']
    have bb1 := Below.next hbx b1
    clear kb hrd
    go_wp2
    go_ret
    exact ⟨ret_str HV.out.symm, bb1⟩


end Go.Proofs.YthfkdofnoomhaaaDoor

namespace Go.Proofs.YthfkdofnoomhaaaDoor
open Go.RowKit

theorem cmpI_self (X : Int) : cmpI X X = 0 := by unfold cmpI; rw [if_neg (by omega), if_neg (by omega)]
theorem cmpI_turn (X Y : Int) : cmpI X Y = -cmpI Y X := by unfold cmpI; split <;> split <;> (try split) <;> (try split) <;> omega
end Go.Proofs.YthfkdofnoomhaaaDoor

namespace Go.Proofs.YthfkdofnoomhaaaDoor
open Go.RowKit

theorem cmpI_range (X Y : Int) : -1 ≤ cmpI X Y ∧ cmpI X Y ≤ 1 := by unfold cmpI; split <;> (try split) <;> omega
theorem text_backI {X : Nat} (hx : (X : Int) < bp 5) : decOk (natTextB (limbs X)) = true ∧ tnR (natTextB (limbs X)) = limbs X ∧ digitsB (natTextB (limbs X)) = true := by
  have h5 : (limbs X).length ≤ 5 := limbs_length_le X 5 hx
  have e : (natTextB (limbs X)).data.toList = Lib.decDigits X := natText_limbs X (by omega)
  have hd := dig_dec X
  have hdig : digitsB (natTextB (limbs X)) = true := by rw [digitsB_iff, e]; exact hd
  have hsz : (natTextB (limbs X)).size ≤ 450 := by
    have h1 : natTextB (limbs X) = natT (limbs X) := by unfold natTextB; rw [if_pos (limbs_okL X (by omega))]
    rw [h1]
    have := natT_size (limbs X) (limbs_digN X)
    omega
  have hok : decOk (natTextB (limbs X)) = true := by
    rw [← read_text _ hdig hsz, e, valL_dec, Int.toNat_natCast]
  refine ⟨hok, ?_, hdig⟩
  unfold tnR
  rw [if_pos hok, e, valL_dec, Int.toNat_natCast]
theorem neg_of_digits {t : ByteArray} (h : digitsB t = true) : negB t = false := by
  have h2 := (digitsB_iff t).1 h
  unfold negB
  rw [decide_eq_false_iff_not]
  intro e
  cases hl : t.data.toList with
  | nil => exact h2.2 hl
  | cons c r =>
    rw [hl] at e
    have := h2.1 c (by rw [hl]; exact List.mem_cons_self ..)
    simp at e
    subst e
    revert this
    decide
theorem minus_bare (t : ByteArray) : negB (⟨#[45]⟩ ++ t) = true ∧ bareB (⟨#[45]⟩ ++ t) = t := by
  have e : ((⟨#[45]⟩ : ByteArray) ++ t).data.toList = 45 :: t.data.toList := by simp
  constructor
  · unfold negB; rw [e]; rfl
  · apply WideShapes.bytes_inj
    rw [bareB_data, e]
    rfl
/-- a short right number is read back from its text -/
theorem str_back {x : SI} (h : okS x = true) (hl : x.2.length ≤ 4) : siR (intStrB x) = x ∧ siB (intStrB x) = true := by
  have hp := okS_parts h
  have hx := natOk_limbs hp.1
  have h1 := nval_lt x.2 (natOk_parts hp.1).1
  have h0 := nval_ok hp.1
  have h2 := bp_mono (show x.2.length ≤ 5 by omega)
  have ht := text_backI (X := (nval x.2).toNat) (by omega)
  rw [← hx] at ht
  have hc : ¬ (x.1 = true ∧ x.2.length = 0) := fun hh => by have := hp.2 hh.1; omega
  have both : negB (intStrB x) = x.1 ∧ bareB (intStrB x) = natTextB x.2 := by
    unfold intStrB
    rw [if_pos h]
    cases hn : x.1 with
    | true => rw [if_pos rfl]; exact minus_bare _
    | false => rw [if_neg (by decide)]; exact ⟨neg_of_digits ht.2.2, bareB_self _ (neg_of_digits ht.2.2)⟩
  unfold siR siB
  rw [both.1, both.2, ht.2.1, if_pos ⟨ht.1, hc⟩]
  exact ⟨rfl, decide_eq_true ⟨ht.1, hc⟩⟩
end Go.Proofs.YthfkdofnoomhaaaDoor

namespace Go.Proofs.YthfkdofnoomhaaaDoor
open Go.RowKit

/-- a point ahead of the last k digits -/
def pointB (s : ByteArray) (k : Int) : ByteArray := if 0 < k then s.extract 0 (s.size - k.toNat) ++ ⟨#[46]⟩ ++ s.extract (s.size - k.toNat) s.size else s
/-- the digits, at least one ahead of the point -/
def bodyD (d : DI) : ByteArray := padB (natTextB d.1.2) (d.2 + 1)
/-- DecText -/
def textD (d : DI) : ByteArray := if okD d = true then (if d.1.1 = true then (⟨#[45]⟩ : ByteArray) ++ pointB (bodyD d) d.2 else pointB (bodyD d) d.2) else ⟨#[]⟩
/-- the bytes that are neither a point nor a minus -/
def rawL (l : List UInt8) : List UInt8 := l.filter fun c => c != 46 && c != 45
/-- how many bytes stand behind the last point -/
def scaleF (l : List UInt8) : Nat → Int
  | 0 => 0
  | k + 1 => if l.getD k 0 = 46 then (l.length : Int) - 1 - k else scaleF l k
/-- noughts ahead are left out, as long as a digit stays -/
def stripL : List UInt8 → List UInt8
  | c :: e :: r => if c = 48 then stripL (e :: r) else c :: e :: r
  | l => l
def rawB (s : ByteArray) : ByteArray := ⟨(stripL (rawL s.data.toList)).toArray⟩
def scaleB (s : ByteArray) : Int := scaleF s.data.toList s.size
/-- what a text is read as -/
def parseD (s : ByteArray) : DI := ((decide (s.data.toList.headD 0 = 45), tnR (rawB s)), scaleB s)
def readD (s : ByteArray) : Bool := decOk (rawB s) && (okD (parseD s) && decide (textD (parseD s) = s))
/-- TextDec -/
def trD (s : ByteArray) : DI × Bool := if readD s = true then (parseD s, true) else (zeroD, false)

theorem listB {s t : ByteArray} (h : s.data.toList = t.data.toList) : s = t := by
  cases s with
  | mk a => cases t with
    | mk b => exact congrArg ByteArray.mk (Array.toList_inj.1 h)
theorem listB_len (s : ByteArray) : s.data.toList.length = s.size := rfl
theorem pad_list (s : ByteArray) (n : Int) : (padB s n).data.toList = List.replicate (n.toNat - s.size) 48 ++ s.data.toList := rfl
theorem point_list (s : ByteArray) (k : Int) : (pointB s k).data.toList = if 0 < k then s.data.toList.take (s.size - k.toNat) ++ 46 :: s.data.toList.drop (s.size - k.toNat) else s.data.toList := by
  unfold pointB
  split
  · rw [ByteArray.data_append, ByteArray.data_append, Array.toList_append, Array.toList_append, extract_listD, extract_listD, List.drop_zero, List.take_of_length_le (Nat.le_of_eq (listB_len s))]
    show s.data.toList.take _ ++ [46] ++ _ = _
    rw [List.append_assoc]
    rfl
  · rfl
/-- the digits of a right number -/
structure BodyD (d : DI) (n m : Nat) : Prop where
  mag : d.1.2 = limbs n
  digits : (natTextB d.1.2).data.toList = Lib.decDigits n
  list : (bodyD d).data.toList = List.replicate m 48 ++ Lib.decDigits n
  dig : DigL (bodyD d).data.toList
  long : d.2.toNat < (bodyD d).size
  size : (bodyD d).size ≤ 100
  short : (natTextB d.1.2).size ≤ 61
theorem body_of {d : DI} (h : okD d = true) : ∃ n m, BodyD d n m := by
  have p := partsD h
  have hp := okS_parts p.ok
  have e : d.1.2 = limbs (nval d.1.2).toNat := natOk_limbs hp.1
  have hl := p.len
  have ed : (natTextB d.1.2).data.toList = Lib.decDigits (nval d.1.2).toNat := by
    rw [e, limbs_val, Int.toNat_natCast]
    exact natText_limbs _ (by rw [← e]; omega)
  have hs : (natTextB d.1.2).size ≤ 61 := by
    unfold natTextB
    rw [if_pos hp.1]
    have := natT_size d.1.2 (natOk_parts hp.1).1
    omega
  have hlist : (bodyD d).data.toList = List.replicate ((d.2 + 1).toNat - (natTextB d.1.2).size) 48 ++ Lib.decDigits (nval d.1.2).toNat := by
    unfold bodyD
    rw [pad_list, ed]
  have hsz : (bodyD d).size = (d.2 + 1).toNat - (natTextB d.1.2).size + (natTextB d.1.2).size := by
    unfold bodyD
    rw [← listB_len, pad_list, List.length_append, List.length_replicate, listB_len]
  have hlo := p.lo
  have hhi := p.hi
  refine ⟨(nval d.1.2).toNat, _, e, ed, hlist, ?_, by omega, by omega, hs⟩
  rw [hlist]
  intro c hc
  rcases List.mem_append.1 hc with hc | hc
  · rw [(List.mem_replicate.1 hc).2]; decide
  · exact (dig_dec _).1 c hc
theorem raw_dig {l : List UInt8} (h : DigL l) : rawL l = l := by
  refine List.filter_eq_self.2 fun c hc => ?_
  have := h c hc
  rw [Bool.and_eq_true, bne_iff_ne, bne_iff_ne]
  refine ⟨fun e => ?_, fun e => ?_⟩
  · subst e; exact absurd this.1 (by decide)
  · subst e; exact absurd this.1 (by decide)
theorem raw_app (a b : List UInt8) : rawL (a ++ b) = rawL a ++ rawL b := List.filter_append ..
theorem dig_take {l : List UInt8} (h : DigL l) (k : Nat) : DigL (l.take k) := fun c hc => h c (List.mem_of_mem_take hc)
theorem dig_drop {l : List UInt8} (h : DigL l) (k : Nat) : DigL (l.drop k) := fun c hc => h c (List.mem_of_mem_drop hc)
theorem raw_point {l : List UInt8} (h : DigL l) (k : Nat) : rawL (l.take k ++ 46 :: l.drop k) = l := by
  rw [raw_app, raw_dig (dig_take h k), show (46 :: l.drop k : List UInt8) = [46] ++ l.drop k from rfl, raw_app, raw_dig (dig_drop h k)]
  show l.take k ++ ([] ++ l.drop k) = l
  rw [List.nil_append, List.take_append_drop]
theorem strip_dec (n : Nat) : stripL (Lib.decDigits n) = Lib.decDigits n := by
  by_cases h : n < 10
  · rw [dec_small n h]; rfl
  · have hh := dec_head n (by omega)
    have hne := (dig_dec n).2
    cases hl : Lib.decDigits n with
    | nil => exact absurd hl hne
    | cons c r =>
      rw [hl] at hh
      cases r with
      | nil => rfl
      | cons e r =>
        have : ¬ c = 48 := hh
        show (if c = 48 then _ else _) = _
        rw [if_neg this]
theorem strip_zero (l : List UInt8) (h : l ≠ []) : stripL (48 :: l) = stripL l := by
  cases l with
  | nil => exact absurd rfl h
  | cons c r => rfl
theorem strip_pad (n m : Nat) : stripL (List.replicate m 48 ++ Lib.decDigits n) = Lib.decDigits n := by
  induction m with
  | zero => exact strip_dec n
  | succ m ih =>
    rw [List.replicate_succ, List.cons_append, strip_zero _ (fun e => (dig_dec n).2 (List.append_eq_nil_iff.1 e).2)]
    exact ih
theorem scale_dig {l : List UInt8} {a b : Nat} (hab : a ≤ b) (h : ∀ k, a ≤ k → k < b → l.getD k 0 ≠ 46) : scaleF l b = scaleF l a := by
  induction b with
  | zero => rw [show a = 0 by omega]
  | succ b ih =>
    rcases Nat.eq_or_lt_of_le hab with e | hlt
    · rw [e]
    · show (if l.getD b 0 = 46 then _ else _) = _
      rw [if_neg (h b (by omega) (by omega))]
      exact ih (by omega) (fun k h1 h2 => h k h1 (by omega))
theorem scale_hit {l : List UInt8} {k : Nat} (h : l.getD k 0 = 46) : scaleF l (k + 1) = (l.length : Int) - 1 - k := if_pos h
theorem getD_of {l : List UInt8} {k : Nat} {c : UInt8} (h : l[k]? = some c) : l.getD k 0 = c := by
  rw [List.getD_eq_getElem?_getD, h]; rfl
theorem getD_mem {l : List UInt8} {k : Nat} (h : k < l.length) : l.getD k 0 ∈ l := by
  rw [List.getD_eq_getElem?_getD, List.getElem?_eq_getElem h]; exact List.getElem_mem h
/-- in digits with a minus ahead, or none, no point stands -/
theorem scale_none {l : List UInt8} (h : ∀ c ∈ l, c ≠ 46) : scaleF l l.length = 0 :=
  scale_dig (a := 0) (Nat.zero_le _) (fun _ _ h2 => h _ (getD_mem h2))
theorem scale_one {a b : List UInt8} (h : ∀ c ∈ b, c ≠ 46) : scaleF (a ++ 46 :: b) (a ++ 46 :: b).length = b.length := by
  have hlen : (a ++ 46 :: b).length = a.length + 1 + b.length := by rw [List.length_append, List.length_cons]; omega
  have hit : (a ++ 46 :: b).getD a.length 0 = 46 := getD_of (by rw [List.getElem?_append_right (Nat.le_refl _), Nat.sub_self]; rfl)
  rw [scale_dig (a := a.length + 1) (by omega) (fun k h1 h2 => ?_), scale_hit hit, hlen]
  · omega
  · have hk : (a ++ 46 :: b).getD k 0 = b.getD (k - a.length - 1) 0 := by
      rw [List.getD_eq_getElem?_getD, List.getD_eq_getElem?_getD, List.getElem?_append_right (by omega), show k - a.length = (k - a.length - 1) + 1 by omega, List.getElem?_cons_succ]
      congr 2
    rw [hk]
    exact h _ (getD_mem (by omega))
theorem dig_no {l : List UInt8} (h : DigL l) : ∀ c ∈ l, c ≠ 46 := fun c hc e => by
  subst e
  exact absurd (h _ hc).1 (by decide)
theorem dig_no' {l : List UInt8} (h : DigL l) : ∀ c ∈ l, c ≠ 45 := fun c hc e => by
  subst e
  exact absurd (h _ hc).1 (by decide)
/-- the text of a right number as a list -/
theorem text_list {d : DI} (h : okD d = true) : (textD d).data.toList = (if d.1.1 = true then [45] else []) ++ (if 0 < d.2 then (bodyD d).data.toList.take ((bodyD d).size - d.2.toNat) ++ 46 :: (bodyD d).data.toList.drop ((bodyD d).size - d.2.toNat) else (bodyD d).data.toList) := by
  unfold textD
  rw [if_pos h]
  have e := point_list (bodyD d) d.2
  split
  · rw [ByteArray.data_append, Array.toList_append, e]
  · rw [e]; rfl
theorem text_size {d : DI} (h : okD d = true) : (textD d).size ≤ 102 := by
  obtain ⟨n, m, b⟩ := body_of h
  have e := text_list h
  have := b.size
  rw [← listB_len, e, List.length_append]
  have h1 : (if d.1.1 = true then [45] else ([] : List UInt8)).length ≤ 1 := by split <;> decide
  have h2 : (if 0 < d.2 then (bodyD d).data.toList.take ((bodyD d).size - d.2.toNat) ++ 46 :: (bodyD d).data.toList.drop ((bodyD d).size - d.2.toNat) else (bodyD d).data.toList).length ≤ 101 := by
    split
    · rw [List.length_append, List.length_cons, List.length_take, List.length_drop, listB_len]; omega
    · rw [listB_len]; omega
  omega
theorem textD_size (d : DI) : (textD d).size ≤ 102 := by
  by_cases h : okD d = true
  · exact text_size h
  · unfold textD
    rw [if_neg h]
    decide
/-- what is read out of a written number -/
theorem parse_text {d : DI} (h : okD d = true) : parseD (textD d) = d ∧ decOk (rawB (textD d)) = true := by
  obtain ⟨n, m, b⟩ := body_of h
  have p := partsD h
  have hp := okS_parts p.ok
  have hlo := p.lo
  have e := text_list h
  have hdig := b.dig
  have hlong := b.long
  have hraw : rawL (textD d).data.toList = (bodyD d).data.toList := by
    rw [e, raw_app]
    have h1 : rawL (if d.1.1 = true then [45] else []) = [] := by split <;> rfl
    rw [h1, List.nil_append]
    split
    · exact raw_point hdig _
    · exact raw_dig hdig
  have hst : (rawB (textD d)).data.toList = Lib.decDigits n := by
    show stripL (rawL (textD d).data.toList) = _
    rw [hraw, b.list]
    exact strip_pad n m
  have hnt : rawB (textD d) = natTextB d.1.2 := listB (by rw [hst, b.digits])
  have hdd : digitsB (rawB (textD d)) = true := by rw [digitsB_iff, hst]; exact dig_dec n
  have hsz : (rawB (textD d)).size ≤ 450 := by rw [hnt]; have := b.short; omega
  have hok : decOk (rawB (textD d)) = true := by
    rw [← read_text _ hdd hsz, hst, valL_dec, Int.toNat_natCast, hnt, b.mag]
  have hval : tnR (rawB (textD d)) = d.1.2 := by
    unfold tnR
    rw [if_pos hok, hst, valL_dec, Int.toNat_natCast]
    exact b.mag.symm
  have hscale : scaleB (textD d) = d.2 := by
    unfold scaleB
    rw [← listB_len, e]
    by_cases h0 : 0 < d.2
    · rw [if_pos h0, ← List.append_assoc, scale_one (dig_no (dig_drop hdig _)), List.length_drop, listB_len]
      omega
    · rw [if_neg h0, scale_none (fun c hc => ?_)]
      · omega
      · rcases List.mem_append.1 hc with hc | hc
        · split at hc
          · rw [List.mem_singleton.1 hc]; decide
          · cases hc
        · exact dig_no hdig c hc
  have hneg : decide ((textD d).data.toList.headD 0 = 45) = d.1.1 := by
    rw [e]
    cases hs : d.1.1 with
    | true => rfl
    | false =>
      rw [decide_eq_false_iff_not]
      show ¬ ([] ++ _ : List UInt8).headD 0 = 45
      rw [List.nil_append]
      intro h45
      have hne : (bodyD d).data.toList ≠ [] := fun e0 => by
        have h5 := listB_len (bodyD d)
        rw [e0] at h5
        simp at h5
        omega
      have hfirst : ∀ l : List UInt8, DigL l → l ≠ [] → ¬ l.headD 0 = 45 := fun l hl hn h4 => by
        cases l with
        | nil => exact hn rfl
        | cons c r => exact dig_no' hl c (List.mem_cons_self ..) h4
      split at h45
      · have hk : (bodyD d).data.toList.take ((bodyD d).size - d.2.toNat) ≠ [] := fun e0 => by
          have h5 := congrArg List.length e0
          rw [List.length_take, listB_len] at h5
          simp at h5
          omega
        cases ht : (bodyD d).data.toList.take ((bodyD d).size - d.2.toNat) with
        | nil => exact hk ht
        | cons c r =>
          rw [ht] at h45
          exact hfirst _ (dig_take hdig _) hk (by rw [ht]; exact h45)
      · exact hfirst _ hdig hne h45
  refine ⟨?_, hok⟩
  unfold parseD
  rw [hneg, hval, hscale]
/-- TextDec answers the number whose text it is -/
theorem trD_text {d : DI} (h : okD d = true) : trD (textD d) = (d, true) := by
  have p := parse_text h
  unfold trD readD
  rw [p.2, p.1, h, decide_eq_true rfl]
  rfl
theorem trD_yes {s : ByteArray} (h : (trD s).2 = true) : okD (trD s).1 = true ∧ textD (trD s).1 = s := by
  unfold trD at h ⊢
  split at h
  · rename_i hr
    rw [if_pos hr]
    unfold readD at hr
    rw [Bool.and_eq_true, Bool.and_eq_true, decide_eq_true_eq] at hr
    exact hr.2
  · exact absurd h (by decide)
theorem trD_iff (s : ByteArray) (d : DI) : trD s = (d, true) ↔ okD d = true ∧ textD d = s := by
  constructor
  · intro h
    have := trD_yes (s := s) (by rw [h])
    rw [h] at this
    exact this
  · intro ⟨h1, h2⟩
    rw [← h2]
    exact trD_text h1
theorem trD_no {s : ByteArray} (h : ∀ d, okD d = true → ¬ textD d = s) : trD s = (zeroD, false) := by
  unfold trD
  rw [if_neg]
  intro hr
  have : (trD s).2 = true := by unfold trD; rw [if_pos hr]
  have y := trD_yes this
  exact h _ y.1 y.2
theorem trD_sz (s : ByteArray) : szD (trD s).1 ≤ 1048576 := by
  by_cases h : (trD s).2 = true
  · have := (partsD (trD_yes h).1).len
    unfold szD szS szI
    omega
  · unfold trD at h ⊢
    split at h
    · exact absurd rfl h
    · rename_i hr
      rw [if_neg hr]
      exact zeroD_sz
end Go.Proofs.YthfkdofnoomhaaaDoor

namespace Go.Proofs.YthfkdofnoomhaaaDoor
open Go.RowKit

def pointAt (s : ByteArray) : Int := Lib.indexByte s.data.toList 46
/-- what stands ahead of the first point, and behind it -/
def preB (s : ByteArray) : ByteArray := if pointAt s < 0 then s else s.extract 0 (pointAt s).toNat
def postB (s : ByteArray) : ByteArray := if pointAt s < 0 then ⟨#[]⟩ else s.extract ((pointAt s).toNat + 1) s.size
def magB (s : ByteArray) : ByteArray := ⟨(Lib.trimLeftB (preB s ++ postB s).data.toList 48).toArray⟩
/-- the number that package impl reads -/
def parseI (s : ByteArray) : DI := ((negB s, tnR (magB (bareB s))), ((postB (bareB s)).size : Int))
theorem index_hitP (a b : List UInt8) (h : ∀ c ∈ a, c ≠ 46) : Lib.indexByte (a ++ 46 :: b) 46 = a.length := by
  have hg := Lib.indexByte_ge (a ++ 46 :: b) 46
  have hat : (a ++ 46 :: b)[a.length]? = some 46 := by rw [List.getElem?_append_right (Nat.le_refl _), Nat.sub_self]; rfl
  by_cases e : Lib.indexByte (a ++ 46 :: b) 46 = -1
  · exact absurd hat (Lib.indexByte_none e _)
  · have ho : Lib.indexByte (a ++ 46 :: b) 46 = ((Lib.indexByte (a ++ 46 :: b) 46).toNat : Nat) := by omega
    obtain ⟨h1, h2⟩ := Lib.indexByte_some ho
    generalize (Lib.indexByte (a ++ 46 :: b) 46).toNat = o at *
    rcases Nat.lt_trichotomy o a.length with hl | hl | hl
    · rw [List.getElem?_append_left hl] at h1
      exact absurd rfl (h 46 (List.mem_of_getElem? h1))
    · rw [ho, hl]
    · exact absurd hat (h2 _ hl)
theorem index_noneP (a : List UInt8) (h : ∀ c ∈ a, c ≠ 46) : Lib.indexByte a 46 = -1 := by
  have hg := Lib.indexByte_ge a 46
  by_cases e : Lib.indexByte a 46 = -1
  · exact e
  · have ho : Lib.indexByte a 46 = ((Lib.indexByte a 46).toNat : Nat) := by omega
    obtain ⟨h1, _⟩ := Lib.indexByte_some ho
    exact absurd rfl (h 46 (List.mem_of_getElem? h1))
theorem chr_eqT {k : Nat} (h : k < 10) : (UInt8.ofNat (48 + k) = 48) ↔ k = 0 := by
  constructor
  · intro e
    have e2 := congrArg UInt8.toNat e
    rw [UInt8.toNat_ofNat'] at e2
    have : (48 : UInt8).toNat = 48 := rfl
    omega
  · rintro rfl; rfl
theorem parts_some (s : ByteArray) (a b : List UInt8) (hs : s.data.toList = a ++ 46 :: b) (h : ∀ c ∈ a, c ≠ 46) : (preB s).data.toList = a ∧ (postB s).data.toList = b := by
  have hp : pointAt s = a.length := by unfold pointAt; rw [hs]; exact index_hitP a b h
  have hn : ¬ pointAt s < 0 := by omega
  unfold preB postB
  rw [if_neg hn, if_neg hn, hp, Int.toNat_natCast, extract_listD, extract_listD, List.drop_zero, hs]
  refine ⟨List.take_left .., ?_⟩
  have hsz : s.size = (a ++ 46 :: b).length := by rw [← listB_len, hs]
  rw [hsz, List.take_length]
  have : (a ++ 46 :: b).drop (a.length + 1) = b := by
    rw [List.drop_append, List.drop_of_length_le (by omega), show a.length + 1 - a.length = 1 by omega]
    rfl
  exact this
theorem parts_none (s : ByteArray) (h : ∀ c ∈ s.data.toList, c ≠ 46) : preB s = s ∧ postB s = ⟨#[]⟩ := by
  have hp : pointAt s = -1 := index_noneP _ h
  unfold preB postB
  rw [if_pos (by omega), if_pos (by omega)]
  exact ⟨rfl, rfl⟩
theorem bare_text {d : DI} (h : okD d = true) : negB (textD d) = d.1.1 ∧ (bareB (textD d)).data.toList = if 0 < d.2 then (bodyD d).data.toList.take ((bodyD d).size - d.2.toNat) ++ 46 :: (bodyD d).data.toList.drop ((bodyD d).size - d.2.toNat) else (bodyD d).data.toList := by
  have hp := (parse_text h).1
  have hn : negB (textD d) = d.1.1 := congrArg (fun x : DI => x.1.1) hp
  have e := text_list h
  refine ⟨hn, ?_⟩
  cases hs : d.1.1 with
  | true =>
    rw [hs] at e hn
    rw [if_pos rfl] at e
    rw [bareB_data, e]
    rfl
  | false =>
    rw [hs] at e hn
    rw [if_neg (by decide), List.nil_append] at e
    rw [bareB_self _ hn, e]
theorem trim_pad (n m : Nat) : Lib.trimLeftB (List.replicate m 48 ++ Lib.decDigits n) 48 = if n = 0 then [] else Lib.decDigits n := by
  unfold Lib.trimLeftB
  induction m with
  | zero =>
    rw [List.replicate_zero, List.nil_append]
    by_cases h0 : n = 0
    · subst h0
      rw [if_pos rfl, dec_small 0 (by omega)]
      rfl
    · rw [if_neg h0]
      have hh : ∃ c r, Lib.decDigits n = c :: r ∧ ¬ c = 48 := by
        by_cases hs : n < 10
        · refine ⟨_, _, dec_small n hs, ?_⟩
          rw [chr_eqT hs]
          exact h0
        · have hd := dec_head n (by omega)
          cases hl : Lib.decDigits n with
          | nil => exact absurd hl (dig_dec n).2
          | cons c r =>
            rw [hl] at hd
            exact ⟨c, r, rfl, hd⟩
      obtain ⟨c, r, e, hc⟩ := hh
      rw [e]
      exact List.dropWhile_cons_of_neg (by simpa using hc)
  | succ m ih =>
    rw [List.replicate_succ, List.cons_append, List.dropWhile_cons_of_pos (by rfl)]
    exact ih
theorem tn_empty : tnR ⟨#[]⟩ = [] := by
  unfold tnR
  rw [if_neg]
  intro h
  rw [decOk_dig ⟨#[]⟩ (by
    by_cases hd : digitsB ⟨#[]⟩ = true
    · exact absurd rfl ((digitsB_iff _).1 hd).2
    · simpa using hd)] at h
  exact absurd h (by decide)
/-- a written number is read back -/
theorem parseI_text {d : DI} (h : okD d = true) : parseI (textD d) = d := by
  obtain ⟨n, m, b⟩ := body_of h
  have p := partsD h
  have hlo := p.lo
  have hb := bare_text h
  have pt := parse_text h
  have hlong := b.long
  have key : (preB (bareB (textD d)) ++ postB (bareB (textD d))).data.toList = (bodyD d).data.toList ∧ ((postB (bareB (textD d))).size : Int) = d.2 := by
    have hl := hb.2
    by_cases h0 : 0 < d.2
    · rw [if_pos h0] at hl
      have q := parts_some _ _ _ hl (dig_no (dig_take b.dig _))
      constructor
      · rw [ByteArray.data_append, Array.toList_append, q.1, q.2, List.take_append_drop]
      · rw [← listB_len, q.2, List.length_drop, listB_len]
        omega
    · rw [if_neg h0] at hl
      have q := parts_none (bareB (textD d)) (by rw [hl]; exact dig_no b.dig)
      constructor
      · rw [ByteArray.data_append, Array.toList_append, q.1, q.2, hl]
        exact List.append_nil _
      · rw [q.2]
        show (0 : Int) = _
        omega
  have hmag : tnR (magB (bareB (textD d))) = d.1.2 := by
    have hl : (magB (bareB (textD d))).data.toList = if n = 0 then [] else Lib.decDigits n := by
      show Lib.trimLeftB _ 48 = _
      rw [key.1, b.list, trim_pad]
    by_cases hn : n = 0
    · rw [if_pos hn] at hl
      have e : magB (bareB (textD d)) = ⟨#[]⟩ := listB (by rw [hl])
      rw [e, tn_empty, b.mag, hn, limbs_zero]
    · rw [if_neg hn] at hl
      have hr : magB (bareB (textD d)) = rawB (textD d) := listB (by
        rw [hl]
        show _ = stripL (rawL (textD d).data.toList)
        have hraw : rawL (textD d).data.toList = (bodyD d).data.toList := by
          rw [text_list h, raw_app]
          have h1 : rawL (if d.1.1 = true then [45] else []) = [] := by split <;> rfl
          rw [h1, List.nil_append]
          split
          · exact raw_point b.dig _
          · exact raw_dig b.dig
        rw [hraw, b.list]
        exact (strip_pad n m).symm)
      rw [hr]
      exact congrArg (fun x : DI => x.1.2) pt.1
  unfold parseI
  rw [hb.1, hmag, key.2]
theorem parseI_empty : parseI ⟨#[]⟩ = zeroD := by
  have hn : negB ⟨#[]⟩ = false := negB_nil _ (by decide)
  have hb : bareB ⟨#[]⟩ = ⟨#[]⟩ := bareB_self _ hn
  have q := parts_none ⟨#[]⟩ (fun c hc => by cases hc)
  unfold parseI
  rw [hn, hb, q.2]
  have e : magB ⟨#[]⟩ = ⟨#[]⟩ := by unfold magB; rw [q.1, q.2]; rfl
  rw [e, tn_empty]
  rfl
/-- TextDec as package impl reckons it -/
theorem trD_impl (s : ByteArray) : (if textD (parseI s) = s then (parseI s, true) else (zeroD, false)) = trD s := by
  by_cases hx : textD (parseI s) = s
  · rw [if_pos hx]
    by_cases ok : okD (parseI s) = true
    · have := trD_text ok
      rw [hx] at this
      exact this.symm
    · exfalso
      have e : textD (parseI s) = ⟨#[]⟩ := by unfold textD; rw [if_neg ok]
      rw [e] at hx
      rw [← hx, parseI_empty] at ok
      exact ok (by decide)
  · rw [if_neg hx]
    refine (trD_no fun d hd he => hx ?_).symm
    rw [← he, parseI_text hd]
end Go.Proofs.YthfkdofnoomhaaaDoor

namespace Go.Proofs.YthfkdofnoomhaaaDoor
open Go.RowKit

theorem At.behind {S : List Nat} {φ : World → Prop} {w w1 w2 : World} (h : At S φ w) (hb : Below w1.heap.size w1 w2) (hh : w1.heap = w.heap) : At S φ w2 :=
  (At.move (w' := w1) h (fun _ _ => by rw [hh]) (by rw [hh]; exact Nat.le_refl _)).below hb
theorem Chg.drew1 {T : List Nat} {w w1 : World} (h : Chg T w w1) : Chg T w w1.drew := ⟨h.os, h.tape, h.output, h.size, h.block⟩
theorem mk_add {n : Bool} {a b : List Int} (oa : natOkB a = true) (ob : natOkB b = true) : mkS n (trimL (addL a b 0)) = ofZ (if n = true then -(nval a + nval b) else nval a + nval b) := by
  have hv := addL_val a b 0 (natOk_parts oa).1 (natOk_parts ob).1 (by omega) (by omega)
  have h1 := nval_ok oa
  have h2 := nval_ok ob
  rw [trim_limbs _ hv.2.1, hv.1, mkS_limbs]
  congr 1
  split <;> omega
theorem mk_sub {n : Bool} {a b : List Int} (oa : natOkB a = true) (ob : natOkB b = true) (hle : nval b ≤ nval a) : mkS n (trimL (trimL (subL a b 0))) = ofZ (if n = true then -(nval a - nval b) else nval a - nval b) ∧ (subL a b 0).length = a.length := by
  have pa := natOk_parts oa
  have pb := natOk_parts ob
  have hll := len_of_le a b pa.1 ⟨pb.1, pb.2.2⟩ hle
  have hv := subL_val a b 0 pa.1 pb.1 hll (by omega) (by omega) (by omega)
  have h1 := nval_ok oa
  have h2 := nval_ok ob
  refine ⟨?_, hv.2.2⟩
  rw [trim_limbs (subL a b 0) hv.2.1, trimL_limbs, hv.1, mkS_limbs]
  congr 1
  split <;> omega




theorem mk_mul {n m : Bool} {a b L : List Int} (hL : trimL L = limbs (nval a * nval b).toNat) (oa : natOkB a = true) (ob : natOkB b = true) : mkS (n != m) (trimL L) = ofZ (valS (n, a) * valS (m, b)) := by
  have h1 := nval_ok oa
  have h2 := nval_ok ob
  have h3 := Int.mul_nonneg h1 h2
  rw [hL, mkS_limbs]
  congr 1
  unfold valS
  cases n <;> cases m <;> simp [Int.toNat_of_nonneg h3, Int.mul_neg, Int.neg_mul] <;> omega
def MulPost (z : Int) (w : World) (e : Ending) (w' : World) : Prop := ∃ L, trimL L = limbs z.toNat ∧ L.length ≤ 200 ∧ NewInts L w e w'
theorem l02Mul_ok (va vb : Value) (a b : List Int) (w : World) (oa : natOkB a = true) (ob : natOkB b = true) (hra : Row w 0 w.heap.size va (intsV a)) (hrb : Row w 0 w.heap.size vb (intsV b)) :
    Calls Tryd.prog 175 #[va, vb] w (MulPost (nval a * nval b) w) := by
  have pa := natOk_parts oa
  have pb := natOk_parts ob
  by_cases h0 : a.length = 0 ∨ b.length = 0
  · refine (specMul_nil va vb a b _ _ _ _ w pa.2.1 pb.2.1 h0 hra hrb).mono fun e w' h => ⟨[], ?_, by simp, h⟩
    have hz : nval a * nval b = 0 := by
      rcases h0 with h0 | h0
      · rw [List.eq_nil_of_length_eq_zero h0]; exact Int.zero_mul _
      · rw [List.eq_nil_of_length_eq_zero h0]; exact Int.mul_zero _
    rw [hz]
    show _ = limbs 0
    rw [limbs_none]
    rfl
  · have hv := mul_val' a b pa.1 pb.1
    refine (specMul_any va vb a b _ _ _ _ w pa.2.1 pb.2.1 (by omega) (by omega) (Nat.le_refl _) (Nat.le_refl _) pa.1 pb.1 hra hrb).mono fun e w' h => ⟨_, ?_, ?_, h⟩
    · rw [trim_limbs _ hv.2.1, trimL_limbs, hv.1]
    · have := trimL_length (mulL a b (List.replicate (a.length + b.length) 0))
      have h1 := hv.2.2
      have h2 := pa.2.1
      have h3 := pb.2.1
      omega

end Go.Proofs.YthfkdofnoomhaaaDoor

namespace Go.Proofs.YthfkdofnoomhaaaDoor
open Go.RowKit

/-- what IntNum answers -/
def numS (x : SI) : Int × Bool := if okS x = true ∧ nval x.2 ≤ 9223372036854775807 then (valS x, true) else (0, false)



end Go.Proofs.YthfkdofnoomhaaaDoor

namespace Go.Proofs.YthfkdofnoomhaaaDoor
open Go.RowKit

/-- what a call answers that keeps the memory of its argument: a decimal number that leans on no other blocks, and a bool -/
def KeptD (S : List Nat) (R0 : DI) (R1 : Bool) (w : World) (e : Ending) (w' : World) : Prop :=
  ∃ (v : Value) (T : List Nat), e = .returned (.tuple #[v, .bool R1]) ∧ At T (OwnD v R0) w' ∧ (∀ i ∈ T, i ∈ S) ∧ Below w.heap.size w w'
theorem keptD_at {r : Nat} {S : List Nat} {c0 c1 c2 : Value} {x : DI} {b : Bool} {w W : World} (o : At S (OwnD (.agg #[c0, c1, c2]) x) W) (hS : ∀ i ∈ S, i < w.heap.size) (hr : w.heap.size ≤ r) (hW : Below w.heap.size w W) :
    KeptD S x b w (.returned (.tuple #[.agg #[c0, c1, c2], .bool b])) (((W.setCell ⟨r, 0, none⟩ c0).setCell ⟨r, 1, none⟩ c1).setCell ⟨r, 2, none⟩ c2) :=
  ⟨_, S, rfl, o.chg chg_set3 (fun i hi hm => by have := hS i hi; simp at hm; omega), fun i hi => hi, below_set3 hW hr⟩
theorem keptD_zero {S : List Nat} {w W : World} (hW : Below w.heap.size w W) : KeptD S zeroD false w (.returned (.tuple #[.agg #[.bool false, .slice none 0 0, .int .i64 0], .bool false])) W :=
  ⟨_, [], rfl, atD_zero _, fun _ hi => absurd hi List.not_mem_nil, hW⟩
theorem keptD_eq {S : List Nat} {q p : DI × Bool} (e : q = p) {w w' : World} {n : Ending} (h : KeptD S q.1 q.2 w n w') : KeptD S p.1 p.2 w n w' := e ▸ h
set_option maxHeartbeats 1000000 in
set_option maxRecDepth 100000 in
theorem specDecOk_any (vd : Value) (d : DI) (w : World) (hl : d.1.2.length ≤ 1048576) (hd : OwnD vd d w) :
    Calls Tryd.prog 51 #[vd] w (Postb (okD d) w) := by
  have Hd := Lib.hid hd
  obtain ⟨Ad, cd, rfl⟩ := ownD_form hd
  have ODd := Lib.hid (show ∀ W, Below w.heap.size w W → OwnD (.agg #[.bool d.1.1, .slice Ad d.1.2.length cd, .int .i64 d.2]) d W from fun W hb => OwnD.below Hd.out hb)
  have OId := Lib.hid (show ∀ W, Below w.heap.size w W → OwnI (.slice Ad d.1.2.length cd) d.1.2 W from fun W hb => ownD_open (ODd.out W hb))
  have OSd := Lib.hid (show ∀ W, Below w.heap.size w W → OwnS (.agg #[.bool d.1.1, .slice Ad d.1.2.length cd]) d.1 W from fun W hb => OwnS.mk (OId.out W hb))
  clear hd
  have bb0 : Below w.heap.size w (w.alloc (.cells #[.bool d.1.1, .slice Ad d.1.2.length cd, .int .i64 d.2] 33)) := below_al (Below.refl _ _) _
  have kd := (box_new w #[.bool d.1.1, .slice Ad d.1.2.length cd, .int .i64 d.2] 33)
  go_enter Tryd.func51, Tryd.ntmps51
  have kd_c0 := kd.here.cell 0 _ rfl
  have kd_c1 := kd.here.cell 1 _ rfl
  have kd_c2 := kd.here.cell 2 _ rfl
  go_wp2_with fail
  clear kd_c0 kd_c1 kd_c2
  refine (specIntOk_any _ d.1 _ hl (OwnS.rd (OSd.out _ bb0))).mono ?_
  rintro e w1 ⟨rfl, b1⟩
  have bb1 := Below.next bb0 b1
  replace kd := kd.below b1
  by_cases ok1 : okS d.1 = true
  · rw [ok1]
    have HO1 := Lib.hid ok1
    clear ok1
    by_cases hs : d.1.2.length ≤ 6
    · have HV0 := Lib.hid (show okD d = decide (0 ≤ d.2 ∧ d.2 ≤ 30) by unfold okD; rw [HO1.out, decide_eq_true hs]; rfl)
      have hs6 : (d.1.2.length : Int) ≤ 6 := by omega
      have hs7 : ¬ (6 : Int) < (d.1.2.length : Int) := by omega
      clear hs
      have kd_c0 := kd.here.cell 0 _ rfl
      have kd_c1 := kd.here.cell 1 _ rfl
      have kd_c2 := kd.here.cell 2 _ rfl
      go_wp2_with fail
      clear kd_c0 kd_c1 kd_c2
      refine (specIn_any d.2 0 30 _ _ rfl).mono ?_
      rintro e w_ ⟨rfl, rfl⟩
      have HV := Lib.hid (show okD d = inB d.2 0 30 from HV0.out)
      generalize inB d.2 0 30 = b at *
      clear kd
      go_wp2
      go_ret
      exact ⟨ret_bool HV.out.symm, bb1⟩
    · have HV := Lib.hid (show okD d = false by unfold okD; rw [decide_eq_false hs, Bool.false_and, Bool.and_false])
      have hs6 : ¬ (d.1.2.length : Int) ≤ 6 := by omega
      have hs7 : (6 : Int) < (d.1.2.length : Int) := by omega
      clear hs
      have kd_c0 := kd.here.cell 0 _ rfl
      have kd_c1 := kd.here.cell 1 _ rfl
      have kd_c2 := kd.here.cell 2 _ rfl
      go_wp2
      go_ret
      exact ⟨ret_bool HV.out.symm, bb1⟩
  · have ok1' : okS d.1 = false := by simpa using ok1
    have HV := Lib.hid (show okD d = false by unfold okD; rw [ok1']; rfl)
    rw [ok1']
    clear ok1 ok1'
    go_wp2
    go_ret
    exact ⟨ret_bool HV.out.symm, bb1⟩
set_option maxHeartbeats 1000000 in
set_option maxRecDepth 100000 in
theorem l07Dec_any (vx : Value) (x : SI) (k : Int) (S : List Nat) (w : World) (hl : x.2.length ≤ 1048576) (hx : At S (OwnS vx x) w) :
    Calls Tryd.prog 68 #[vx, .int .i64 k] w (KeptD S (decD x k).1 (decD x k).2 w) := by
  obtain ⟨Ax, cx, rfl⟩ := ownS_form hx.here
  have OX := Lib.hid (show ∀ W, Below w.heap.size w W → At S (OwnD (.agg #[.bool x.1, .slice Ax x.2.length cx, .int .i64 k]) (x, k)) W from fun W hb => (hx.below hb).imp fun _ h => OwnD.mk (q := (x, k)) (ownS_openD h))
  have HLT := Lib.hid hx.lt
  clear hx
  have bb0 : Below w.heap.size w ((w.alloc (.cells #[.bool x.1, .slice Ax x.2.length cx] 28)).alloc (.cells #[.bool false, .slice none 0 0, .int .i64 0] 33)) := below_al (below_al (Below.refl _ _) _) _
  have kx := (box_new w #[.bool x.1, .slice Ax x.2.length cx] 28).below (below_al (Below.refl _ _) (.cells #[.bool false, .slice none 0 0, .int .i64 0] 33))
  have ko := (box_new (w.alloc (.cells #[.bool x.1, .slice Ax x.2.length cx] 28)) #[.bool false, .slice none 0 0, .int .i64 0] 33)
  rw [show (w.alloc (.cells #[.bool x.1, .slice Ax x.2.length cx] 28)).heap.size = w.heap.size + 1 by simp] at ko
  go_enter Tryd.func68, Tryd.ntmps68
  have kx_c0 := kx.here.cell 0 _ rfl
  have kx_c1 := kx.here.cell 1 _ rfl
  have kd := box_new (((w.alloc (.cells #[.bool x.1, .slice Ax x.2.length cx] 28)).alloc (.cells #[.bool false, .slice none 0 0, .int .i64 0] 33))) #[.bool x.1, .slice Ax x.2.length cx, .int .i64 k] 33
  have ald := below_al (Below.refl (((w.alloc (.cells #[.bool x.1, .slice Ax x.2.length cx] 28)).alloc (.cells #[.bool false, .slice none 0 0, .int .i64 0] 33))).heap.size (((w.alloc (.cells #[.bool x.1, .slice Ax x.2.length cx] 28)).alloc (.cells #[.bool false, .slice none 0 0, .int .i64 0] 33)))) (.cells #[.bool x.1, .slice Ax x.2.length cx, .int .i64 k] 33)
  have bbd := Below.next bb0 ald
  replace kx := kx.below ald
  replace ko := ko.below ald
  rw [show ((w.alloc (.cells #[.bool x.1, .slice Ax x.2.length cx] 28)).alloc (.cells #[.bool false, .slice none 0 0, .int .i64 0] 33)).heap.size = w.heap.size + 1 + 1 by simp] at kd
  have kd_c0 := kd.here.cell 0 _ rfl
  have kd_c1 := kd.here.cell 1 _ rfl
  have kd_c2 := kd.here.cell 2 _ rfl
  go_wp2_with fail
  clear kx_c0 kx_c1 kd_c0 kd_c1 kd_c2
  refine (specDecOk_any _ (x, k) _ hl (OX.out _ bbd).here).mono ?_
  rintro e w1 ⟨rfl, b1⟩
  have bb1 := Below.next bbd b1
  replace kx := kx.below b1
  replace ko := ko.below b1
  replace kd := kd.below b1
  by_cases ok : okD (x, k) = true
  · rw [ok]
    have HV := Lib.hid (show decD x k = ((x, k), true) by unfold decD; rw [if_pos ok])
    clear ok kx
    have HW := Lib.hid (keptD_at (r := w.heap.size + 1) (b := true) (OX.out _ bb1) HLT.out (by omega) bb1)
    have kd_c0 := kd.here.cell 0 _ rfl
    have kd_c1 := kd.here.cell 1 _ rfl
    have kd_c2 := kd.here.cell 2 _ rfl
    have cz0 := ko.here.cell 0 _ rfl
    have fz0 := Lib.frozen_of_heap ko.here 0
    have cz1 := ko.here.cell 1 _ rfl
    have fz1 := Lib.frozen_of_heap ko.here 1
    have cz2 := ko.here.cell 2 _ rfl
    have fz2 := Lib.frozen_of_heap ko.here 2
    clear kd ko
    go_wp2
    refine bodyPost_ret (v := .tuple #[.agg #[.bool x.1, .slice Ax x.2.length cx, .int .i64 k], .bool true]) (by simp [results, Tryd.results68, go_sem, cz0, cz1, cz2]) rfl ?_
    rw [HV.out]
    exact HW.out
  · have ok' : okD (x, k) = false := by simpa using ok
    have HV := Lib.hid (show decD x k = (zeroD, false) by unfold decD; rw [if_neg ok])
    rw [ok']
    clear ok ok' kx kd
    have cz0 := ko.here.cell 0 _ rfl
    have fz0 := Lib.frozen_of_heap ko.here 0
    have cz1 := ko.here.cell 1 _ rfl
    have fz1 := Lib.frozen_of_heap ko.here 1
    have cz2 := ko.here.cell 2 _ rfl
    have fz2 := Lib.frozen_of_heap ko.here 2
    go_wp2
    refine bodyPost_ret (v := .tuple #[.agg #[.bool false, .slice none 0 0, .int .i64 0], .bool false]) (by simp [results, Tryd.results68, go_sem, cz0, cz1, cz2]) rfl ?_
    rw [HV.out]
    first | exact keptD_zero bb1 | exact keptD_zero (below_set3 bb1 (by omega))
set_option maxHeartbeats 1000000 in
set_option maxRecDepth 100000 in
theorem l07Ten_any (k : Int) (w : World) : Calls Tryd.prog 53 #[.int .i64 k] w (NewV (fun u => OwnS u (tenS k)) w) := by
  have bb0 : Below w.heap.size w (w.alloc (.cells #[.bool false, .slice none 0 0] 28)) := below_al (Below.refl _ _) _
  have ko := (box_new w #[.bool false, .slice none 0 0] 28)
  have HKO := Lib.hid (ko.lt w.heap.size (by simp))
  go_enter Tryd.func53, Tryd.ntmps53
  go_wp2_with fail
  refine (specNatTen_any k _).mono ?_
  rintro e w1 ⟨v, rfl, o0, b1⟩
  obtain ⟨Af, cf, rfl⟩ := own_len o0
  have bb1 := Below.next bb0 b1
  replace ko := ko.below b1
  have of := (own_at' o0).imp (fun _ h => (OwnS.mk h : OwnS (.agg #[.bool (tenS k).1, .slice Af (tenN k).length cf]) (tenS k) _))
  have lf := own_within o0
  clear o0
  have HR := Lib.hid (newV_chg (φ := fun u => OwnS u (tenS k)) (v := .agg #[.bool false, .slice Af (tenN k).length cf]) (T := [w.heap.size]) of (fun i hi hm => by have := lf i hi; have := HKO.out; simp at hm; omega) (fun i hi => by simp at hi; omega) (fun i hi => by have := lf i hi; have := HKO.out; omega) bb1)
  have cz0 := ko.here.cell 0 _ rfl
  have fz0 := Lib.frozen_of_heap ko.here 0
  have cz1 := ko.here.cell 1 _ rfl
  have fz1 := Lib.frozen_of_heap ko.here 1
  clear of ko
  go_wp2
  refine bodyPost_ret (v := .agg #[.bool false, .slice Af (tenN k).length cf]) (by simp [results, Tryd.results53, go_sem, cz0, cz1]) rfl ?_
  refine HR.out _ ?_
  repeat (first | exact Chg.refl _ _ | refine Chg.setCell ?_ (by simp) _)
end Go.Proofs.YthfkdofnoomhaaaDoor

namespace Go.Proofs.YthfkdofnoomhaaaDoor
open Go.RowKit

set_option maxHeartbeats 400000 in
set_option maxRecDepth 100000 in
theorem limbAt_any (v : Value) (xs : List Int) (p : Int) (lo hi : Nat) (w : World) (_hl : xs.length ≤ 1048576) (hr : Row w lo hi v (intsV xs)) :
    Calls Tryd.prog 177 #[v, .int .i64 p] w fun e w' => e = .returned (.int .i64 (if p < 0 then 0 else xs.getD p.toNat 0)) ∧ w = w' := by
  obtain ⟨A, c, rfl, hA⟩ := hr
  rw [intsV_length]
  by_cases h0 : p < 0
  · rw [if_pos h0]
    go_enter Tryd.func177, Tryd.ntmps177
    go_wp2
    go_ret
    exact ⟨rfl, rfl⟩
  · rw [if_neg h0]
    obtain ⟨n, rfl⟩ := Int.eq_ofNat_of_zero_le (show 0 ≤ p by omega)
    rw [Int.toNat_natCast]
    by_cases h1 : n < xs.length
    · obtain ⟨a, rfl, _, _, hca⟩ := hA n _ (intsV_at xs n h1)
      rw [List.getD_eq_getElem?_getD, List.getElem?_eq_getElem h1, Option.getD_some]
      clear h0
      generalize xs[n] = x at *
      go_enter Tryd.func177, Tryd.ntmps177
      go_wp2
      go_ret
      exact ⟨rfl, rfl⟩
    · rw [List.getD_eq_getElem?_getD, List.getElem?_eq_none (by omega)]
      clear h0
      go_enter Tryd.func177, Tryd.ntmps177
      go_wp2
      go_ret
      exact ⟨rfl, rfl⟩
theorem TwoRows.postII {xs ys : List Int} {w w' : World} {e : Ending} (h : TwoRows xs ys w e w') : PostII xs ys w e w' := by
  obtain ⟨v1, v2, rfl, o1, o2, ap, b⟩ := h
  exact ⟨v1, _, v2, _, rfl, own_at o1, own_at o2, own_within o1, own_within o2, fun g h1 h2 => ap g g (by simpa using h1) (by simpa using h2) rfl, b⟩
end Go.Proofs.YthfkdofnoomhaaaDoor

namespace Go.Proofs.YthfkdofnoomhaaaDoor
open Go.RowKit

set_option maxHeartbeats 1000000 in
set_option maxRecDepth 100000 in
theorem implNatTen_any (k : Int) (w : World) : Calls Tryd.prog 109 #[.int .i64 k] w (NewInts (tenN k) w) := by
  obtain ⟨i0, hi0, hz0, hz1, hz2⟩ := info_parts intInfo
  by_cases h0 : k < 0
  · have HV : Hid (tenN k = []) := Lib.hid (by unfold tenN; rw [if_neg (by omega)])
    go_enter Tryd.func109, Tryd.ntmps109
    go_wp2
    go_ret
    rw [HV.out]
    exact new_nil (Below.refl _ _)
  · by_cases h1 : 450 ≤ k
    · have HV : Hid (tenN k = []) := Lib.hid (by unfold tenN; rw [if_neg (by omega)])
      go_enter Tryd.func109, Tryd.ntmps109
      go_wp2
      go_ret
      rw [HV.out]
      exact new_nil (Below.refl _ _)
    · obtain ⟨n, rfl⟩ := Int.eq_ofNat_of_zero_le (show 0 ≤ k by omega)
      have hn : n ≤ 449 := by omega
      have HV : Hid (tenN n = List.replicate (n / 9) 0 ++ [(10 : Int) ^ (n % 9)]) := Lib.hid (by unfold tenN; rw [if_pos (by omega), Int.toNat_natCast, ten_limbs])
      have hmk := make_ints (n / 9) (by omega)
      rw [show ((n / 9 : Nat) : Int) = (n : Int) / 9 by omega] at hmk
      clear h0 h1
      go_enter Tryd.func109, Tryd.ntmps109
      go_wp2
      go_loop [3, 12] (fun f i => ∃ (j : Nat) (p : Int), j ≤ n % 9 ∧ i = .int .i64 j ∧ f = .int .i64 p ∧ 0 < p ∧ p ≤ 100000000 ∧ Hid (p = 10 ^ j)) (fun _ i => n % 9 - (intOf i).toNat)
      case atStart => exact ⟨0, 1, Nat.zero_le _, rfl, rfl, by omega, by omega, Lib.hid rfl⟩
      case round =>
        obtain ⟨j, p, hj, rfl, rfl, hp0, hp1, HP⟩ := hrel
        by_cases hlt : (j : Int) < (n : Int) % 9
        · have HN : Hid (p * 10 = 10 ^ (j + 1) ∧ p * 10 ≤ 100000000) := Lib.hid (by
            have h1 : p * 10 = (10 : Int) ^ (j + 1) := by rw [HP.out, Int.pow_succ]
            exact ⟨h1, by rw [h1]; exact ten_eight (j + 1) (by omega)⟩)
          go_wp2
          go_round
          case rel => exact ⟨j + 1, p * 10, by omega, by go_num, rfl, by omega, HN.out.2, Lib.hid HN.out.1⟩
          case measure => simp [intOf]; omega
        · have HJ := Lib.hid (show j = n % 9 by omega)
          have hown : (w.alloc (.cells (madeCells #[.int .i64 0] (n / 9)) 3)).ownsRow w.heap.size 3 1 (.slice (some ⟨w.heap.size, 0, none⟩) (n / 9) (n / 9)) (n / 9) (intsV (List.replicate (n / 9) 0)) := by
            have h := World.ownsRow_lit (e := 3) (size := 1) (base := w.heap.size) w (madeCells #[.int .i64 0] (n / 9)) (n / 9) (Nat.le_refl _) (by unfold maxLen; omega) (by rw [size_madeCells, Nat.mul_one])
            rw [toList_madeCells_one] at h
            simpa [intsV] using h
          go_wp2_with (at_builtin; refine wpList_append_own _ rfl _ _ 22 rfl w.heap.size 3 i0 (.int .i64 0) 1 8 Tryd.underlying22 hi0 hz0 hz1 hz2 rfl (by decide) _ _ _ rfl (own_alloc hown _) ⟨w.heap.size + 1, 0, none⟩ 1 1 [.int .i64 p] rfl rfl ?c1 ?c2 ?c3 ?c4 ?c5 ?_)
          case c2 => first | (intro u hu; simp at hu; subst hu; rfl) | rfl
          case c3 => unfold maxLen; omega
          case c4 => omega
          case c5 => first | omega | (simp; omega)
          intro v1 w1 hown1 hg1 _
          have hb2 : Below w.heap.size w w1 := (((Below.refl _ w).alloc (Nat.le_refl _) _).alloc (by simp) _).grown hg1 (by simp; omega) (fun k hk => by cases hk; exact Nat.le_refl _)
          go_wp2
          go_ret
          refine ⟨_, rfl, ?_, hb2⟩
          rw [HV.out, ← HJ.out, ← HP.out]
          simpa [intsV] using hown1
theorem implNatTen_at (k : Int) : ∀ (W : World), Calls Tryd.prog 109 #[(.int .i64 k)] W (PostI (tenN k) W) :=
  fun W => (implNatTen_any k W).mono fun _ _ h => h.newV
end Go.Proofs.YthfkdofnoomhaaaDoor

namespace Go.Proofs.YthfkdofnoomhaaaDoor
open Go.RowKit

theorem capL_short {xs : List Int} (h : xs.length ≤ 50) : capL xs = xs := by unfold capL; rw [if_neg (by omega)]
theorem capL_res (b : Bool) (n : Int) : mkS b (natRes n) = mkS b (limbs n.toNat) := by
  have e : capL (natRes n) = capL (limbs n.toNat) := by
    unfold natRes
    by_cases h : (limbs n.toNat).length ≤ 50
    · rw [capL_short h, capL_short h]
    · rw [show capL (limbs n.toNat) = [] by unfold capL; rw [if_pos (by omega)]]; rfl
  unfold mkS
  rw [e]
theorem natRes_short (n : Int) : (natRes n).length ≤ 50 := by
  unfold natRes capL
  split
  · simp
  · omega
theorem mulN_short (a b : List Int) : (mulN a b).length ≤ 50 := by unfold mulN; split; exact natRes_short _; simp
theorem mulS_mk {x y : SI} (okx : okS x = true) (oky : okS y = true) : mkS (x.1 != y.1) (mulN x.2 y.2) = mulS x y := by
  have px := okS_parts okx
  have py := okS_parts oky
  have h0x := nval_ok px.1
  have h0y := nval_ok py.1
  have h0 := Int.mul_nonneg h0x h0y
  unfold mulS
  rw [if_pos ⟨okx, oky⟩, mulN_ok px.1 py.1, capL_res, mkS_limbs]
  congr 1
  unfold valS
  rw [Int.toNat_of_nonneg h0]
  cases x.1 <;> cases y.1 <;> simp [Int.neg_mul, Int.mul_neg]
/-- an integer laid early into its block, which was zero -/
theorem NatX.early {n : Bool} {g : Nat} {u c0 c1 : Value} {xs : List Int} {W : World} {B0 B : Nat} (hb : BoxAt g #[c0, c1] 128 W) (o : W.ownsRow B 3 1 u xs.length (intsV xs)) (hB : B0 ≤ B) (hg : B0 ≤ g) :
    NatX (intK n) B0 g xs ((W.setCell ⟨g, 0, none⟩ u).setCell ⟨g, 1, none⟩ (.bool n)) := by
  have hne := Lib.ownBlock_ne o hb (by decide)
  have hb' : W.heap[g]? = some (.cells #[c0, c1] 128 (0, 0)) := hb
  refine ⟨hg, u, by simp [World.setCell, Array.getElem?_modify, hb'], own_low (own_stays o fun i hi => ?_) hB, hne⟩
  have : i ≠ g := fun e => hne (by rw [hi, e])
  exact (Below.heap_setCell _ _ _ _ this).trans (Below.heap_setCell _ _ _ _ this)
theorem NatX.late {n : Bool} {u : Value} {xs : List Int} {W : World} {B0 B : Nat} (o : W.ownsRow B 3 1 u xs.length (intsV xs)) (hB : B0 ≤ B) (hW : B0 ≤ W.heap.size) : NatX (intK n) B0 W.heap.size xs (W.alloc (.cells #[u, .bool n] 128)) :=
  NatX.new (K := intK n) hW (own_low o hB)

set_option maxHeartbeats 4000000 in
set_option maxRecDepth 100000 in
theorem implIntMul_any (vx vy : Value) (x y : SI) (w : World) (hlx : x.2.length ≤ 1048576) (hly : y.2.length ≤ 1048576) (hx : OwnS vx x w) (hy : OwnS vy y w) :
    Calls Tryd.prog 95 #[vx, vy] w (NewS (mulS x y) w) := by
  obtain ⟨ux, rfl, hox⟩ := hx
  obtain ⟨uy, rfl, hoy⟩ := hy
  obtain ⟨Ax, cx, rfl⟩ := own_len hox
  obtain ⟨Ay, cy, rfl⟩ := own_len hoy
  obtain ⟨W0, hW0⟩ : ∃ W0, W0 = ((w.alloc (.cells #[.bool x.1, .slice Ax x.2.length cx] 28)).alloc (.cells #[.bool y.1, .slice Ay y.2.length cy] 28)).alloc (.cells #[.bool false, .slice none 0 0] 28) := ⟨_, rfl⟩
  have hbb : Below w.heap.size w W0 := by rw [hW0]; exact below_al (below_al (below_al (Below.refl _ _) _) _) _
  have h3 := alloc3 w (.cells #[.bool x.1, .slice Ax x.2.length cx] 28) (.cells #[.bool y.1, .slice Ay y.2.length cy] 28) (.cells #[.bool false, .slice none 0 0] 28)
  rw [← hW0] at h3
  have kx : At [w.heap.size] (BoxAt w.heap.size #[.bool x.1, .slice Ax x.2.length cx] 28) W0 := box_at h3.1
  have ky : At [w.heap.size + 1] (BoxAt (w.heap.size + 1) #[.bool y.1, .slice Ay y.2.length cy] 28) W0 := box_at h3.2.1
  have kr : At [w.heap.size + 1 + 1] (BoxAt (w.heap.size + 1 + 1) #[.bool false, .slice none 0 0] 28) W0 := box_at h3.2.2.1
  have ox := own_below hox hbb
  have oy := own_below hoy hbb
  have rdx := (OwnS.mk (x := x) (ownI_of ox)).rd
  have HW := Lib.hid hW0
  have cx0 := kx.here.cell 0 _ rfl
  have cx1 := kx.here.cell 1 _ rfl
  clear h3 hox hoy hW0
  by_cases okx : okS x = true
  · go_enter Tryd.func95, Tryd.ntmps95
    go_wp2_with fail
    rw [← HW.out]
    refine (implIntOk_any _ x _ hlx rdx).mono ?_
    rintro e w1 ⟨rfl, b1⟩
    rw [okx]
    have bb1 := Below.next hbb b1
    replace kx := kx.below b1
    replace ky := ky.below b1
    replace kr := kr.below b1
    replace ox := own_below ox b1
    replace oy := own_below oy b1
    have cy0 := ky.here.cell 0 _ rfl
    have cy1 := ky.here.cell 1 _ rfl
    clear rdx cx0 cx1
    go_wp2_with fail
    refine (implIntOk_any _ y w1 hly (OwnS.mk (x := y) (ownI_of oy)).rd).mono ?_
    rintro e w2 ⟨rfl, b2⟩
    have bb2 := Below.next bb1 b2
    replace kx := kx.below b2
    replace ky := ky.below b2
    replace kr := kr.below b2
    replace ox := own_below ox b2
    replace oy := own_below oy b2
    clear cy0 cy1
    by_cases oky : okS y = true
    · rw [oky]
      have HV := Lib.hid (mulS_mk okx oky)
      have cx0 := kx.here.cell 0 _ rfl
      have cx1 := kx.here.cell 1 _ rfl
      have cy0 := ky.here.cell 0 _ rfl
      have cy1 := ky.here.cell 1 _ rfl
      have HOX := Lib.hid (show ∀ W, Below w2.heap.size w2 W → Row W 0 W.heap.size (.slice Ax x.2.length cx) (intsV x.2) from fun W hb => (ownI_of (own_below ox hb)).row)
      have HOY := Lib.hid (show ∀ W, Below w2.heap.size w2 W → Row W 0 W.heap.size (.slice Ay y.2.length cy) (intsV y.2) from fun W hb => (ownI_of (own_below oy hb)).row)
      have HKR := Lib.hid kr
      have hlt2 : w.heap.size + 1 + 1 < w2.heap.size := kr.lt _ (by simp)
      clear okx oky ox oy kr
      have HKX := Lib.hid kx
      have HKY := Lib.hid ky
      have HMB := Lib.hid (Lib.hid (show mkS (x.1 != y.1) (mulN x.2 y.2) = mulS x y from HV.out))
      have hml : (mulN x.2 y.2).length ≤ 50 := mulN_short x.2 y.2
      clear kx ky b1 b2 HV
      obtain ⟨n, hn, hm⟩ : ∃ n, (x.1 != y.1) = n ∧ (x.1 == y.1) = !n := ⟨_, rfl, by cases x.1 <;> cases y.1 <;> rfl⟩
      have HN := Lib.hid hn
      cases n
      all_goals
        first | rw [Bool.not_false] at hm | rw [Bool.not_true] at hm
        go_upto_region 3 with fail
        go_cut [5] (fun s wx => ∃ b, s = .pointer (some ⟨b, 0, none⟩) ∧ Hid (NatX (intK (x.1 != y.1)) w2.heap.size b (mulN x.2 y.2) wx) ∧ Below w2.heap.size w2 wx)
        case first =>
          have HB0 := Lib.hid (show Below w2.heap.size w2 w2.drew from (Below.refl _ _).drew)
          have KL := Lib.hid (show ∀ W, Below w2.heap.size w2 W → W.cell? ⟨w.heap.size, 0, none⟩ = some (.bool x.1) ∧ W.cell? ⟨w.heap.size, 1, none⟩ = some (.slice Ax x.2.length cx) ∧ W.cell? ⟨w.heap.size + 1, 0, none⟩ = some (.bool y.1) ∧ W.cell? ⟨w.heap.size + 1, 1, none⟩ = some (.slice Ay y.2.length cy) ∧ Hid (Below w2.heap.size w2 W) from
            fun W hb => ⟨(HKX.out.below hb).here.cell 0 _ rfl, (HKX.out.below hb).here.cell 1 _ rfl, (HKY.out.below hb).here.cell 0 _ rfl, (HKY.out.below hb).here.cell 1 _ rfl, Lib.hid hb⟩)
          clear cx0 cx1 cy0 cy1
          go_region_held3 (fun W => W.cell? ⟨w.heap.size, 0, none⟩ = some (.bool x.1) ∧ W.cell? ⟨w.heap.size, 1, none⟩ = some (.slice Ax x.2.length cx) ∧ W.cell? ⟨w.heap.size + 1, 0, none⟩ = some (.bool y.1) ∧ W.cell? ⟨w.heap.size + 1, 1, none⟩ = some (.slice Ay y.2.length cy) ∧ Hid (Below w2.heap.size w2 W))
            ((refine KL.out _ ?_; (first | exact HBf.out | exact HB0.out | exact below_al HBf.out _ | exact below_al HB0.out _ | exact below_set2 HBf.out HB0.out.size | fail)))
            (first
              | (go_at_call 150; (have hBB := (‹_ ∧ _ ∧ _ ∧ _ ∧ Hid (Below w2.heap.size w2 _)›).2.2.2.2); (with_reducible refine (implNatMul_any _ _ x.2 y.2 0 _ 0 _ _ hlx hly (Nat.le_refl _) (Nat.le_refl _) (HOX.out _ hBB.out) (HOY.out _ hBB.out)).mono ?_); rintro e wf ⟨uf, rfl, of, bf⟩; have HBf := Lib.hid (Below.next hBB.out bf); have HBS := Lib.hid hBB.out.size; (try have hbxf : At [w2.heap.size] (BoxAt w2.heap.size #[.slice none 0 0, .bool false] 128) wf := At.below (box_new w2.drew _ _) bf); obtain ⟨Af, cf, rfl⟩ := own_len of; (try (have cz0 := hbxf.here.cell 0 _ rfl; have cz1 := hbxf.here.cell 1 _ rfl; have fz0 := Lib.frozen_of_heap hbxf.here 0; have fz1 := Lib.frozen_of_heap hbxf.here 1)); clear hBB))
          all_goals (go_wp2_with fail; go_meet; first | exact ⟨_, rfl, Lib.hid (by rw [HN.out]; exact NatX.late of HBS.out HBf.out.size), below_al HBf.out _⟩ | exact ⟨_, rfl, Lib.hid (by rw [HN.out]; exact NatX.early hbxf.here of HBS.out (Nat.le_refl _)), below_set2 HBf.out (Nat.le_refl _)⟩)
        rename World => w3
        obtain ⟨b, rfl, HX, b3⟩ := hcut
        have bb3 := Below.next bb2 b3
        have kr3 := HKR.out.below b3
        clear cx0 cx1 cy0 cy1
        go_wp2_with fail
        refine (signed_any _ _ b _ _ (by omega) HX.out).mono ?_
        rw [HMB.out.out]
        rintro e w4 ⟨u4, rfl, o4, b4⟩
        generalize mulS x y = z at *
        obtain ⟨A4, c4, rfl⟩ := own_len o4
        have bb4 := Below.next bb3 b4
        have kr4 := kr3.below b4
        have cz0 := kr4.here.cell 0 _ rfl
        have cz1 := kr4.here.cell 1 _ rfl
        have fz0 := Lib.frozen_of_heap kr4.here 0
        have fz1 := Lib.frozen_of_heap kr4.here 1
        have HO := Lib.hid o4
        have HK := Lib.hid kr4
        clear o4 kr3 kr4 HX HMB
        go_wp2
        refine bodyPost_ret (v := .agg #[.bool _, .slice A4 _ c4]) (by simp [results, Tryd.results95, go_sem, cz0, cz1]; exact ⟨rfl, rfl⟩) rfl ?_
        exact newS_ret HK.out.here HO.out bb2.size (by omega) bb4
    · have oky' : okS y = false := by simpa using oky
      have HV := Lib.hid (show mulS x y = zeroS by unfold mulS; rw [if_neg (fun h => oky h.2)])
      rw [oky']
      have cz0 := kr.here.cell 0 _ rfl
      have cz1 := kr.here.cell 1 _ rfl
      have fz0 := Lib.frozen_of_heap kr.here 0
      have fz1 := Lib.frozen_of_heap kr.here 1
      clear oky kx ky kr ox oy
      go_wp2
      refine bodyPost_ret (v := .agg #[.bool false, .slice none 0 0]) (by simp [results, Tryd.results95, go_sem, cz0, cz1]) rfl ?_
      rw [HV.out]
      exact newS_zero (below_set2 bb2 (by omega))
  · have okx' : okS x = false := by simpa using okx
    have HV := Lib.hid (show mulS x y = zeroS by unfold mulS; rw [if_neg (fun h => okx h.1)])
    clear okx
    go_enter Tryd.func95, Tryd.ntmps95
    go_wp2_with fail
    rw [← HW.out]
    refine (implIntOk_any _ x _ hlx rdx).mono ?_
    rintro e w1 ⟨rfl, b1⟩
    rw [okx']
    have bb1 := Below.next hbb b1
    replace kr := kr.below b1
    have cz0 := kr.here.cell 0 _ rfl
    have cz1 := kr.here.cell 1 _ rfl
    have fz0 := Lib.frozen_of_heap kr.here 0
    have fz1 := Lib.frozen_of_heap kr.here 1
    clear kx ky kr rdx ox oy cx0 cx1
    go_wp2
    refine bodyPost_ret (v := .agg #[.bool false, .slice none 0 0]) (by simp [results, Tryd.results95, go_sem, cz0, cz1]) rfl ?_
    rw [HV.out]
    exact newS_zero (below_set2 bb1 (by omega))
end Go.Proofs.YthfkdofnoomhaaaDoor

namespace Go.Proofs.YthfkdofnoomhaaaDoor
open Go.RowKit

theorem At.belowB {S : List Nat} {φ : World → Prop} {w w' : World} {B : Nat} (h : At S φ w) (hb : Below B w w') (hS : ∀ g ∈ S, g < B) : At S φ w' := h.move (fun g hg => hb.block g (hS g hg)) hb.size
theorem add_mk {P Q : SI} (okp : okS P = true) (okq : okS Q = true) (hs : P.1 = Q.1) : mkS P.1 (limbs (nval P.2 + nval Q.2).toNat) = ofZ (valS P + valS Q) := by
  have h0p := nval_ok (okS_parts okp).1
  have h0q := nval_ok (okS_parts okq).1
  rw [mkS_limbs]
  congr 1
  unfold valS
  rw [← hs]
  split <;> omega
theorem sub_mk {P Q : SI} (okp : okS P = true) (okq : okS Q = true) (hs : ¬ P.1 = Q.1) (hle : nval Q.2 ≤ nval P.2) : mkS P.1 (limbs (nval P.2 - nval Q.2).toNat) = ofZ (valS P + valS Q) := by
  have h0p := nval_ok (okS_parts okp).1
  have h0q := nval_ok (okS_parts okq).1
  rw [mkS_limbs]
  congr 1
  unfold valS
  cases hp : P.1 <;> cases hq : Q.1 <;> simp_all <;> omega
theorem addS_ok {x y : SI} (okx : okS x = true) (oky : okS y = true) : addS x y = ofZ (valS x + valS y) := by unfold addS; rw [if_pos ⟨okx, oky⟩]
theorem swap_box {g : Nat} {a b : Value} {c0 c1 : Value} {W : World} (h : BoxAt g #[c0, c1] 28 W) : BoxAt g #[a, b] 28 ((W.setCell ⟨g, 0, none⟩ a).setCell ⟨g, 1, none⟩ b) := by
  have h' : W.heap[g]? = some (.cells #[c0, c1] 28 (0, 0)) := h
  simp [BoxAt, World.setCell, Array.getElem?_modify, h']

theorem NatX.drew1 {K : NatK} {B b : Nat} {xs : List Int} {w : World} (h : NatX K B b xs w) : NatX K B b xs w.drew := h
theorem Row.drew1 {w : World} {lo hi : Nat} {v : Value} {xs : List Value} (h : Row w lo hi v xs) : Row w.drew lo hi v xs := h
theorem natAdd_any {K : NatK} (B b : Nat) (xs : List Int) (vy : Value) (ys : List Int) (lo hi : Nat) (w : World) (oa : natOkB xs = true) (ob : natOkB ys = true) (hhi : hi ≤ B) (hr : Row w lo hi vy (intsV ys)) (h : NatX K B b xs w) :
    Calls Tryd.prog 155 #[.pointer (some ⟨b, 0, none⟩), vy, .int .i64 1, .int .i64 0] w fun e w' => e = .returned (.tuple #[]) ∧ LeftX K B b (limbs (nval xs + nval ys).toNat) w w' := by
  have pa := natOk_parts oa
  have pb := natOk_parts ob
  refine (addTimes_any B b xs vy ys lo hi 1 0 w (by omega) (by omega) (by omega) (by omega) (by omega) pa.1 pb.1 hhi hr h).mono ?_
  rintro e w' ⟨rfl, zs, hl, hd, hv, hlen⟩
  rw [← add_limbs oa ob hd hv hlen]
  exact ⟨rfl, hl⟩
theorem nval_b50 {xs : List Int} (h : natOkB xs = true) : nval xs < bp 50 := by
  have p := natOk_parts h
  have h1 := nval_lt xs p.1
  have h2 := bp_mono p.2.1
  omega
theorem sum_short {xs ys : List Int} (oa : natOkB xs = true) (ob : natOkB ys = true) : (limbs (nval xs + nval ys).toNat).length ≤ 1048576 := by
  have h1 := nval_b50 oa
  have h2 := nval_b50 ob
  have h3 := nval_ok oa
  have h4 := nval_ok ob
  have e : bp 51 = 1000000000 * bp 50 := rfl
  have h5 := bp_pos 50
  have h6 := limbs_length_le (nval xs + nval ys).toNat 51 (by rw [Int.toNat_of_nonneg (by omega)]; omega)
  omega
theorem dif_short {xs ys : List Int} (oa : natOkB xs = true) (ob : natOkB ys = true) (hle : nval ys ≤ nval xs) : (limbs (nval xs - nval ys).toNat).length ≤ 1048576 := by
  have h1 := nval_b50 oa
  have h4 := nval_ok ob
  have h6 := limbs_length_le (nval xs - nval ys).toNat 50 (by rw [Int.toNat_of_nonneg (by omega)]; omega)
  omega
theorem below_low {B C : Nat} {w w1 w2 : World} (h : Below B w w1) (k : Below C w1 w2) (hB : B ≤ C) : Below B w w2 :=
  ⟨k.os.trans h.os, k.tape.trans h.tape, k.output.trans h.output, Nat.le_trans h.size k.size, fun i hi => (k.block i (by omega)).trans (h.block i hi)⟩
set_option maxHeartbeats 4000000 in
set_option maxRecDepth 100000 in
theorem implIntAdd_any (vx vy : Value) (x y : SI) (w : World) (hlx : x.2.length ≤ 1048576) (hly : y.2.length ≤ 1048576) (hx : OwnS vx x w) (hy : OwnS vy y w) :
    Calls Tryd.prog 100 #[vx, vy] w (NewS (addS x y) w) := by
  obtain ⟨ux, rfl, hox⟩ := hx
  obtain ⟨uy, rfl, hoy⟩ := hy
  obtain ⟨Ax, cx, rfl⟩ := own_len hox
  obtain ⟨Ay, cy, rfl⟩ := own_len hoy
  obtain ⟨W0, hW0⟩ : ∃ W0, W0 = ((w.alloc (.cells #[.bool x.1, .slice Ax x.2.length cx] 28)).alloc (.cells #[.bool y.1, .slice Ay y.2.length cy] 28)).alloc (.cells #[.bool false, .slice none 0 0] 28) := ⟨_, rfl⟩
  have hbb : Below w.heap.size w W0 := by rw [hW0]; exact below_al (below_al (below_al (Below.refl _ _) _) _) _
  have h3 := alloc3 w (.cells #[.bool x.1, .slice Ax x.2.length cx] 28) (.cells #[.bool y.1, .slice Ay y.2.length cy] 28) (.cells #[.bool false, .slice none 0 0] 28)
  rw [← hW0] at h3
  have kx : At [w.heap.size] (BoxAt w.heap.size #[.bool x.1, .slice Ax x.2.length cx] 28) W0 := box_at h3.1
  have ky : At [w.heap.size + 1] (BoxAt (w.heap.size + 1) #[.bool y.1, .slice Ay y.2.length cy] 28) W0 := box_at h3.2.1
  have kr : At [w.heap.size + 1 + 1] (BoxAt (w.heap.size + 1 + 1) #[.bool false, .slice none 0 0] 28) W0 := box_at h3.2.2.1
  have ox := own_below hox hbb
  have oy := own_below hoy hbb
  have rdx := (OwnS.mk (x := x) (ownI_of ox)).rd
  have HW := Lib.hid hW0
  have cx0 := kx.here.cell 0 _ rfl
  have cx1 := kx.here.cell 1 _ rfl
  clear h3 hox hoy hW0
  by_cases okx : okS x = true
  · go_enter Tryd.func100, Tryd.ntmps100
    go_wp2_with fail
    rw [← HW.out]
    refine (implIntOk_any _ x _ hlx rdx).mono ?_
    rintro e w1 ⟨rfl, b1⟩
    rw [okx]
    have bb1 := Below.next hbb b1
    replace kx := kx.below b1
    replace ky := ky.below b1
    replace kr := kr.below b1
    replace ox := own_below ox b1
    replace oy := own_below oy b1
    have cy0 := ky.here.cell 0 _ rfl
    have cy1 := ky.here.cell 1 _ rfl
    clear rdx cx0 cx1
    go_wp2_with fail
    refine (implIntOk_any _ y w1 hly (OwnS.mk (x := y) (ownI_of oy)).rd).mono ?_
    rintro e w2 ⟨rfl, b2⟩
    have bb2 := Below.next bb1 b2
    replace kx := kx.below b2
    replace ky := ky.below b2
    replace kr := kr.below b2
    replace ox := own_below ox b2
    replace oy := own_below oy b2
    clear cy0 cy1
    by_cases oky : okS y = true
    · rw [oky]
      have HZ := Lib.hid (addS_ok okx oky).symm
      have OKX := Lib.hid okx
      have OKY := Lib.hid oky
      have px := okS_parts okx
      have py := okS_parts oky
      have Nx := Lib.hid px.1
      have Ny := Lib.hid py.1
      have Dx := Lib.hid (natOk_parts px.1)
      have Dy := Lib.hid (natOk_parts py.1)
      have hlx5 := Dx.out.2.1
      have hly5 := Dy.out.2.1
      have cx0 := kx.here.cell 0 _ rfl
      have cx1 := kx.here.cell 1 _ rfl
      have cy0 := ky.here.cell 0 _ rfl
      have cy1 := ky.here.cell 1 _ rfl
      have rx := (ownI_of ox).row
      have ry := (ownI_of oy).row
      have hlt2 : w.heap.size + 1 + 1 < w2.heap.size := kr.lt _ (by simp)
      clear okx oky px py b1 b2
      go_upto_region 3 with fail
      go_wp2_with fail
      refine (compareLimbs_any _ _ x.2 y.2 0 _ 0 _ w2 (by omega) (by omega) ⟨Dx.out.1, Dx.out.2.2⟩ ⟨Dy.out.1, Dy.out.2.2⟩ rx ry).mono ?_
      rintro e w' ⟨rfl, q, rfl⟩
      clear cx0 cx1 cy0 cy1
      obtain ⟨W3, hW3⟩ : ∃ W3, W3 = w2.drewN q := ⟨_, rfl⟩
      have b3 : Below w2.heap.size w2 W3 := by rw [hW3]; exact below_drewN (Below.refl _ _) q
      have bb3 := Below.next bb2 b3
      have hlt3 : w.heap.size + 1 + 1 < W3.heap.size := by rw [hW3]; exact hlt2
      replace kx := kx.below b3
      replace ky := ky.below b3
      replace kr := kr.below b3
      replace ox := own_below ox b3
      replace oy := own_below oy b3
      rw [← hW3]
      clear rx ry b3 hW3 bb1 bb2 hlt2
      by_cases hle : nval y.2 ≤ nval x.2
      · have hz : 0 ≤ cmpI (nval x.2) (nval y.2) := by unfold cmpI; split <;> (try split) <;> omega
        have HLE := Lib.hid hle
        have OKP := OKX
        have OKQ := OKY
        have NP := Nx
        have NQ := Ny
        generalize cmpI (nval x.2) (nval y.2) = z at *
        have hzb : decide (z < 0) = false := decide_eq_false (by omega)
        clear hz hle
        obtain ⟨kP, kQ, oP, oQ⟩ : _ ∧ _ ∧ _ ∧ _ := ⟨kx, ky, ox, oy⟩
        clear kx ky ox oy
        -- P: the greater magnitude
        have rdP := (OwnS.mk (x := x) (ownI_of oP)).rd
        have cp0 := kP.here.cell 0 _ rfl
        have cp1 := kP.here.cell 1 _ rfl
        go_wp2_with fail
        refine (copyInt_any _ x W3 (by omega) rdP).mono ?_
        rintro e w4 ⟨b, rfl, hnx, b4⟩
        have bb4 := Below.next bb3 b4
        have hrQ : Row w4 0 W3.heap.size (.slice Ay y.2.length cy) (intsV y.2) := (ownI_of oQ).row.below b4 (Nat.le_refl _)
        replace kP := kP.below b4
        replace kQ := kQ.below b4
        replace kr := kr.below b4
        clear cp0 cp1 rdP oP oQ
        have cp0 := kP.here.cell 0 _ rfl
        have cq0 := kQ.here.cell 0 _ rfl
        have cq1 := kQ.here.cell 1 _ rfl
        have HKQ := Lib.hid kQ
        have HKR := Lib.hid kr
        have HNX := Lib.hid hnx
        have HRQ := Lib.hid hrQ
        have hsz3 : w.heap.size + 1 + 1 < W3.heap.size := hlt3
        clear kP kQ kr hnx hrQ
        by_cases hs : x.1 = y.1
        · have hsb : (x.1 == y.1) = true := by rw [hs]; simp
          have HV := Lib.hid ((add_mk OKP.out OKQ.out hs).trans HZ.out)
          clear hs HZ
          go_upto_region 9 with fail
          go_cut [] (fun wx => Hid (NatX (intK x.1) W3.heap.size b (limbs (nval x.2 + nval y.2).toNat) wx) ∧ Below W3.heap.size w4 wx)
          case first =>
            go_wp2_with fail
            go_region_with (go_at_call 155; refine (natAdd_any W3.heap.size b x.2 _ y.2 0 W3.heap.size _ NP.out NQ.out (Nat.le_refl _) HRQ.out.drew1 HNX.out.drew1).mono ?_; rintro e w5 ⟨rfl, hp5⟩; have H5 := Lib.hid hp5; clear hp5)
            all_goals
              go_wp2_with fail
              go_meet
              exact ⟨Lib.hid H5.out.1, (Below.drew1 (Below.refl _ _)).trans H5.out.2⟩
          rename World => w6
          obtain ⟨HX, b6⟩ := hcut
          have bb6 := below_low bb4 b6 (by omega)
          have kr6 := HKR.out.belowB b6 (fun g hg => by simp at hg; omega)
          clear cp0 cq0 cq1
          go_wp2_with fail
          refine (signed_any _ _ b _ _ (sum_short NP.out NQ.out) HX.out).mono ?_
          rw [HV.out]
          rintro e w7 ⟨u7, rfl, o7, b7⟩
          generalize addS x y = z7 at *
          obtain ⟨A7, c7, rfl⟩ := own_len o7
          have bb7 := Below.next bb6 b7
          have kr7 := kr6.below b7
          have cz0 := kr7.here.cell 0 _ rfl
          have cz1 := kr7.here.cell 1 _ rfl
          have fz0 := Lib.frozen_of_heap kr7.here 0
          have fz1 := Lib.frozen_of_heap kr7.here 1
          have HO := Lib.hid o7
          have HK := Lib.hid kr7
          clear o7 kr6 kr7 HX HV
          go_wp2
          refine bodyPost_ret (v := .agg #[.bool _, .slice A7 _ c7]) (by simp [results, Tryd.results100, go_sem, cz0, cz1]; exact ⟨rfl, rfl⟩) rfl ?_
          exact newS_ret HK.out.here HO.out (by omega) (by omega) bb7
        · have hsb : (x.1 == y.1) = false := by rw [beq_eq_false_iff_ne]; exact hs
          have HV := Lib.hid ((sub_mk OKP.out OKQ.out hs HLE.out).trans HZ.out)
          clear hs HZ
          go_upto_region 9 with fail
          go_cut [] (fun wx => Hid (NatX (intK x.1) W3.heap.size b (limbs (nval x.2 - nval y.2).toNat) wx) ∧ Below W3.heap.size w4 wx)
          case first =>
            go_wp2_with fail
            go_region_with (go_at_call 156; refine (natTake_any W3.heap.size b x.2 _ y.2 0 W3.heap.size _ (by omega) (lens_of_le NP.out NQ.out HLE.out) (natOk_parts NP.out).1 (natOk_parts NQ.out).1 HLE.out (Nat.le_refl _) HRQ.out.drew1 HNX.out.drew1).mono ?_; rintro e w5 ⟨rfl, hp5⟩; have H5 := Lib.hid hp5; clear hp5)
            all_goals
              go_wp2_with fail
              go_meet
              exact ⟨Lib.hid H5.out.1, (Below.drew1 (Below.refl _ _)).trans H5.out.2⟩
          rename World => w6
          obtain ⟨HX, b6⟩ := hcut
          have bb6 := below_low bb4 b6 (by omega)
          have kr6 := HKR.out.belowB b6 (fun g hg => by simp at hg; omega)
          clear cp0 cq0 cq1
          go_wp2_with fail
          refine (signed_any _ _ b _ _ (dif_short NP.out NQ.out HLE.out) HX.out).mono ?_
          rw [HV.out]
          rintro e w7 ⟨u7, rfl, o7, b7⟩
          generalize addS x y = z7 at *
          obtain ⟨A7, c7, rfl⟩ := own_len o7
          have bb7 := Below.next bb6 b7
          have kr7 := kr6.below b7
          have cz0 := kr7.here.cell 0 _ rfl
          have cz1 := kr7.here.cell 1 _ rfl
          have fz0 := Lib.frozen_of_heap kr7.here 0
          have fz1 := Lib.frozen_of_heap kr7.here 1
          have HO := Lib.hid o7
          have HK := Lib.hid kr7
          clear o7 kr6 kr7 HX HV
          go_wp2
          refine bodyPost_ret (v := .agg #[.bool _, .slice A7 _ c7]) (by simp [results, Tryd.results100, go_sem, cz0, cz1]; exact ⟨rfl, rfl⟩) rfl ?_
          exact newS_ret HK.out.here HO.out (by omega) (by omega) bb7
      · have hz : cmpI (nval x.2) (nval y.2) < 0 := by unfold cmpI; rw [if_pos (by omega)]; omega
        have hle2 : nval x.2 ≤ nval y.2 := by omega
        have HLE := Lib.hid hle2
        have OKP := OKY
        have OKQ := OKX
        have NP := Ny
        have NQ := Nx
        replace HZ : Hid (ofZ (valS y + valS x) = addS x y) := Lib.hid (by rw [Int.add_comm]; exact HZ.out)
        generalize cmpI (nval x.2) (nval y.2) = z at *
        have hzb : decide (z < 0) = true := decide_eq_true hz
        clear hz hle hle2
        have cx0 := kx.here.cell 0 _ rfl
        have cx1 := kx.here.cell 1 _ rfl
        have cy0 := ky.here.cell 0 _ rfl
        have cy1 := ky.here.cell 1 _ rfl
        have fx0 := Lib.frozen_of_heap kx.here 0
        have fx1 := Lib.frozen_of_heap kx.here 1
        have fy0 := Lib.frozen_of_heap ky.here 0
        have fy1 := Lib.frozen_of_heap ky.here 1
        have HKX := Lib.hid kx
        have HKY := Lib.hid ky
        clear kx ky
        go_upto_region 5 with fail
        obtain ⟨V3, hV3⟩ : ∃ V3, V3 = (((W3.setCell ⟨w.heap.size, 0, none⟩ (.bool y.1)).setCell ⟨w.heap.size, 1, none⟩ (.slice Ay y.2.length cy)).setCell ⟨w.heap.size + 1, 0, none⟩ (.bool x.1)).setCell ⟨w.heap.size + 1, 1, none⟩ (.slice Ax x.2.length cx) := ⟨_, rfl⟩
        rw [← hV3]
        have hsame : ∀ i, i ≠ w.heap.size → i ≠ w.heap.size + 1 → V3.heap[i]? = W3.heap[i]? := fun i h1 h2 => by
          rw [hV3, Below.heap_setCell _ _ _ _ h2, Below.heap_setCell _ _ _ _ h2, Below.heap_setCell _ _ _ _ h1, Below.heap_setCell _ _ _ _ h1]
        have hsize : V3.heap.size = W3.heap.size := by rw [hV3]; simp [World.setCell]
        have hnx0 := Lib.ownBlock_ne ox HKX.out.here (by decide)
        have hnx1 := Lib.ownBlock_ne ox HKY.out.here (by decide)
        have hny0 := Lib.ownBlock_ne oy HKX.out.here (by decide)
        have hny1 := Lib.ownBlock_ne oy HKY.out.here (by decide)
        have oP : V3.ownsRow 0 3 1 (.slice Ay y.2.length cy) y.2.length (intsV y.2) := own_stays (own_zero oy) fun i hi => hsame i (fun e => hny0 (by rw [hi, e])) (fun e => hny1 (by rw [hi, e]))
        have oQ : V3.ownsRow 0 3 1 (.slice Ax x.2.length cx) x.2.length (intsV x.2) := own_stays (own_zero ox) fun i hi => hsame i (fun e => hnx0 (by rw [hi, e])) (fun e => hnx1 (by rw [hi, e]))
        have kP : At [w.heap.size] (BoxAt w.heap.size #[.bool y.1, .slice Ay y.2.length cy] 28) V3 := box_at (by
          show V3.heap[w.heap.size]? = _
          rw [hV3, Below.heap_setCell _ _ _ _ (by simp), Below.heap_setCell _ _ _ _ (by simp)]
          exact swap_box HKX.out.here)
        have kQ : At [w.heap.size + 1] (BoxAt (w.heap.size + 1) #[.bool x.1, .slice Ax x.2.length cx] 28) V3 := box_at (by
          rw [hV3]
          refine swap_box (c0 := .bool y.1) (c1 := .slice Ay y.2.length cy) ?_
          show (World.heap _)[w.heap.size + 1]? = _
          rw [Below.heap_setCell _ _ _ _ (by simp), Below.heap_setCell _ _ _ _ (by simp)]
          exact HKY.out.here)
        replace kr : At [w.heap.size + 1 + 1] (BoxAt (w.heap.size + 1 + 1) #[.bool false, .slice none 0 0] 28) V3 := kr.move (fun g hg => by simp at hg; subst hg; exact hsame _ (by omega) (by omega)) (by omega)
        replace bb3 : Below w.heap.size w V3 := by rw [hV3]; exact below_set2 (below_set2 bb3 (Nat.le_refl _)) (by omega)
        replace hlt3 : w.heap.size + 1 + 1 < V3.heap.size := by omega
        clear hV3 hsame hsize hnx0 hnx1 hny0 hny1 ox oy cx0 cx1 cy0 cy1 fx0 fx1 fy0 fy1 HKX HKY
        -- P: the greater magnitude
        have rdP := (OwnS.mk (x := y) (ownI_of oP)).rd
        have cp0 := kP.here.cell 0 _ rfl
        have cp1 := kP.here.cell 1 _ rfl
        go_wp2_with fail
        refine (copyInt_any _ y V3 (by omega) rdP).mono ?_
        rintro e w4 ⟨b, rfl, hnx, b4⟩
        have bb4 := Below.next bb3 b4
        have hrQ : Row w4 0 V3.heap.size (.slice Ax x.2.length cx) (intsV x.2) := (ownI_of oQ).row.below b4 (Nat.le_refl _)
        replace kP := kP.below b4
        replace kQ := kQ.below b4
        replace kr := kr.below b4
        clear cp0 cp1 rdP oP oQ
        have cp0 := kP.here.cell 0 _ rfl
        have cq0 := kQ.here.cell 0 _ rfl
        have cq1 := kQ.here.cell 1 _ rfl
        have HKQ := Lib.hid kQ
        have HKR := Lib.hid kr
        have HNX := Lib.hid hnx
        have HRQ := Lib.hid hrQ
        have hsz3 : w.heap.size + 1 + 1 < V3.heap.size := hlt3
        clear kP kQ kr hnx hrQ
        by_cases hs : y.1 = x.1
        · have hsb : (y.1 == x.1) = true := by rw [hs]; simp
          have HV := Lib.hid ((add_mk OKP.out OKQ.out hs).trans HZ.out)
          clear hs HZ
          go_upto_region 9 with fail
          go_cut [] (fun wx => Hid (NatX (intK y.1) V3.heap.size b (limbs (nval y.2 + nval x.2).toNat) wx) ∧ Below V3.heap.size w4 wx)
          case first =>
            go_wp2_with fail
            go_region_with (go_at_call 155; refine (natAdd_any V3.heap.size b y.2 _ x.2 0 V3.heap.size _ NP.out NQ.out (Nat.le_refl _) HRQ.out.drew1 HNX.out.drew1).mono ?_; rintro e w5 ⟨rfl, hp5⟩; have H5 := Lib.hid hp5; clear hp5)
            all_goals
              go_wp2_with fail
              go_meet
              exact ⟨Lib.hid H5.out.1, (Below.drew1 (Below.refl _ _)).trans H5.out.2⟩
          rename World => w6
          obtain ⟨HX, b6⟩ := hcut
          have bb6 := below_low bb4 b6 (by omega)
          have kr6 := HKR.out.belowB b6 (fun g hg => by simp at hg; omega)
          clear cp0 cq0 cq1
          go_wp2_with fail
          refine (signed_any _ _ b _ _ (sum_short NP.out NQ.out) HX.out).mono ?_
          rw [HV.out]
          rintro e w7 ⟨u7, rfl, o7, b7⟩
          generalize addS x y = z7 at *
          obtain ⟨A7, c7, rfl⟩ := own_len o7
          have bb7 := Below.next bb6 b7
          have kr7 := kr6.below b7
          have cz0 := kr7.here.cell 0 _ rfl
          have cz1 := kr7.here.cell 1 _ rfl
          have fz0 := Lib.frozen_of_heap kr7.here 0
          have fz1 := Lib.frozen_of_heap kr7.here 1
          have HO := Lib.hid o7
          have HK := Lib.hid kr7
          clear o7 kr6 kr7 HX HV
          go_wp2
          refine bodyPost_ret (v := .agg #[.bool _, .slice A7 _ c7]) (by simp [results, Tryd.results100, go_sem, cz0, cz1]; exact ⟨rfl, rfl⟩) rfl ?_
          exact newS_ret HK.out.here HO.out (by omega) (by omega) bb7
        · have hsb : (y.1 == x.1) = false := by rw [beq_eq_false_iff_ne]; exact hs
          have HV := Lib.hid ((sub_mk OKP.out OKQ.out hs HLE.out).trans HZ.out)
          clear hs HZ
          go_upto_region 9 with fail
          go_cut [] (fun wx => Hid (NatX (intK y.1) V3.heap.size b (limbs (nval y.2 - nval x.2).toNat) wx) ∧ Below V3.heap.size w4 wx)
          case first =>
            go_wp2_with fail
            go_region_with (go_at_call 156; refine (natTake_any V3.heap.size b y.2 _ x.2 0 V3.heap.size _ (by omega) (lens_of_le NP.out NQ.out HLE.out) (natOk_parts NP.out).1 (natOk_parts NQ.out).1 HLE.out (Nat.le_refl _) HRQ.out.drew1 HNX.out.drew1).mono ?_; rintro e w5 ⟨rfl, hp5⟩; have H5 := Lib.hid hp5; clear hp5)
            all_goals
              go_wp2_with fail
              go_meet
              exact ⟨Lib.hid H5.out.1, (Below.drew1 (Below.refl _ _)).trans H5.out.2⟩
          rename World => w6
          obtain ⟨HX, b6⟩ := hcut
          have bb6 := below_low bb4 b6 (by omega)
          have kr6 := HKR.out.belowB b6 (fun g hg => by simp at hg; omega)
          clear cp0 cq0 cq1
          go_wp2_with fail
          refine (signed_any _ _ b _ _ (dif_short NP.out NQ.out HLE.out) HX.out).mono ?_
          rw [HV.out]
          rintro e w7 ⟨u7, rfl, o7, b7⟩
          generalize addS x y = z7 at *
          obtain ⟨A7, c7, rfl⟩ := own_len o7
          have bb7 := Below.next bb6 b7
          have kr7 := kr6.below b7
          have cz0 := kr7.here.cell 0 _ rfl
          have cz1 := kr7.here.cell 1 _ rfl
          have fz0 := Lib.frozen_of_heap kr7.here 0
          have fz1 := Lib.frozen_of_heap kr7.here 1
          have HO := Lib.hid o7
          have HK := Lib.hid kr7
          clear o7 kr6 kr7 HX HV
          go_wp2
          refine bodyPost_ret (v := .agg #[.bool _, .slice A7 _ c7]) (by simp [results, Tryd.results100, go_sem, cz0, cz1]; exact ⟨rfl, rfl⟩) rfl ?_
          exact newS_ret HK.out.here HO.out (by omega) (by omega) bb7
    · have oky' : okS y = false := by simpa using oky
      have HV := Lib.hid (show addS x y = zeroS by unfold addS; rw [if_neg (fun h => oky h.2)])
      rw [oky']
      have cz0 := kr.here.cell 0 _ rfl
      have cz1 := kr.here.cell 1 _ rfl
      have fz0 := Lib.frozen_of_heap kr.here 0
      have fz1 := Lib.frozen_of_heap kr.here 1
      clear oky kx ky kr ox oy
      go_wp2
      refine bodyPost_ret (v := .agg #[.bool false, .slice none 0 0]) (by simp [results, Tryd.results100, go_sem, cz0, cz1]) rfl ?_
      rw [HV.out]
      exact newS_zero (below_set2 bb2 (by omega))
  · have okx' : okS x = false := by simpa using okx
    have HV := Lib.hid (show addS x y = zeroS by unfold addS; rw [if_neg (fun h => okx h.1)])
    clear okx
    go_enter Tryd.func100, Tryd.ntmps100
    go_wp2_with fail
    rw [← HW.out]
    refine (implIntOk_any _ x _ hlx rdx).mono ?_
    rintro e w1 ⟨rfl, b1⟩
    rw [okx']
    have bb1 := Below.next hbb b1
    replace kr := kr.below b1
    have cz0 := kr.here.cell 0 _ rfl
    have cz1 := kr.here.cell 1 _ rfl
    have fz0 := Lib.frozen_of_heap kr.here 0
    have fz1 := Lib.frozen_of_heap kr.here 1
    clear kx ky kr rdx ox oy cx0 cx1
    go_wp2
    refine bodyPost_ret (v := .agg #[.bool false, .slice none 0 0]) (by simp [results, Tryd.results100, go_sem, cz0, cz1]) rfl ?_
    rw [HV.out]
    exact newS_zero (below_set2 bb1 (by omega))
theorem negS_len (x : SI) : (negS x).2.length ≤ 1048576 := by
  have := (natOk_parts (okS_parts (negS_ok x)).1).2.1
  omega
theorem sub_add (x : SI) {y : SI} (oky : okS y = true) : subS x y = addS x (negS y) := by
  unfold subS addS
  by_cases okx : okS x = true
  · rw [if_pos ⟨okx, oky⟩, if_pos ⟨okx, negS_ok y⟩, negS_val oky]; rfl
  · rw [if_neg (fun h => okx h.1), if_neg (fun h => okx h.1)]
set_option maxHeartbeats 4000000 in
set_option maxRecDepth 100000 in
theorem implIntSub_any (vx vy : Value) (x y : SI) (w : World) (hlx : x.2.length ≤ 1048576) (hly : y.2.length ≤ 1048576) (hx : OwnS vx x w) (hy : OwnS vy y w) :
    Calls Tryd.prog 48 #[vx, vy] w (NewS (subS x y) w) := by
  obtain ⟨ux, rfl, hox⟩ := hx
  obtain ⟨uy, rfl, hoy⟩ := hy
  obtain ⟨Ax, cx, rfl⟩ := own_len hox
  obtain ⟨Ay, cy, rfl⟩ := own_len hoy
  obtain ⟨W0, hW0⟩ : ∃ W0, W0 = ((w.alloc (.cells #[.bool x.1, .slice Ax x.2.length cx] 28)).alloc (.cells #[.bool y.1, .slice Ay y.2.length cy] 28)).alloc (.cells #[.bool false, .slice none 0 0] 28) := ⟨_, rfl⟩
  have hbb : Below w.heap.size w W0 := by rw [hW0]; exact below_al (below_al (below_al (Below.refl _ _) _) _) _
  have h3 := alloc3 w (.cells #[.bool x.1, .slice Ax x.2.length cx] 28) (.cells #[.bool y.1, .slice Ay y.2.length cy] 28) (.cells #[.bool false, .slice none 0 0] 28)
  rw [← hW0] at h3
  have kx : At [w.heap.size] (BoxAt w.heap.size #[.bool x.1, .slice Ax x.2.length cx] 28) W0 := box_at h3.1
  have ky : At [w.heap.size + 1] (BoxAt (w.heap.size + 1) #[.bool y.1, .slice Ay y.2.length cy] 28) W0 := box_at h3.2.1
  have kr : At [w.heap.size + 1 + 1] (BoxAt (w.heap.size + 1 + 1) #[.bool false, .slice none 0 0] 28) W0 := box_at h3.2.2.1
  have atx := own_at hox
  have aty := own_at hoy
  have ltx := atx.lt
  have lty := aty.lt
  have OFx := Lib.hid (show ∀ W, Chg [w.heap.size + 1 + 1] W0 W → OwnI (.slice Ax x.2.length cx) x.2 W from fun W hc => ((atx.below hbb).chg hc (fun i hi hm => by have := ltx i hi; simp at hm; omega)).here)
  have OFy := Lib.hid (show ∀ W, Chg [w.heap.size + 1 + 1] W0 W → OwnI (.slice Ay y.2.length cy) y.2 W from fun W hc => ((aty.below hbb).chg hc (fun i hi hm => by have := lty i hi; simp at hm; omega)).here)
  have KL := Lib.hid (show ∀ W, Chg [w.heap.size + 1 + 1] W0 W → W.cell? ⟨w.heap.size, 0, none⟩ = some (.bool x.1) ∧ W.cell? ⟨w.heap.size, 1, none⟩ = some (.slice Ax x.2.length cx) ∧ W.cell? ⟨w.heap.size + 1, 0, none⟩ = some (.bool y.1) ∧ W.cell? ⟨w.heap.size + 1, 1, none⟩ = some (.slice Ay y.2.length cy) ∧ Hid (Chg [w.heap.size + 1 + 1] W0 W) from
    fun W hc => ⟨(kx.chg hc (fun i hi hm => by simp at hi hm; omega)).here.cell 0 _ rfl, (kx.chg hc (fun i hi hm => by simp at hi hm; omega)).here.cell 1 _ rfl, (ky.chg hc (fun i hi hm => by simp at hi hm; omega)).here.cell 0 _ rfl, (ky.chg hc (fun i hi hm => by simp at hi hm; omega)).here.cell 1 _ rfl, Lib.hid hc⟩)
  have HW := Lib.hid hW0
  have RDy := Lib.hid (show ∀ W, Below W0.heap.size W0 W → RdS W (.agg #[.bool y.1, .slice Ay y.2.length cy]) y from fun W hb => (OwnS.mk (x := y) (OFy.out W (Chg.of_below hb))).rd)
  have cx0 := kx.here.cell 0 _ rfl
  have cx1 := kx.here.cell 1 _ rfl
  have cy0 := ky.here.cell 0 _ rfl
  have cy1 := ky.here.cell 1 _ rfl
  have frz := Lib.frozen_of_heap kr.here
  clear h3 atx aty ltx lty hW0 hox hoy
  by_cases oky : okS y = true
  · have HV := Lib.hid (sub_add x oky)
    have hnl := negS_len y
    go_enter Tryd.func48, Tryd.ntmps48
    go_wp2_with fail
    rw [← HW.out]
    refine (implIntOk_any _ y W0 hly (RDy.out W0 (Below.refl _ _))).mono ?_
    rintro e w2 ⟨rfl, b02⟩
    rw [oky]
    have bb2 := Below.next hbb b02
    replace kx := kx.below b02
    replace ky := ky.below b02
    replace kr := kr.below b02
    clear cx0 cx1 cy0 cy1
    have cx0 := kx.here.cell 0 _ rfl
    have cx1 := kx.here.cell 1 _ rfl
    have cy0 := ky.here.cell 0 _ rfl
    have cy1 := ky.here.cell 1 _ rfl
    go_wp2_with fail
    have KF := Lib.hid (show ∀ W, Chg [w.heap.size + 1 + 1] w2 W → Chg [w.heap.size + 1 + 1] W0 W from fun W hc => (Chg.of_below b02).trans hc)
    clear cx0 cx1 cy0 cy1
    go_region_held3 (fun W => W.cell? ⟨w.heap.size, 0, none⟩ = some (.bool x.1) ∧ W.cell? ⟨w.heap.size, 1, none⟩ = some (.slice Ax x.2.length cx) ∧ W.cell? ⟨w.heap.size + 1, 0, none⟩ = some (.bool y.1) ∧ W.cell? ⟨w.heap.size + 1, 1, none⟩ = some (.slice Ay y.2.length cy) ∧ Hid (Chg [w.heap.size + 1 + 1] W0 W))
      ((refine KL.out _ ?_; (first | exact HC2.out | exact HC1.out | exact (Chg.setCell (Chg.setCell HC2.out (by simp) _) (by simp) _) | exact KF.out _ ⟨rfl, rfl, rfl, Nat.le_refl _, fun _ _ _ => rfl⟩ | fail)))
      (first
        | (go_at_call 38; (have hBB := (‹_ ∧ _ ∧ _ ∧ _ ∧ Hid (Chg [w.heap.size + 1 + 1] W0 _)›).2.2.2.2); (with_reducible refine (implIntNeg_any _ y _ hly (OwnS.mk (x := y) (OFy.out _ hBB.out))).mono ?_); rintro e w3' ⟨u3', rfl, o3', b3'⟩; have HC1 := Lib.hid (hBB.out.trans (Chg.of_below b3')); (have kr3 := At.behind kr b3' rfl); (have bb3' := Below.next (show Below w.heap.size w w2.drew from bb2.drew) b3'); obtain ⟨A3', c3', rfl⟩ := own_len o3'; clear hBB)
        | (go_at_call 100; (have hBB := (‹_ ∧ _ ∧ _ ∧ _ ∧ Hid (Chg [w.heap.size + 1 + 1] W0 _)›).2.2.2.2); (with_reducible refine (implIntAdd_any _ _ x (negS y) _ hlx hnl (OwnS.mk (x := x) (OFx.out _ hBB.out)) (OwnS.mk (x := negS y) (ownI_of o3'))).mono ?_); rintro e w3 ⟨u3, rfl, o3, b3⟩; have HC2 := Lib.hid (hBB.out.trans (Chg.of_below b3)); (have kr4 := kr3.below b3); (have bb3 := Below.next bb3' b3); (have cz0 := kr4.here.cell 0 _ rfl); (have cz1 := kr4.here.cell 1 _ rfl); (have fz0 := Lib.frozen_of_heap kr4.here 0); (have fz1 := Lib.frozen_of_heap kr4.here 1); obtain ⟨A3, c3, rfl⟩ := own_len o3; clear hBB))
    have HO := Lib.hid o3
    have HBB := Lib.hid bb3
    have HK := Lib.hid kr4
    have HZ := Lib.hid bb3'.size
    clear o3 bb3 kr kr3 kr4 kx ky o3' b3' b3
    go_wp2
    refine bodyPost_ret (v := .agg #[.bool _, .slice A3 _ c3]) (by simp [results, Tryd.results48, go_sem, cz0, cz1]; exact ⟨rfl, rfl⟩) rfl ?_
    rw [HV.out]
    exact newS_ret HK.out.here HO.out HZ.out (by omega) HBB.out
  · have oky2 : okS y = false := by simpa using oky
    have HV := Lib.hid (show subS x y = zeroS by unfold subS; rw [if_neg (fun h => oky h.2)])
    clear oky
    go_enter Tryd.func48, Tryd.ntmps48
    go_wp2_with fail
    rw [← HW.out]
    refine (implIntOk_any _ y W0 hly (RDy.out W0 (Below.refl _ _))).mono ?_
    rintro e w2 ⟨rfl, b2⟩
    rw [oky2]
    have bb2 := Below.next hbb b2
    replace kr := kr.below b2
    have cz0 := kr.here.cell 0 _ rfl
    have cz1 := kr.here.cell 1 _ rfl
    have fz0 := Lib.frozen_of_heap kr.here 0
    have fz1 := Lib.frozen_of_heap kr.here 1
    clear kx ky kr cx0 cx1 cy0 cy1
    go_wp2
    refine bodyPost_ret (v := .agg #[.bool false, .slice none 0 0]) (by simp [results, Tryd.results48, go_sem, cz0, cz1]) rfl ?_
    rw [HV.out]
    exact newS_zero (below_set2 bb2 (by omega))
end Go.Proofs.YthfkdofnoomhaaaDoor

namespace Go.Proofs.YthfkdofnoomhaaaDoor
open Go.RowKit


set_option maxHeartbeats 2000000 in
set_option maxRecDepth 100000 in
theorem implIntCmp_any (vx vy : Value) (x y : SI) (w : World) (hlx : x.2.length ≤ 1048576) (hly : y.2.length ≤ 1048576) (hx : OwnS vx x w) (hy : OwnS vy y w) :
    Calls Tryd.prog 37 #[vx, vy] w fun e w' => e = .returned (.int .i64 (cmpS x y)) ∧ Below w.heap.size w w' := by
  obtain ⟨ux, rfl, hox⟩ := hx
  obtain ⟨uy, rfl, hoy⟩ := hy
  obtain ⟨Ax, cx, rfl⟩ := own_len hox
  obtain ⟨Ay, cy, rfl⟩ := own_len hoy
  have hbb : Below w.heap.size w ((w.alloc (.cells #[.bool x.1, .slice Ax x.2.length cx] 28)).alloc (.cells #[.bool y.1, .slice Ay y.2.length cy] 28)) := below_al (below_al (Below.refl _ _) _) _
  have kx := (box_new w #[.bool x.1, .slice Ax x.2.length cx] 28).below (below_al (Below.refl _ _) (.cells #[.bool y.1, .slice Ay y.2.length cy] 28))
  have ky := box_new (w.alloc (.cells #[.bool x.1, .slice Ax x.2.length cx] 28)) #[.bool y.1, .slice Ay y.2.length cy] 28
  rw [show (w.alloc (.cells #[.bool x.1, .slice Ax x.2.length cx] 28)).heap.size = w.heap.size + 1 by simp] at ky
  have ox := own_below hox hbb
  have oy := own_below hoy hbb
  have rdx := (OwnS.mk (x := x) (ownI_of ox)).rd
  clear hox hoy
  by_cases okx : okS x = true
  · go_enter Tryd.func37, Tryd.ntmps37
    go_wp2_with fail
    refine (implIntOk_any _ x _ hlx rdx).mono ?_
    rintro e w1 ⟨rfl, b1⟩
    rw [okx]
    have bb1 := Below.next hbb b1
    replace kx := kx.below b1
    replace ky := ky.below b1
    replace ox := own_below ox b1
    replace oy := own_below oy b1
    have cy0 := ky.here.cell 0 _ rfl
    have cy1 := ky.here.cell 1 _ rfl
    clear rdx
    go_wp2_with fail
    refine (implIntOk_any _ y w1 hly (OwnS.mk (x := y) (ownI_of oy)).rd).mono ?_
    rintro e w2 ⟨rfl, b2⟩
    have bb2 := Below.next bb1 b2
    replace kx := kx.below b2
    replace ky := ky.below b2
    replace ox := own_below ox b2
    replace oy := own_below oy b2
    clear cy0 cy1
    by_cases oky : okS y = true
    · rw [oky]
      have HV := Lib.hid (show cmpS x y = cmpI (valS x) (valS y) by unfold cmpS; rw [if_pos ⟨okx, oky⟩])
      have px := okS_parts okx
      have py := okS_parts oky
      have h0x := nval_ok px.1
      have h0y := nval_ok py.1
      have Dx := Lib.hid (natOk_parts px.1)
      have Dy := Lib.hid (natOk_parts py.1)
      have cx0 := kx.here.cell 0 _ rfl
      have cx1 := kx.here.cell 1 _ rfl
      have cy0 := ky.here.cell 0 _ rfl
      have cy1 := ky.here.cell 1 _ rfl
      have hpx : x.1 = true → 0 < nval x.2 := fun h => okS_pos okx (px.2 h)
      have hpy : y.1 = true → 0 < nval y.2 := fun h => okS_pos oky (py.2 h)
      have HPX := Lib.hid hpx
      have HPY := Lib.hid hpy
      have rx := (ownI_of ox).row
      have ry := (ownI_of oy).row
      clear px py hpx hpy okx oky kx ky
      cases hx1 : x.1 <;> cases hy1 : y.1
      · rw [hx1] at cx0
        rw [hy1] at cy0
        have HC := Lib.hid (show cmpI (valS x) (valS y) = cmpI (nval x.2) (nval y.2) by unfold valS; rw [hx1, hy1]; rfl)
        clear hx1 hy1
        go_wp2_with fail
        refine (compareLimbs_any _ _ x.2 y.2 0 _ 0 _ w2 (by omega) (by omega) ⟨Dx.out.1, Dx.out.2.2⟩ ⟨Dy.out.1, Dy.out.2.2⟩ rx ry).mono ?_
        rintro e w' ⟨rfl, q, rfl⟩
        go_wp2
        go_ret
        exact ⟨ret_int (by rw [HV.out, HC.out]), below_drewN bb2 q⟩
      · rw [hx1] at cx0
        rw [hy1] at cy0
        have HC := Lib.hid (show cmpI (valS x) (valS y) = 1 by have := HPY.out hy1; unfold valS; rw [hx1, hy1]; simp; unfold cmpI; rw [if_neg (by omega), if_pos (by omega)])
        clear hx1 hy1
        go_wp2
        go_ret
        exact ⟨ret_int (by rw [HV.out, HC.out]), bb2⟩
      · rw [hx1] at cx0
        rw [hy1] at cy0
        have HC := Lib.hid (show cmpI (valS x) (valS y) = -1 by have := HPX.out hx1; unfold valS; rw [hx1, hy1]; simp; unfold cmpI; rw [if_pos (by omega)])
        clear hx1 hy1
        go_wp2
        go_ret
        exact ⟨ret_int (by rw [HV.out, HC.out]), bb2⟩
      · rw [hx1] at cx0
        rw [hy1] at cy0
        have HC := Lib.hid (show cmpI (valS x) (valS y) = cmpI (nval y.2) (nval x.2) by unfold valS; rw [hx1, hy1]; simp; unfold cmpI; split <;> split <;> (try split) <;> (try split) <;> omega)
        clear hx1 hy1
        go_wp2_with fail
        refine (compareLimbs_any _ _ y.2 x.2 0 _ 0 _ w2 (by omega) (by omega) ⟨Dy.out.1, Dy.out.2.2⟩ ⟨Dx.out.1, Dx.out.2.2⟩ ry rx).mono ?_
        rintro e w' ⟨rfl, q, rfl⟩
        go_wp2
        go_ret
        exact ⟨ret_int (by rw [HV.out, HC.out]), below_drewN bb2 q⟩
    · have oky' : okS y = false := by simpa using oky
      have HV := Lib.hid (show cmpS x y = 0 by unfold cmpS; rw [if_neg (fun h => oky h.2)])
      rw [oky']
      clear oky kx ky
      go_wp2
      go_ret
      exact ⟨ret_int HV.out.symm, bb2⟩
  · have okx' : okS x = false := by simpa using okx
    have HV := Lib.hid (show cmpS x y = 0 by unfold cmpS; rw [if_neg (fun h => okx h.1)])
    clear okx
    go_enter Tryd.func37, Tryd.ntmps37
    go_wp2_with fail
    refine (implIntOk_any _ x _ hlx rdx).mono ?_
    rintro e w1 ⟨rfl, b1⟩
    rw [okx']
    have bb1 := Below.next hbb b1
    clear kx ky rdx
    go_wp2
    go_ret
    exact ⟨ret_int HV.out.symm, bb1⟩

set_option maxHeartbeats 400000 in
set_option maxRecDepth 100000 in
theorem implIntSign_any (v : Value) (x : SI) (w : World) (hl : x.2.length ≤ 1048576) (h : OwnS v x w) :
    Calls Tryd.prog 106 #[v] w fun e w' => e = .returned (.int .i64 (cmpS x zeroS)) ∧ Below w.heap.size w w' := by
  obtain ⟨u, rfl, ho⟩ := h
  obtain ⟨A, c, rfl⟩ := own_len ho
  have hbb : Below w.heap.size w (w.alloc (.cells #[.bool x.1, .slice A x.2.length c] 28)) := below_al (Below.refl _ _) _
  have hoB := OwnS.mk (x := x) (ownI_of (own_below ho hbb))
  have hz : OwnS (.agg #[.bool false, .slice none 0 0]) zeroS (w.alloc (.cells #[.bool x.1, .slice A x.2.length c] 28)) := ⟨_, rfl, World.ownsRow_nil _ _ _ _⟩
  go_enter Tryd.func106, Tryd.ntmps106
  go_wp2_with fail
  refine (implIntCmp_any _ _ x zeroS _ hl (by decide) hoB hz).mono ?_
  rintro e w1 ⟨rfl, b1⟩
  go_wp2
  go_ret
  exact ⟨rfl, Below.next hbb b1⟩

end Go.Proofs.YthfkdofnoomhaaaDoor

namespace Go.Proofs.YthfkdofnoomhaaaDoor
open Go.RowKit

set_option maxHeartbeats 1000000 in
set_option maxRecDepth 100000 in
theorem implDecOk_any (vd : Value) (d : DI) (w : World) (hl : d.1.2.length ≤ 1048576) (hd : OwnD vd d w) :
    Calls Tryd.prog 55 #[vd] w (Postb (okD d) w) := by
  have Hd := Lib.hid hd
  obtain ⟨Ad, cd, rfl⟩ := ownD_form hd
  have ODd := Lib.hid (show ∀ W, Below w.heap.size w W → OwnD (.agg #[.bool d.1.1, .slice Ad d.1.2.length cd, .int .i64 d.2]) d W from fun W hb => OwnD.below Hd.out hb)
  have OId := Lib.hid (show ∀ W, Below w.heap.size w W → OwnI (.slice Ad d.1.2.length cd) d.1.2 W from fun W hb => ownD_open (ODd.out W hb))
  have OSd := Lib.hid (show ∀ W, Below w.heap.size w W → OwnS (.agg #[.bool d.1.1, .slice Ad d.1.2.length cd]) d.1 W from fun W hb => OwnS.mk (OId.out W hb))
  clear hd
  have bb0 : Below w.heap.size w (w.alloc (.cells #[.bool d.1.1, .slice Ad d.1.2.length cd, .int .i64 d.2] 33)) := below_al (Below.refl _ _) _
  have kd := (box_new w #[.bool d.1.1, .slice Ad d.1.2.length cd, .int .i64 d.2] 33)
  go_enter Tryd.func55, Tryd.ntmps55
  have kd_c0 := kd.here.cell 0 _ rfl
  have kd_c1 := kd.here.cell 1 _ rfl
  have kd_c2 := kd.here.cell 2 _ rfl
  go_wp2_with fail
  clear kd_c0 kd_c1 kd_c2
  refine (implIntOk_any _ d.1 _ hl (OwnS.rd (OSd.out _ bb0))).mono ?_
  rintro e w1 ⟨rfl, b1⟩
  have bb1 := Below.next bb0 b1
  replace kd := kd.below b1
  by_cases ok1 : okS d.1 = true
  · rw [ok1]
    have HO1 := Lib.hid ok1
    clear ok1
    by_cases hs : d.1.2.length ≤ 6
    · have HV0 := Lib.hid (show okD d = decide (0 ≤ d.2 ∧ d.2 ≤ 30) by unfold okD; rw [HO1.out, decide_eq_true hs]; rfl)
      have hs6 : (d.1.2.length : Int) ≤ 6 := by omega
      have hs7 : ¬ (6 : Int) < (d.1.2.length : Int) := by omega
      clear hs
      have kd_c0 := kd.here.cell 0 _ rfl
      have kd_c1 := kd.here.cell 1 _ rfl
      have kd_c2 := kd.here.cell 2 _ rfl
      by_cases h0 : 0 ≤ d.2
      · have h0n : ¬ d.2 < 0 := by omega
        have HV := Lib.hid (show okD d = decide (d.2 ≤ 30) by rw [HV0.out, decide_eq_decide]; exact ⟨fun h => h.2, fun h => ⟨h0, h⟩⟩)
        go_wp2
        go_ret
        exact ⟨ret_bool HV.out.symm, bb1⟩
      · have h0n : d.2 < 0 := by omega
        have HV := Lib.hid (show okD d = false by rw [HV0.out]; exact decide_eq_false (fun h => h0 h.1))
        go_wp2
        go_ret
        exact ⟨ret_bool HV.out.symm, bb1⟩
    · have HV := Lib.hid (show okD d = false by unfold okD; rw [decide_eq_false hs, Bool.false_and, Bool.and_false])
      have hs6 : ¬ (d.1.2.length : Int) ≤ 6 := by omega
      have hs7 : (6 : Int) < (d.1.2.length : Int) := by omega
      clear hs
      have kd_c0 := kd.here.cell 0 _ rfl
      have kd_c1 := kd.here.cell 1 _ rfl
      have kd_c2 := kd.here.cell 2 _ rfl
      go_wp2
      go_ret
      exact ⟨ret_bool HV.out.symm, bb1⟩
  · have ok1' : okS d.1 = false := by simpa using ok1
    have HV := Lib.hid (show okD d = false by unfold okD; rw [ok1']; rfl)
    rw [ok1']
    clear ok1 ok1'
    go_wp2
    go_ret
    exact ⟨ret_bool HV.out.symm, bb1⟩
set_option maxHeartbeats 1000000 in
set_option maxRecDepth 100000 in
theorem tenTo_any (k : Int) (w : World) : Calls Tryd.prog 57 #[.int .i64 k] w (NewV (fun u => OwnS u (tenS k)) w) := by
  have bb0 : Below w.heap.size w (w.alloc (.cells #[.bool false, .slice none 0 0] 28)) := below_al (Below.refl _ _) _
  have ko := (box_new w #[.bool false, .slice none 0 0] 28)
  have HKO := Lib.hid (ko.lt w.heap.size (by simp))
  go_enter Tryd.func57, Tryd.ntmps57
  go_wp2_with fail
  refine (implNatTen_any k _).mono ?_
  rintro e w1 ⟨v, rfl, o0, b1⟩
  obtain ⟨Af, cf, rfl⟩ := own_len o0
  have bb1 := Below.next bb0 b1
  replace ko := ko.below b1
  have of := (own_at' o0).imp (fun _ h => (OwnS.mk h : OwnS (.agg #[.bool (tenS k).1, .slice Af (tenN k).length cf]) (tenS k) _))
  have lf := own_within o0
  clear o0
  have HR := Lib.hid (newV_chg (φ := fun u => OwnS u (tenS k)) (v := .agg #[.bool false, .slice Af (tenN k).length cf]) (T := [w.heap.size]) of (fun i hi hm => by have := lf i hi; have := HKO.out; simp at hm; omega) (fun i hi => by simp at hi; omega) (fun i hi => by have := lf i hi; have := HKO.out; omega) bb1)
  have cz0 := ko.here.cell 0 _ rfl
  have fz0 := Lib.frozen_of_heap ko.here 0
  have cz1 := ko.here.cell 1 _ rfl
  have fz1 := Lib.frozen_of_heap ko.here 1
  clear of ko
  go_wp2
  refine bodyPost_ret (v := .agg #[.bool false, .slice Af (tenN k).length cf]) (by simp [results, Tryd.results57, go_sem, cz0, cz1]) rfl ?_
  refine HR.out _ ?_
  repeat (first | exact Chg.refl _ _ | refine Chg.setCell ?_ (by simp) _)
end Go.Proofs.YthfkdofnoomhaaaDoor

namespace Go.Proofs.YthfkdofnoomhaaaDoor
open Go.RowKit

theorem emptyP_ne {s : ByteArray} (h : ¬ s = ⟨#[]⟩) : s.toList.isEmpty = false := by
  rcases Bool.eq_false_or_eq_true s.toList.isEmpty with e | e
  · rw [List.isEmpty_iff, Lib.toList_data] at e
    exact absurd (WideShapes.bytes_inj (by rw [e])) h
  · exact e
theorem bytes_neP {a b : ByteArray} (h : ¬ a = b) : (a.toList == b.toList) = false := by
  rw [beq_eq_false_iff_ne, ByteArray.toList_eq, ByteArray.toList_eq]
  exact fun e => h (WideShapes.bytes_inj e)
theorem bytes_eqP {a b : ByteArray} (h : a = b) : (a.toList == b.toList) = true := by subst h; exact beq_self_eq_true _
theorem point_lt {s : ByteArray} {o : Nat} (h : pointAt s = o) : o < s.size := by
  obtain ⟨h1, _⟩ := Lib.indexByte_some h
  have := (List.getElem?_eq_some_iff.1 h1).1
  rw [listB_len] at this
  exact this
theorem point_casesD (s : ByteArray) : pointAt s = -1 ∨ ∃ o : Nat, pointAt s = o ∧ o < s.size := by
  have h := Lib.indexByte_ge s.data.toList 46
  by_cases e : pointAt s = -1
  · exact .inl e
  · have ho : pointAt s = ((pointAt s).toNat : Nat) := by unfold pointAt at *; omega
    exact .inr ⟨_, ho, point_lt ho⟩
set_option maxHeartbeats 400000 in
set_option maxRecDepth 100000 in
theorem liteCutP_none (s : ByteArray) (w : World) (h : pointAt s = -1) :
    Calls Tryd.prog 119 #[.string s, .string ⟨#[46]⟩] w fun e w' => e = .returned (.tuple #[.string (preB s), .string ⟨#[]⟩, .bool false]) ∧ w = w' := by
  have eh : preB s = s := by unfold preB; rw [if_pos (by omega)]
  rw [eh]
  go_enter Tryd.func119, Tryd.ntmps119
  go_wp2_with fail
  refine (Tryd.stringslite_Index_one s 46 _).mono ?_
  rintro e w1 ⟨rfl, rfl⟩
  rw [show Lib.indexByte s.data.toList 46 = -1 from h]
  go_wp2
  go_ret3
  exact ⟨rfl, rfl⟩
set_option maxHeartbeats 400000 in
set_option maxRecDepth 100000 in
theorem liteCutP_some (s : ByteArray) (o : Nat) (w : World) (hs : s.size ≤ 1048576) (h : pointAt s = o) :
    Calls Tryd.prog 119 #[.string s, .string ⟨#[46]⟩] w fun e w' => e = .returned (.tuple #[.string (preB s), .string (postB s), .bool true]) ∧ Below w.heap.size w w' := by
  have hl := point_lt h
  have eh : preB s = s.extract 0 o := by unfold preB; rw [if_neg (by omega), h, Int.toNat_natCast]
  have et : postB s = s.extract (o + 1) s.size := by unfold postB; rw [if_neg (by omega), h, Int.toNat_natCast]
  rw [eh, et]
  have c1 : (0 : Int) ≤ ↑o := by omega
  have c2 : (↑o : Int) ≤ ↑s.size := by omega
  have c3 : (0 : Int) ≤ ↑o + 1 := by omega
  have c4 : (↑o + 1 : Int) ≤ ↑s.size := by omega
  have c5 : (s.size : Int) ≤ 1048576 := by omega
  go_enter Tryd.func119, Tryd.ntmps119
  go_wp2_with fail
  refine (Tryd.stringslite_Index_one s 46 _).mono ?_
  rintro e w1 ⟨rfl, rfl⟩
  rw [show Lib.indexByte s.data.toList 46 = (o : Int) from h]
  go_wp2
  go_quiet (fail)
  go_wp2
  go_ret3
  exact ⟨rfl, below_drewN (Below.refl _ _) _⟩
set_option maxHeartbeats 400000 in
set_option maxRecDepth 100000 in
theorem cutP_none (s : ByteArray) (w : World) (h : pointAt s = -1) :
    Calls Tryd.prog 70 #[.string s, .string ⟨#[46]⟩] w fun e w' => e = .returned (.tuple #[.string (preB s), .string ⟨#[]⟩, .bool false]) ∧ Below w.heap.size w w' := by
  go_enter Tryd.func70, Tryd.ntmps70
  go_wp2_with fail
  refine (liteCutP_none s _ h).mono ?_
  rintro e w1 ⟨rfl, rfl⟩
  go_wp2
  go_ret3
  exact ⟨rfl, Below.refl _ _⟩
set_option maxHeartbeats 400000 in
set_option maxRecDepth 100000 in
theorem cutP_some (s : ByteArray) (o : Nat) (w : World) (hs : s.size ≤ 1048576) (h : pointAt s = o) :
    Calls Tryd.prog 70 #[.string s, .string ⟨#[46]⟩] w fun e w' => e = .returned (.tuple #[.string (preB s), .string (postB s), .bool true]) ∧ Below w.heap.size w w' := by
  go_enter Tryd.func70, Tryd.ntmps70
  go_wp2_with fail
  refine (liteCutP_some s o _ hs h).mono ?_
  rintro e w1 ⟨rfl, b1⟩
  go_wp2
  go_ret3
  exact ⟨rfl, b1⟩
theorem cutP_any (s : ByteArray) (w : World) (hs : s.size ≤ 1048576) :
    Calls Tryd.prog 70 #[.string s, .string ⟨#[46]⟩] w fun e w' => ∃ b : Bool, e = .returned (.tuple #[.string (preB s), .string (postB s), .bool b]) ∧ Below w.heap.size w w' := by
  rcases point_casesD s with h | ⟨o, h, _⟩
  · refine (cutP_none s w h).mono ?_
    rintro e w' ⟨rfl, b⟩
    have e2 : postB s = ⟨#[]⟩ := by unfold postB; rw [if_pos (by omega)]
    exact ⟨false, by rw [e2], b⟩
  · refine (cutP_some s o w hs h).mono ?_
    rintro e w' ⟨rfl, b⟩
    exact ⟨true, rfl, b⟩
set_option maxHeartbeats 1000000 in
set_option maxRecDepth 100000 in
theorem trimLeft_any (s : ByteArray) (w : World) :
    Calls Tryd.prog 72 #[.string s, .string ⟨#[48]⟩] w fun e w' => e = .returned (.string ⟨(Lib.trimLeftB s.data.toList 48).toArray⟩) ∧ Below w.heap.size w w' := by
  by_cases h0 : s = ⟨#[]⟩
  · subst h0
    go_enter Tryd.func72, Tryd.ntmps72
    go_wp2
    go_ret
    exact ⟨rfl, Below.refl _ _⟩
  · have hne := emptyP_ne h0
    have hne2 := bytes_neP h0
    clear h0
    go_enter Tryd.func72, Tryd.ntmps72
    go_wp2_with fail
    refine (Tryd.strings_trimLeftByte s 48 _).mono ?_
    rintro e w1 ⟨rfl, rfl⟩
    go_wp2
    go_ret
    exact ⟨rfl, Below.refl _ _⟩
theorem pre_post_size (s : ByteArray) : (preB s).size ≤ s.size ∧ (postB s).size ≤ s.size ∧ (preB s).size + (postB s).size ≤ s.size := by
  unfold preB postB
  split
  · exact ⟨Nat.le_refl _, Nat.zero_le _, Nat.le_refl _⟩
  · rw [ByteArray.size_extract, ByteArray.size_extract]
    omega
theorem trim_size (l : List UInt8) (c : UInt8) : (Lib.trimLeftB l c).length ≤ l.length := (List.dropWhile_sublist _).length_le
end Go.Proofs.YthfkdofnoomhaaaDoor
