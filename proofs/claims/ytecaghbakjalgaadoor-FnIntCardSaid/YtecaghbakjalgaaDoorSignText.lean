/-
  Chapter 5, signed numbers and their texts, in both packages.
-/
import Derived.Test.YtecaghbakjalgaaDoorNatText
import Derived.Test.YtecaghbakjalgaaDoorTextNatImpl
import Derived.Test.YtecaghbakjalgaaDoorNatDoorImpl
import Derived.Test.YtecaghbakjalgaaDoorSignSpec
import Derived.Test.YtecaghbakjalgaaDoorSignImpl
namespace Go.Proofs.YtecaghbakjalgaaDoor
open Go.RowKit

/-- the text of a signed number -/
def intStrB (x : SI) : ByteArray := if okS x = true then (if x.1 = true then ⟨#[45]⟩ ++ natTextB x.2 else natTextB x.2) else ⟨#[]⟩
/-- the number that a text is read as, and whether it is one -/
def siR (s : ByteArray) : SI := if decOk (bareB s) = true ∧ ¬ (negB s = true ∧ (tnR (bareB s)).length = 0) then (negB s, tnR (bareB s)) else zeroS
def siB (s : ByteArray) : Bool := decide (decOk (bareB s) = true ∧ ¬ (negB s = true ∧ (tnR (bareB s)).length = 0))
theorem tnR_ok {s : ByteArray} (h : decOk s = true) : natOkB (tnR s) = true := by
  have hd : digitsB s = true := by
    by_cases hd : digitsB s = true
    · exact hd
    · rw [decOk_dig s (by simpa using hd)] at h; exact absurd h (by decide)
  have h4 : s.size ≤ 450 := by
    by_cases h4 : s.size ≤ 450
    · exact h4
    · rw [decOk_long s h4] at h; exact absurd h (by decide)
  unfold tnR
  rw [if_pos h]
  exact limbs_okL _ (read_len s ((digitsB_iff s).1 hd).1 h4)
theorem tnR_bad {s : ByteArray} (h : ¬ decOk s = true) : tnR s = [] := by unfold tnR; rw [if_neg h]
theorem bareB_le (s : ByteArray) : (bareB s).size ≤ s.size := by
  cases h : negB s with
  | true => rw [← bareB_tail s h, ByteArray.size_extract]; omega
  | false => rw [bareB_self s h]; exact Nat.le_refl _
/-- a new signed number, and a bool -/
def NewSb (x : SI) (b : Bool) (w : World) (e : Ending) (w' : World) : Prop := ∃ u, e = .returned (.tuple #[.agg #[.bool x.1, u], .bool b]) ∧ w'.ownsRow w.heap.size 3 1 u x.2.length (intsV x.2) ∧ Below w.heap.size w w'
theorem newSb_ret {r : Nat} {u c0 c1 : Value} {x : SI} {b : Bool} {w W : World} {B : Nat} (hb : BoxAt r #[c0, c1] 25 W) (o : W.ownsRow B 3 1 u x.2.length (intsV x.2)) (hB : w.heap.size ≤ B) (hr : w.heap.size ≤ r) (hW : Below w.heap.size w W) :
    NewSb x b w (.returned (.tuple #[.agg #[.bool x.1, u], .bool b])) ((W.setCell ⟨r, 0, none⟩ (.bool x.1)).setCell ⟨r, 1, none⟩ u) := by
  have hne := Lib.ownBlock_ne o hb (by decide)
  refine ⟨u, rfl, own_low (own_stays o fun i hi => ?_) hB, below_set2 hW hr⟩
  have : i ≠ r := fun e => hne (by rw [hi, e])
  exact (Below.heap_setCell _ _ _ _ this).trans (Below.heap_setCell _ _ _ _ this)
theorem newSb_zero {b : Bool} {w W : World} (hW : Below w.heap.size w W) : NewSb zeroS b w (.returned (.tuple #[.agg #[.bool false, .slice none 0 0], .bool b])) W := ⟨_, rfl, World.ownsRow_nil _ _ _ _, hW⟩

set_option maxHeartbeats 1000000 in
set_option maxRecDepth 100000 in
theorem specIntStr_any (v : Value) (x : SI) (w : World) (hl : x.2.length ≤ 1048576) (h : RdS w v x) :
    Calls Tryd.prog 21 #[v] w fun e w' => e = .returned (.string (intStrB x)) ∧ Below w.heap.size w w' := by
  obtain ⟨u, rfl, hp⟩ := h
  obtain ⟨A, c, rfl⟩ := row_form hp
  rw [intsV_length] at hp
  rw [intsV_length]
  have hbx : Below w.heap.size w (w.alloc (.cells #[.bool x.1, .slice A x.2.length c] 25)) := below_al (Below.refl _ _) _
  have kb := box_new w #[.bool x.1, .slice A x.2.length c] 25
  have hrd := rdS_below hp hbx
  by_cases okx : okS x = true
  · have HV := Lib.hid (show intStrB x = if x.1 = true then ⟨#[45]⟩ ++ natTextB x.2 else natTextB x.2 by unfold intStrB; rw [if_pos okx])
    have hts := natTextB_size x.2
    go_enter Tryd.func21, Tryd.ntmps21
    go_wp2_with fail
    refine (specIntOk_any _ x _ hl hrd).mono ?_
    rintro e w1 ⟨rfl, b1⟩
    rw [okx]
    have bb1 := Below.next hbx b1
    replace kb := kb.below b1
    have hrow : Row w1 0 w.heap.size (.slice A x.2.length c) (intsV x.2) := hp.below bb1 (Nat.le_refl _)
    have hsz := bb1.size
    have cb0 := kb.here.cell 0 _ rfl
    have cb1 := kb.here.cell 1 _ rfl
    clear hrd okx hp
    cases hn : x.1 with
    | true =>
      rw [hn] at cb0 HV
      clear hn
      go_wp2_with fail
      refine (specNatText_any _ x.2 0 w.heap.size _ hl hsz hrow).mono ?_
      rintro e w2 ⟨rfl, b2⟩
      have bb2 := Below.next bb1 b2
      generalize natTextB x.2 = t at *
      clear hrow
      go_wp2
      go_ret
      exact ⟨ret_str (by rw [HV.out]; rfl), bb2⟩
    | false =>
      rw [hn] at cb0 HV
      clear hn
      go_wp2_with fail
      refine (specNatText_any _ x.2 0 w.heap.size _ hl hsz hrow).mono ?_
      rintro e w2 ⟨rfl, b2⟩
      have bb2 := Below.next bb1 b2
      generalize natTextB x.2 = t at *
      clear hrow
      go_wp2
      go_ret
      exact ⟨ret_str (by rw [HV.out]; rfl), bb2⟩
  · have okx' : okS x = false := by simpa using okx
    have HV := Lib.hid (show intStrB x = ⟨#[]⟩ by unfold intStrB; rw [if_neg okx])
    clear okx
    go_enter Tryd.func21, Tryd.ntmps21
    go_wp2_with fail
    refine (specIntOk_any _ x _ hl hrd).mono ?_
    rintro e w1 ⟨rfl, b1⟩
    rw [okx']
    have bb1 := Below.next hbx b1
    clear kb hrd
    go_wp2
    go_ret
    exact ⟨ret_str HV.out.symm, bb1⟩
set_option maxHeartbeats 1000000 in
set_option maxRecDepth 100000 in
theorem implIntStr_any (v : Value) (x : SI) (w : World) (hl : x.2.length ≤ 1048576) (h : RdS w v x) (ht : Tab w) :
    Calls Tryd.prog 8 #[v] w fun e w' => e = .returned (.string (intStrB x)) ∧ Below w.heap.size w w' := by
  obtain ⟨u, rfl, hp⟩ := h
  obtain ⟨A, c, rfl⟩ := row_form hp
  rw [intsV_length] at hp
  rw [intsV_length]
  have hbx : Below w.heap.size w (w.alloc (.cells #[.bool x.1, .slice A x.2.length c] 25)) := below_al (Below.refl _ _) _
  have kb := box_new w #[.bool x.1, .slice A x.2.length c] 25
  have hrd := rdS_below hp hbx
  by_cases okx : okS x = true
  · have HV := Lib.hid (show intStrB x = if x.1 = true then ⟨#[45]⟩ ++ natTextB x.2 else natTextB x.2 by unfold intStrB; rw [if_pos okx])
    have hts := natTextB_size x.2
    go_enter Tryd.func8, Tryd.ntmps8
    go_wp2_with fail
    refine (implIntOk_any _ x _ hl hrd).mono ?_
    rintro e w1 ⟨rfl, b1⟩
    rw [okx]
    have bb1 := Below.next hbx b1
    replace kb := kb.below b1
    have hrow : Row w1 0 w.heap.size (.slice A x.2.length c) (intsV x.2) := hp.below bb1 (Nat.le_refl _)
    have hsz := bb1.size
    have cb0 := kb.here.cell 0 _ rfl
    have cb1 := kb.here.cell 1 _ rfl
    clear hrd okx hp
    cases hn : x.1 with
    | true =>
      rw [hn] at cb0 HV
      clear hn
      go_wp2_with fail
      refine (implNatText_any _ x.2 0 w.heap.size _ hl hsz hrow (ht.below bb1)).mono ?_
      rintro e w2 ⟨rfl, b2⟩
      have bb2 := Below.next bb1 b2
      generalize natTextB x.2 = t at *
      clear hrow
      go_wp2
      go_ret
      exact ⟨ret_str (by rw [HV.out]; rfl), bb2⟩
    | false =>
      rw [hn] at cb0 HV
      clear hn
      go_wp2_with fail
      refine (implNatText_any _ x.2 0 w.heap.size _ hl hsz hrow (ht.below bb1)).mono ?_
      rintro e w2 ⟨rfl, b2⟩
      have bb2 := Below.next bb1 b2
      generalize natTextB x.2 = t at *
      clear hrow
      go_wp2
      go_ret
      exact ⟨ret_str (by rw [HV.out]; rfl), bb2⟩
  · have okx' : okS x = false := by simpa using okx
    have HV := Lib.hid (show intStrB x = ⟨#[]⟩ by unfold intStrB; rw [if_neg okx])
    clear okx
    go_enter Tryd.func8, Tryd.ntmps8
    go_wp2_with fail
    refine (implIntOk_any _ x _ hl hrd).mono ?_
    rintro e w1 ⟨rfl, b1⟩
    rw [okx']
    have bb1 := Below.next hbx b1
    clear kb hrd
    go_wp2
    go_ret
    exact ⟨ret_str HV.out.symm, bb1⟩

set_option maxHeartbeats 1000000 in
set_option maxRecDepth 100000 in
theorem implStrInt_any (s : ByteArray) (w : World) (hs : s.size ≤ 9223372036854775807) (ht : Tab w) :
    Calls Tryd.prog 7 #[.string s] w (NewSb (siR s) (siB s) w) := by
  have hbb : Below w.heap.size w (w.alloc (.cells #[.bool false, .slice none 0 0] 25)) := below_al (Below.refl _ _) _
  have kr := box_new w #[.bool false, .slice none 0 0] 25
  obtain ⟨W0, hW0⟩ : ∃ W0, W0 = w.alloc (.cells #[.bool false, .slice none 0 0] 25) := ⟨_, rfl⟩
  rw [← hW0] at hbb kr
  have HW := Lib.hid hW0
  clear hW0
  have hbs := bareB_le s
  have HR := Lib.hid (show siR s = if decOk (bareB s) = true ∧ ¬ (negB s = true ∧ (tnR (bareB s)).length = 0) then (negB s, tnR (bareB s)) else zeroS from rfl)
  have HB := Lib.hid (show siB s = decide (decOk (bareB s) = true ∧ ¬ (negB s = true ∧ (tnR (bareB s)).length = 0)) from rfl)
  have HOK := Lib.hid (show decOk (bareB s) = true → natOkB (tnR (bareB s)) = true from tnR_ok)
  have HTL := tnR_len (bareB s)
  have HI := Lib.hid (implTextNat_any (bareB s) W0 (by omega) (ht.below hbb))
  unfold TNNew at HI
  go_enter Tryd.func7, Tryd.ntmps7
  go_wp2_with fail
  rw [← HW.out]
  refine (cutPrefix_any s _).mono ?_
  rintro e w' ⟨rfl, rfl⟩
  generalize negB s = n at *
  go_wp2_with fail
  refine HI.out.mono ?_
  rintro e w1 ⟨v1, rfl, o1, b1⟩
  generalize tnR (bareB s) = R at *
  obtain ⟨A1, c1, rfl⟩ := own_len o1
  have bb1 := Below.next hbb b1
  replace kr := kr.below b1
  have hx := below_al (Below.refl w1.heap.size w1) (.cells #[.bool n, .slice A1 R.length c1] 25)
  have kx := box_new w1 #[.bool n, .slice A1 R.length c1] 25
  have ox := own_below o1 hx
  have kr2 := kr.below hx
  have bb2 := Below.next bb1 hx
  have HK := Lib.hid kr2
  have HO := Lib.hid ox
  have rdx := (OwnS.mk (x := (n, R)) (ownI_of ox)).rd
  have hW0s := hbb.size
  clear kr2 kr o1 ox b1 hbb HI
  by_cases hd : decOk (bareB s) = true
  · rw [hd]
    have hnat := HOK.out hd
    go_wp2_with fail
    refine (implIntOk_any _ (n, R) _ (by show R.length ≤ _; omega) rdx).mono ?_
    rintro e w2 ⟨rfl, b2⟩
    have bb3 := Below.next bb2 b2
    have kx2 := kx.below b2
    have kr3 := HK.out.below b2
    have ox3 := own_below HO.out b2
    have cx0 := kx2.here.cell 0 _ rfl
    have cx1 := kx2.here.cell 1 _ rfl
    have cz0 := kr3.here.cell 0 _ rfl
    have cz1 := kr3.here.cell 1 _ rfl
    have fz0 := Lib.frozen_of_heap kr3.here 0
    have fz1 := Lib.frozen_of_heap kr3.here 1
    have HK3 := Lib.hid kr3
    have HO3 := Lib.hid ox3
    by_cases hz : n = true ∧ R.length = 0
    · have hok : okS (n, R) = false := by
        unfold okS
        rw [hnat, hz.1]
        simp [hz.2]
      rw [hok]
      have HV : Hid (siR s = zeroS ∧ siB s = false) := Lib.hid (by rw [HR.out, HB.out, if_neg (fun h => h.2 hz)]; exact ⟨rfl, decide_eq_false (fun h => h.2 hz)⟩)
      clear hz hok kx kx2 kr3 ox3 rdx hx b2 hd hnat
      go_wp2
      refine bodyPost_ret (v := .tuple #[.agg #[.bool false, .slice none 0 0], .bool false]) (by simp [results, Tryd.results7, go_sem, cz0, cz1]) rfl ?_
      rw [HV.out.1, HV.out.2]
      exact newSb_zero (below_set2 bb3 (Nat.le_refl _))
    · have hok : okS (n, R) = true := by
        unfold okS
        rw [hnat]
        cases n with
        | false => rfl
        | true =>
          have : 0 < R.length := by
            rcases Nat.eq_zero_or_pos R.length with h | h
            · exact absurd ⟨rfl, h⟩ hz
            · exact h
          simp [this]
      rw [hok]
      have HV : Hid (siR s = (n, R) ∧ siB s = true) := Lib.hid (by rw [HR.out, HB.out, if_pos ⟨hd, hz⟩]; exact ⟨rfl, decide_eq_true ⟨hd, hz⟩⟩)
      clear hz hok kx kx2 kr3 ox3 rdx hx b2 hd hnat
      go_wp2
      refine bodyPost_ret (v := .tuple #[.agg #[.bool _, .slice A1 _ c1], .bool true]) (by simp [results, Tryd.results7, go_sem, cz0, cz1]; exact ⟨rfl, rfl⟩) rfl ?_
      rw [HV.out.1, HV.out.2]
      exact newSb_ret HK3.out.here HO3.out hW0s (Nat.le_refl _) bb3
  · have hd' : decOk (bareB s) = false := by simpa using hd
    rw [hd']
    have cz0 := HK.out.here.cell 0 _ rfl
    have cz1 := HK.out.here.cell 1 _ rfl
    have fz0 := Lib.frozen_of_heap HK.out.here 0
    have fz1 := Lib.frozen_of_heap HK.out.here 1
    have HV : Hid (siR s = zeroS ∧ siB s = false) := Lib.hid (by rw [HR.out, HB.out, if_neg (fun h => hd h.1)]; exact ⟨rfl, decide_eq_false (fun h => hd h.1)⟩)
    clear hd hd' kx rdx hx
    go_wp2
    refine bodyPost_ret (v := .tuple #[.agg #[.bool false, .slice none 0 0], .bool false]) (by simp [results, Tryd.results7, go_sem, cz0, cz1]) rfl ?_
    rw [HV.out.1, HV.out.2]
    exact newSb_zero (below_set2 bb2 (Nat.le_refl _))

set_option maxHeartbeats 1000000 in
set_option maxRecDepth 100000 in
theorem specStrInt_any (s : ByteArray) (w : World) (hs : s.size ≤ 1048576) :
    Calls Tryd.prog 24 #[.string s] w (NewSb (siR s) (siB s) w) := by
  have hbb : Below w.heap.size w (w.alloc (.cells #[.bool false, .slice none 0 0] 25)) := below_al (Below.refl _ _) _
  have kr := box_new w #[.bool false, .slice none 0 0] 25
  obtain ⟨W0, hW0⟩ : ∃ W0, W0 = w.alloc (.cells #[.bool false, .slice none 0 0] 25) := ⟨_, rfl⟩
  rw [← hW0] at hbb kr
  have HW := Lib.hid hW0
  clear hW0
  have hbs := bareB_le s
  have HR := Lib.hid (show siR s = if decOk (bareB s) = true ∧ ¬ (negB s = true ∧ (tnR (bareB s)).length = 0) then (negB s, tnR (bareB s)) else zeroS from rfl)
  have HB := Lib.hid (show siB s = decide (decOk (bareB s) = true ∧ ¬ (negB s = true ∧ (tnR (bareB s)).length = 0)) from rfl)
  have HTL := tnR_len (bareB s)
  have HI := Lib.hid ((specTextNat_any (bareB s) W0 (by omega)).mono fun _ _ h => h.new)
  unfold TNNew at HI
  have HKR := Lib.hid kr
  have HBB := Lib.hid hbb
  clear kr hbb
  have tail : ∀ (n : Bool) (R : List Int) (A1 : Option Addr) (c1 : Nat) (w1 : World), w1.ownsRow W0.heap.size 3 1 (.slice A1 R.length c1) R.length (intsV R) → Below W0.heap.size W0 w1 →
      NewSb (n, R) true w (.returned (.tuple #[.agg #[.bool n, .slice A1 R.length c1], .bool true])) ((w1.setCell ⟨w.heap.size, 0, none⟩ (.bool n)).setCell ⟨w.heap.size, 1, none⟩ (.slice A1 R.length c1)) := fun n R A1 c1 w1 o b =>
    newSb_ret (x := (n, R)) (HKR.out.below b).here o HBB.out.size (Nat.le_refl _) (Below.next HBB.out b)
  have TAIL := Lib.hid tail
  clear tail
  by_cases h0 : 0 < s.size
  · have hh := negB_head s h0
    have HBT := Lib.hid (show (negB s = true → s.extract 1 s.size = bareB s) ∧ (negB s = false → bareB s = s) from ⟨bareB_tail s, bareB_self s⟩)
    obtain ⟨n, hn⟩ : ∃ n, negB s = n := ⟨_, rfl⟩
    rw [hn] at hh HBT HR HB
    have hh' := hh.symm
    clear hh hn
    cases n with
    | false =>
      rw [HBT.out.2 rfl] at HI HR HB HTL
      clear HBT
      go_enter Tryd.func24, Tryd.ntmps24
      go_wp2_with fail
      rw [← HW.out]
      skip
      refine HI.out.mono ?_
      rintro e w1 ⟨v1, rfl, o1, b1⟩
      generalize tnR _ = R at *
      obtain ⟨A1, c1, rfl⟩ := own_len o1
      have bb1 := Below.next HBB.out b1
      have kr1 := HKR.out.below b1
      have cz0 := kr1.here.cell 0 _ rfl
      have cz1 := kr1.here.cell 1 _ rfl
      have fz0 := Lib.frozen_of_heap kr1.here 0
      have fz1 := Lib.frozen_of_heap kr1.here 1
      have TL := Lib.hid (TAIL.out false R A1 c1 w1 o1 b1)
      clear kr1 o1 b1 HI
      generalize decOk _ = ok at *
      cases ok with
      | false =>
        have HV : Hid (siR s = zeroS ∧ siB s = false) := Lib.hid (by rw [HR.out, HB.out, if_neg (fun h => by cases h.1)]; exact ⟨rfl, decide_eq_false (fun h => by cases h.1)⟩)
        clear HR HB
        go_wp2
        refine bodyPost_ret (v := .tuple #[.agg #[.bool false, .slice none 0 0], .bool false]) (by simp [results, Tryd.results24, go_sem, cz0, cz1]) rfl ?_
        rw [HV.out.1, HV.out.2]
        exact newSb_zero (below_set2 bb1 (Nat.le_refl _))
      | true =>
        have HV : Hid (siR s = (false, R) ∧ siB s = true) := Lib.hid (by rw [HR.out, HB.out, if_pos ⟨rfl, fun h => by cases h.1⟩]; exact ⟨rfl, decide_eq_true ⟨rfl, fun h => by cases h.1⟩⟩)
        clear HR HB
        go_wp2
        refine bodyPost_ret (v := .tuple #[.agg #[.bool _, .slice A1 _ c1], .bool true]) (by simp [results, Tryd.results24, go_sem, cz0, cz1]; exact ⟨rfl, rfl⟩) rfl ?_
        rw [HV.out.1, HV.out.2]
        exact TL.out
    | true =>
      rw [← HBT.out.1 rfl] at HI HR HB HTL
      clear HBT
      go_enter Tryd.func24, Tryd.ntmps24
      go_wp2_with fail
      rw [← HW.out]
      skip
      refine HI.out.mono ?_
      rintro e w1 ⟨v1, rfl, o1, b1⟩
      generalize tnR _ = R at *
      obtain ⟨A1, c1, rfl⟩ := own_len o1
      have bb1 := Below.next HBB.out b1
      have kr1 := HKR.out.below b1
      have cz0 := kr1.here.cell 0 _ rfl
      have cz1 := kr1.here.cell 1 _ rfl
      have fz0 := Lib.frozen_of_heap kr1.here 0
      have fz1 := Lib.frozen_of_heap kr1.here 1
      have TL := Lib.hid (TAIL.out true R A1 c1 w1 o1 b1)
      clear kr1 o1 b1 HI
      generalize decOk _ = ok at *
      cases ok with
      | false =>
        have HV : Hid (siR s = zeroS ∧ siB s = false) := Lib.hid (by rw [HR.out, HB.out, if_neg (fun h => by cases h.1)]; exact ⟨rfl, decide_eq_false (fun h => by cases h.1)⟩)
        clear HR HB
        go_wp2
        refine bodyPost_ret (v := .tuple #[.agg #[.bool false, .slice none 0 0], .bool false]) (by simp [results, Tryd.results24, go_sem, cz0, cz1]) rfl ?_
        rw [HV.out.1, HV.out.2]
        exact newSb_zero (below_set2 bb1 (Nat.le_refl _))
      | true =>
        by_cases hz : R.length = 0
        · have hb : ((R.length : Int) == 0) = true := by rw [hz]; rfl
          have HV : Hid (siR s = zeroS ∧ siB s = false) := Lib.hid (by rw [HR.out, HB.out, if_neg (fun h => h.2 ⟨by trivial, hz⟩)]; exact ⟨rfl, decide_eq_false (fun h => h.2 ⟨by trivial, hz⟩)⟩)
          clear hz
          clear HR HB
          go_wp2
          refine bodyPost_ret (v := .tuple #[.agg #[.bool false, .slice none 0 0], .bool false]) (by simp [results, Tryd.results24, go_sem, cz0, cz1]) rfl ?_
          rw [HV.out.1, HV.out.2]
          exact newSb_zero (below_set2 bb1 (Nat.le_refl _))
        · have hb : ((R.length : Int) == 0) = false := by rw [beq_eq_false_iff_ne]; omega
          have HV : Hid (siR s = (true, R) ∧ siB s = true) := Lib.hid (by rw [HR.out, HB.out, if_pos ⟨rfl, fun h => hz h.2⟩]; exact ⟨rfl, decide_eq_true ⟨rfl, fun h => hz h.2⟩⟩)
          clear hz
          clear HR HB
          go_wp2
          refine bodyPost_ret (v := .tuple #[.agg #[.bool _, .slice A1 _ c1], .bool true]) (by simp [results, Tryd.results24, go_sem, cz0, cz1]; exact ⟨rfl, rfl⟩) rfl ?_
          rw [HV.out.1, HV.out.2]
          exact TL.out
  · have hn := negB_nil s h0
    rw [hn, bareB_self s hn] at HR HB
    rw [bareB_self s hn] at HI HTL
    clear hn
    go_enter Tryd.func24, Tryd.ntmps24
    go_wp2_with fail
    rw [← HW.out]
    skip
    refine HI.out.mono ?_
    rintro e w1 ⟨v1, rfl, o1, b1⟩
    generalize tnR _ = R at *
    obtain ⟨A1, c1, rfl⟩ := own_len o1
    have bb1 := Below.next HBB.out b1
    have kr1 := HKR.out.below b1
    have cz0 := kr1.here.cell 0 _ rfl
    have cz1 := kr1.here.cell 1 _ rfl
    have fz0 := Lib.frozen_of_heap kr1.here 0
    have fz1 := Lib.frozen_of_heap kr1.here 1
    have TL := Lib.hid (TAIL.out false R A1 c1 w1 o1 b1)
    clear kr1 o1 b1 HI
    generalize decOk _ = ok at *
    cases ok with
    | false =>
      have HV : Hid (siR s = zeroS ∧ siB s = false) := Lib.hid (by rw [HR.out, HB.out, if_neg (fun h => by cases h.1)]; exact ⟨rfl, decide_eq_false (fun h => by cases h.1)⟩)
      clear HR HB
      go_wp2
      refine bodyPost_ret (v := .tuple #[.agg #[.bool false, .slice none 0 0], .bool false]) (by simp [results, Tryd.results24, go_sem, cz0, cz1]) rfl ?_
      rw [HV.out.1, HV.out.2]
      exact newSb_zero (below_set2 bb1 (Nat.le_refl _))
    | true =>
      have HV : Hid (siR s = (false, R) ∧ siB s = true) := Lib.hid (by rw [HR.out, HB.out, if_pos ⟨rfl, fun h => by cases h.1⟩]; exact ⟨rfl, decide_eq_true ⟨rfl, fun h => by cases h.1⟩⟩)
      clear HR HB
      go_wp2
      refine bodyPost_ret (v := .tuple #[.agg #[.bool _, .slice A1 _ c1], .bool true]) (by simp [results, Tryd.results24, go_sem, cz0, cz1]; exact ⟨rfl, rfl⟩) rfl ?_
      rw [HV.out.1, HV.out.2]
      exact TL.out
end Go.Proofs.YtecaghbakjalgaaDoor
