/-
  Chapter 11 of package spec: what RateText returns.
  Chapter 11 of package impl: what RateText returns.
  Chapter 11 of package impl: RatePut in plain words.
  Lists of rates that a call builds: one more at the end, another one in a place.
  Chapter 11 of package impl: copies (copyRate, copyRates).
  Chapter 11 of package impl: RatePut.
  Chapter 11 of package spec: l10Rate.
  Chapter 11 of package spec: l10Copy.
  Chapter 11 of package spec: RatePut.
  What every law of the seat needs: a call that returns true and changes nothing below the heap's old size meets the row's post, whatever its arguments are.
  Arguments, opened: slices of strings and of ints that came in read as lists.
-/
import Derived.Deep.RegionLaw
import Derived.Deep.AppendLies
import Derived.Test.YtbpfabicampdkaaGreatDoorRows
import Derived.WalkKit
import Derived.ProofKit
import Derived.OpenShut
import Derived.JoinedCond
import Derived.Test.YtbpfabicampdkaaGreatDoorJB11
namespace Go.Proofs.YtbpfabicampdkaaGreatDoor
open Go.RowKit

set_option maxHeartbeats 4000000 in
set_option maxRecDepth 100000 in
theorem specRateText_any (vr : Value) (r : EI) (w : World) (hl : r.2.2.1.2.length ≤ 1048576) (hr : OwnE vr r w) :
    Calls Tryz.prog 92 #[vr] w (PostT (textE r) w) := by
  have Hr := Lib.hid hr
  obtain ⟨Ar, cr, rfl⟩ := ownE_form hr
  have OEr := Lib.hid (show ∀ W, Below w.heap.size w W → OwnE (.agg #[.string r.1, .string r.2.1, .bool r.2.2.1.1, .slice Ar r.2.2.1.2.length cr, .int .i64 r.2.2.2]) r W from fun W hb => OwnE.below Hr.out hb)
  have OIr := Lib.hid (show ∀ W, Below w.heap.size w W → OwnI (.slice Ar r.2.2.1.2.length cr) r.2.2.1.2 W from fun W hb => ownE_open (OEr.out W hb))
  have ODr := Lib.hid (show ∀ W, Below w.heap.size w W → OwnD (.agg #[.bool r.2.2.1.1, .slice Ar r.2.2.1.2.length cr, .int .i64 r.2.2.2]) r.2.2 W from fun W hb => OwnD.mk (OIr.out W hb))
  have OSr := Lib.hid (show ∀ W, Below w.heap.size w W → OwnS (.agg #[.bool r.2.2.1.1, .slice Ar r.2.2.1.2.length cr]) r.2.2.1 W from fun W hb => OwnS.mk (OIr.out W hb))
  clear hr
  have bb0 : Below w.heap.size w (w.alloc (.cells #[.string r.1, .string r.2.1, .bool r.2.2.1.1, .slice Ar r.2.2.1.2.length cr, .int .i64 r.2.2.2] 41)) := below_al (Below.refl _ _) _
  have kr := (box_new w #[.string r.1, .string r.2.1, .bool r.2.2.1.1, .slice Ar r.2.2.1.2.length cr, .int .i64 r.2.2.2] 41)
  go_enter Tryz.func92, Tryz.ntmps92
  have kr_c0 := kr.here.cell 0 _ rfl
  have kr_c1 := kr.here.cell 1 _ rfl
  have kr_c2 := kr.here.cell 2 _ rfl
  have kr_c3 := kr.here.cell 3 _ rfl
  have kr_c4 := kr.here.cell 4 _ rfl
  go_wp2_with fail
  clear kr_c0 kr_c1 kr_c2 kr_c3 kr_c4
  refine (specRateOk_any _ r _ hl (OEr.out _ bb0)).mono ?_
  rintro e w1 ⟨rfl, b1⟩
  have bb1 := Below.next bb0 b1
  replace kr := kr.below b1
  by_cases ok : okE r = true
  · rw [ok]
    have HV := Lib.hid (textE_yes ok)
    obtain ⟨hs1, hs2, hs3⟩ := textE_sizes ok
    clear ok
    have ha0 : r.1.size + 1 ≤ 9223372036854775807 := by omega
    have hb0 : ¬ 9223372036854775807 < r.1.size + 1 := by omega
    have ha1 : r.1.size + 1 + r.2.1.size ≤ 9223372036854775807 := by omega
    have hb1 : ¬ 9223372036854775807 < r.1.size + 1 + r.2.1.size := by omega
    have ha2 : r.1.size + 1 + r.2.1.size + 1 ≤ 9223372036854775807 := by omega
    have hb2 : ¬ 9223372036854775807 < r.1.size + 1 + r.2.1.size + 1 := by omega
    have ha3 : r.1.size + 1 + r.2.1.size + 1 + (textD r.2.2).size ≤ 9223372036854775807 := by omega
    have hb3 : ¬ 9223372036854775807 < r.1.size + 1 + r.2.1.size + 1 + (textD r.2.2).size := by omega
    have hc0 : ¬ 9223372036854775807 ≤ r.1.size := by omega
    have hd0 : r.1.size < 9223372036854775807 := by omega
    have hc1 : ¬ 9223372036854775807 ≤ r.1.size + 1 + r.2.1.size := by omega
    have hd1 : r.1.size + 1 + r.2.1.size < 9223372036854775807 := by omega
    have kr_c0 := kr.here.cell 0 _ rfl
    have kr_c1 := kr.here.cell 1 _ rfl
    have kr_c2 := kr.here.cell 2 _ rfl
    have kr_c3 := kr.here.cell 3 _ rfl
    have kr_c4 := kr.here.cell 4 _ rfl
    go_wp2_with fail
    have HC0 := Lib.hid (show Chg [] w1 w1.drew from (Chg.refl _ _).drew1)
    have HCr := Lib.hid (show Chg [] w1 w1 from Chg.refl _ _)
    have KL := Lib.hid (show ∀ W, Chg [] w1 W → W.cell? ⟨w.heap.size, 0, none⟩ = some (.string r.1) ∧ W.cell? ⟨w.heap.size, 1, none⟩ = some (.string r.2.1) ∧ W.cell? ⟨w.heap.size, 2, none⟩ = some (.bool r.2.2.1.1) ∧ W.cell? ⟨w.heap.size, 3, none⟩ = some (.slice Ar r.2.2.1.2.length cr) ∧ W.cell? ⟨w.heap.size, 4, none⟩ = some (.int .i64 r.2.2.2) ∧ Hid (Chg [] w1 W) from fun W hc => ⟨(kr.chg hc (fun i hi hm => by simp at hm)).here.cell 0 _ rfl, (kr.chg hc (fun i hi hm => by simp at hm)).here.cell 1 _ rfl, (kr.chg hc (fun i hi hm => by simp at hm)).here.cell 2 _ rfl, (kr.chg hc (fun i hi hm => by simp at hm)).here.cell 3 _ rfl, (kr.chg hc (fun i hi hm => by simp at hm)).here.cell 4 _ rfl, Lib.hid hc⟩)
    have BBF := Lib.hid (show ∀ W, Chg [] w1 W → Below w.heap.size w W from fun W hc => below_chg bb1 hc bb1.size (fun i hi => by simp at hi))
    clear kr_c0 kr_c1 kr_c2 kr_c3 kr_c4
    go_region_held3 (fun W => W.cell? ⟨w.heap.size, 0, none⟩ = some (.string r.1) ∧ W.cell? ⟨w.heap.size, 1, none⟩ = some (.string r.2.1) ∧ W.cell? ⟨w.heap.size, 2, none⟩ = some (.bool r.2.2.1.1) ∧ W.cell? ⟨w.heap.size, 3, none⟩ = some (.slice Ar r.2.2.1.2.length cr) ∧ W.cell? ⟨w.heap.size, 4, none⟩ = some (.int .i64 r.2.2.2) ∧ Hid (Chg [] w1 W))
      ((refine KL.out _ ?_; (first | exact HC2.out | exact HCr.out | exact HC0.out | exact HC2.out.drew1 | exact HCr.out.drew1 | exact HC0.out.drew1 | exact HC2.out.trans (Chg.of_below (below_al (Below.refl _ _) _)) | exact HCr.out.trans (Chg.of_below (below_al (Below.refl _ _) _)) | exact HC0.out.trans (Chg.of_below (below_al (Below.refl _ _) _)) | fail)))
      (first
        | (go_at_call 145; (have hBB := (‹_ ∧ _ ∧ _ ∧ _ ∧ _ ∧ Hid (Chg [] w1 _)›).2.2.2.2.2); (with_reducible refine (specDecText_any _ r.2.2 _ hl (ODr.out _ (BBF.out _ hBB.out))).mono ?_); rintro e w2 ⟨rfl, b2⟩; have HC2 := Lib.hid (hBB.out.trans (Chg.of_below b2)); have HBZ2 := Lib.hid hBB.out.size; clear hBB))
    all_goals
      have bb2 := BBF.out _ HC2.out
      replace kr := kr.chg HC2.out (fun i hi hm => by simp at hm)
      go_wp2
      go_ret
      exact ⟨ret_str HV.out.symm, bb2⟩
  · have ok' : okE r = false := by simpa using ok
    have HV := Lib.hid (textE_no ok)
    rw [ok']
    clear ok ok'
    go_wp2
    go_ret
    exact ⟨ret_str HV.out.symm, bb1⟩
end Go.Proofs.YtbpfabicampdkaaGreatDoor

namespace Go.Proofs.YtbpfabicampdkaaGreatDoor
open Go.RowKit

theorem join_three (A B C : ByteArray) : joinB ⟨#[32]⟩ [A, B, C] = A ++ ⟨#[32]⟩ ++ B ++ ⟨#[32]⟩ ++ C := by
  apply ByteArray.ext
  simp [joinB, joinTo]
theorem three_smallE {A B C : ByteArray} (h1 : A.size ≤ 1048576) (h2 : B.size ≤ 1048576) (h3 : C.size ≤ 1048576) : ∀ s ∈ [A, B, C], s.size ≤ 1048576 := fun s hs => by
  simp at hs
  rcases hs with rfl | rfl | rfl
  · exact h1
  · exact h2
  · exact h3
theorem postT_isE {a b : ByteArray} (h : a = b) {w w' : World} {e : Ending} (k : PostT a w e w') : PostT b w e w' := h ▸ k
theorem join3_at (A B C T0 : ByteArray) (g : Nat) (W : World) (T : TypeId) (h1 : A.size ≤ 1048576) (h2 : B.size ≤ 1048576) (h3 : C.size ≤ 1048576) (hT : A ++ ⟨#[32]⟩ ++ B ++ ⟨#[32]⟩ ++ C = T0) (hb : BoxAt g #[.string A, .string B, .string C] T W) :
    Calls Tryz.prog 68 #[.slice (some ⟨g, 0, none⟩) 3 3, .string ⟨#[32]⟩] W (PostT T0 W) := by
  have h := implJoin_any (.slice (some ⟨g, 0, none⟩) 3 3) ⟨#[32]⟩ [A, B, C] 0 _ W (Nat.le_refl _) (by simp) (by decide) (three_smallE h1 h2 h3) (box_rowD hb)
  rw [join_three, hT] at h
  exact h
set_option maxHeartbeats 4000000 in
set_option maxRecDepth 100000 in
theorem implRateText_any (vr : Value) (r : EI) (w : World) (hl : r.2.2.1.2.length ≤ 1048576) (hr : OwnE vr r w) (ht : CurTab w) (hd : Tab w) :
    Calls Tryz.prog 24 #[vr] w (PostT (textE r) w) := by
  have Hr := Lib.hid hr
  obtain ⟨Ar, cr, rfl⟩ := ownE_form hr
  have OEr := Lib.hid (show ∀ W, Below w.heap.size w W → OwnE (.agg #[.string r.1, .string r.2.1, .bool r.2.2.1.1, .slice Ar r.2.2.1.2.length cr, .int .i64 r.2.2.2]) r W from fun W hb => OwnE.below Hr.out hb)
  have OIr := Lib.hid (show ∀ W, Below w.heap.size w W → OwnI (.slice Ar r.2.2.1.2.length cr) r.2.2.1.2 W from fun W hb => ownE_open (OEr.out W hb))
  have ODr := Lib.hid (show ∀ W, Below w.heap.size w W → OwnD (.agg #[.bool r.2.2.1.1, .slice Ar r.2.2.1.2.length cr, .int .i64 r.2.2.2]) r.2.2 W from fun W hb => OwnD.mk (OIr.out W hb))
  have OSr := Lib.hid (show ∀ W, Below w.heap.size w W → OwnS (.agg #[.bool r.2.2.1.1, .slice Ar r.2.2.1.2.length cr]) r.2.2.1 W from fun W hb => OwnS.mk (OIr.out W hb))
  clear hr
  have HT := Lib.hid ht
  clear ht
  have HD := Lib.hid hd
  clear hd
  have bb0 : Below w.heap.size w (w.alloc (.cells #[.string r.1, .string r.2.1, .bool r.2.2.1.1, .slice Ar r.2.2.1.2.length cr, .int .i64 r.2.2.2] 41)) := below_al (Below.refl _ _) _
  have kr := (box_new w #[.string r.1, .string r.2.1, .bool r.2.2.1.1, .slice Ar r.2.2.1.2.length cr, .int .i64 r.2.2.2] 41)
  go_enter Tryz.func24, Tryz.ntmps24
  have kr_c0 := kr.here.cell 0 _ rfl
  have kr_c1 := kr.here.cell 1 _ rfl
  have kr_c2 := kr.here.cell 2 _ rfl
  have kr_c3 := kr.here.cell 3 _ rfl
  have kr_c4 := kr.here.cell 4 _ rfl
  go_wp2_with fail
  clear kr_c0 kr_c1 kr_c2 kr_c3 kr_c4
  refine (implRateOk_any _ r _ hl (OEr.out _ bb0) (HT.out.below bb0)).mono ?_
  rintro e w1 ⟨rfl, b1⟩
  have bb1 := Below.next bb0 b1
  replace kr := kr.below b1
  by_cases ok : okE r = true
  · rw [ok]
    obtain ⟨hs1, hs2, hs3⟩ := textE_sizes ok
    obtain ⟨T, hT⟩ : ∃ T, textD r.2.2 = T := ⟨_, rfl⟩
    have ET := Lib.hid hT
    have HV := Lib.hid (show r.1 ++ ⟨#[32]⟩ ++ r.2.1 ++ ⟨#[32]⟩ ++ T = textE r by rw [textE_yes ok, hT])
    rw [hT] at hs3
    clear ok hT
    have hq1 : r.1.size ≤ 1048576 := by omega
    have hq2 : r.2.1.size ≤ 1048576 := by omega
    have hq3 : T.size ≤ 1048576 := by omega
    clear hs1 hs2 hs3
    have kr_c0 := kr.here.cell 0 _ rfl
    have kr_c1 := kr.here.cell 1 _ rfl
    have kr_c2 := kr.here.cell 2 _ rfl
    have kr_c3 := kr.here.cell 3 _ rfl
    have kr_c4 := kr.here.cell 4 _ rfl
    go_wp2_with fail
    have HC0 := Lib.hid (show Chg [] w1 w1.drew from (Chg.refl _ _).drew1)
    have HCr := Lib.hid (show Chg [] w1 w1 from Chg.refl _ _)
    have KL := Lib.hid (show ∀ W, Chg [] w1 W → W.cell? ⟨w.heap.size, 0, none⟩ = some (.string r.1) ∧ W.cell? ⟨w.heap.size, 1, none⟩ = some (.string r.2.1) ∧ W.cell? ⟨w.heap.size, 2, none⟩ = some (.bool r.2.2.1.1) ∧ W.cell? ⟨w.heap.size, 3, none⟩ = some (.slice Ar r.2.2.1.2.length cr) ∧ W.cell? ⟨w.heap.size, 4, none⟩ = some (.int .i64 r.2.2.2) ∧ Hid (Chg [] w1 W) from fun W hc => ⟨(kr.chg hc (fun i hi hm => by simp at hm)).here.cell 0 _ rfl, (kr.chg hc (fun i hi hm => by simp at hm)).here.cell 1 _ rfl, (kr.chg hc (fun i hi hm => by simp at hm)).here.cell 2 _ rfl, (kr.chg hc (fun i hi hm => by simp at hm)).here.cell 3 _ rfl, (kr.chg hc (fun i hi hm => by simp at hm)).here.cell 4 _ rfl, Lib.hid hc⟩)
    have BBF := Lib.hid (show ∀ W, Chg [] w1 W → Below w.heap.size w W from fun W hc => below_chg bb1 hc bb1.size (fun i hi => by simp at hi))
    clear kr_c0 kr_c1 kr_c2 kr_c3 kr_c4
    go_region_held3 (fun W => W.cell? ⟨w.heap.size, 0, none⟩ = some (.string r.1) ∧ W.cell? ⟨w.heap.size, 1, none⟩ = some (.string r.2.1) ∧ W.cell? ⟨w.heap.size, 2, none⟩ = some (.bool r.2.2.1.1) ∧ W.cell? ⟨w.heap.size, 3, none⟩ = some (.slice Ar r.2.2.1.2.length cr) ∧ W.cell? ⟨w.heap.size, 4, none⟩ = some (.int .i64 r.2.2.2) ∧ Hid (Chg [] w1 W))
      ((refine KL.out _ ?_; (first | exact HC3.out | exact HC2.out | exact HCr.out | exact HC0.out | exact HC3.out.drew1 | exact HC2.out.drew1 | exact HCr.out.drew1 | exact HC0.out.drew1 | exact HC3.out.trans (Chg.of_below (below_al (Below.refl _ _) _)) | exact HC2.out.trans (Chg.of_below (below_al (Below.refl _ _) _)) | exact HCr.out.trans (Chg.of_below (below_al (Below.refl _ _) _)) | exact HC0.out.trans (Chg.of_below (below_al (Below.refl _ _) _)) | fail)))
      (first
        | (go_at_call 69; (have hBB := (‹_ ∧ _ ∧ _ ∧ _ ∧ _ ∧ Hid (Chg [] w1 _)›).2.2.2.2.2); (with_reducible refine ((implDecText_any _ r.2.2 _ hl (ODr.out _ (BBF.out _ hBB.out)) (HD.out.below (BBF.out _ hBB.out))).mono fun _ _ h => postT_isE ET.out h).mono ?_); rintro e w2 ⟨rfl, b2⟩; have HC2 := Lib.hid (hBB.out.trans (Chg.of_below b2)); have HBZ2 := Lib.hid hBB.out.size; clear hBB)
        | (go_at_call 68; (have hBB := (‹_ ∧ _ ∧ _ ∧ _ ∧ _ ∧ Hid (Chg [] w1 _)›).2.2.2.2.2); (with_reducible refine (join3_at r.1 r.2.1 T (textE r) _ _ _ hq1 hq2 hq3 HV.out (by first | exact (box_new _ _ 9).here | exact box_drewD (box_new _ _ 9).here)).mono ?_); rintro e w3 ⟨rfl, b3⟩; have HC3 := Lib.hid (hBB.out.trans (Chg.of_below b3)); have HBZ3 := Lib.hid hBB.out.size; clear hBB))
    all_goals
      have bb3 := BBF.out _ HC3.out
      replace kr := kr.chg HC3.out (fun i hi hm => by simp at hm)
      go_wp2
      go_ret
      exact ⟨rfl, bb3⟩
  · have ok' : okE r = false := by simpa using ok
    have HV := Lib.hid (textE_no ok)
    rw [ok']
    clear ok ok'
    go_wp2
    go_ret
    exact ⟨ret_str HV.out.symm, bb1⟩
end Go.Proofs.YtbpfabicampdkaaGreatDoor

namespace Go.Proofs.YtbpfabicampdkaaGreatDoor
open Go.RowKit

theorem okT_mem' {t : TI} (h : okT t = true) {x : EI} (hx : x ∈ t.2) : okE x = true := by
  rw [okT_pairs, Bool.and_eq_true, Bool.and_eq_true, Bool.and_eq_true] at h
  exact List.all_eq_true.1 h.2.2.1 x hx
theorem szEL_bound {l : List EI} {m : Int} (h : ∀ x ∈ l, szE x ≤ m) : szEL l ≤ l.length * m := by
  induction l with
  | nil => show (0 : Int) ≤ (0 : Nat) * m; omega
  | cons x l ih =>
    have h1 := h x (List.mem_cons_self ..)
    have h2 := ih fun y hy => h y (List.mem_cons_of_mem _ hy)
    show szE x + szEL l ≤ ((l.length + 1 : Nat) : Int) * m
    rw [show (((l.length + 1 : Nat) : Int)) = (l.length : Int) + 1 by omega, Int.add_mul]
    omega
/-- a right table is small -/
theorem okT_small {t : TI} (h : okT t = true) : szT t ≤ 1000 := by
  have hm : ∀ x ∈ t.2, szE x ≤ 20 := fun x hx => by
    have hp := okE_parts (okT_mem' h hx)
    have h1 := known_sizeE hp.1
    have h2 := known_sizeE hp.2.1
    have h3 := hp.2.2.2.2.2
    unfold szE szD szS szI
    omega
  have hb := szEL_bound hm
  rw [okT_pairs, Bool.and_eq_true, Bool.and_eq_true, decide_eq_true_eq] at h
  have h1 := known_sizeE h.1
  have h2 := h.2.1
  unfold szT
  omega
/-- the table that a rate is put into -/
def newT (t : TI) (r : EI) : TI := if posE t.2 r.1 r.2.1 < 0 then (t.1, t.2 ++ [r]) else (t.1, t.2.set (posE t.2 r.1 r.2.1).toNat r)
theorem putT_bad {t : TI} {r : EI} (h : ¬ okT t = true) : putT t r = (zeroT, false) := by
  unfold putT
  rw [if_neg (fun hh => h hh.1)]
  rfl
theorem posE_lt (l : List EI) (a b : ByteArray) : posE l a b < l.length := by
  unfold posE
  split <;> omega
theorem newT_mem (t : TI) (r : EI) : r ∈ (newT t r).2 := by
  unfold newT
  split
  · exact List.mem_append_right _ (List.mem_singleton.2 rfl)
  · rename_i h
    have hl := posE_lt t.2 r.1 r.2.1
    refine List.mem_of_getElem? (i := (posE t.2 r.1 r.2.1).toNat) ?_
    exact List.getElem?_set_self (by omega)
theorem newT_all {t : TI} {r : EI} {p : EI → Prop} (h : ∀ x ∈ t.2, p x) (hr : p r) : ∀ x ∈ (newT t r).2, p x := by
  intro x hx
  unfold newT at hx
  split at hx
  · rcases List.mem_append.1 hx with hx | hx
    · exact h x hx
    · rw [List.mem_singleton.1 hx]; exact hr
  · rcases List.mem_or_eq_of_mem_set hx with hx | hx
    · exact h x hx
    · rw [hx]; exact hr
theorem newT_len (t : TI) (r : EI) : (newT t r).2.length ≤ t.2.length + 1 := by
  unfold newT
  split
  · exact Nat.le_of_eq (List.length_append ..)
  · show (t.2.set _ r).length ≤ _
    rw [List.length_set]
    omega
theorem putT_good {t : TI} {r : EI} (h : okT t = true) : putT t r = if okT (newT t r) = true then (newT t r, true) else (zeroT, false) := by
  unfold putT
  by_cases hr : okE r = true
  · rw [if_pos ⟨h, hr⟩]
    rfl
  · rw [if_neg (fun hh => hr hh.2), if_neg (fun hn => hr (okT_mem' hn (newT_mem t r)))]
    rfl
theorem newT_app {t : TI} {r : EI} (h : posE t.2 r.1 r.2.1 < 0) : newT t r = (t.1, t.2 ++ [r]) := by unfold newT; rw [if_pos h]
theorem newT_set {t : TI} {r : EI} {n : Nat} (h : posE t.2 r.1 r.2.1 = n) : newT t r = (t.1, t.2.set n r) := by unfold newT; rw [if_neg (by omega), h, Int.toNat_natCast]
theorem putT_sz (t : TI) (r : EI) : szT (putT t r).1 ≤ 1048576 := by
  by_cases ho : okT t = true
  · rw [putT_good ho]
    split
    · rename_i hn
      have hk := okT_small hn
      exact Int.le_trans hk (by decide)
    · decide
  · rw [putT_bad ho]; decide
end Go.Proofs.YtbpfabicampdkaaGreatDoor

namespace Go.Proofs.YtbpfabicampdkaaGreatDoor
open Go.RowKit

theorem own_types {w : World} {b1 b2 s1 s2 n m b : Nat} {T1 T2 : TypeId} {v u : Value} {xs ys : List Value} (h1 : w.ownsRow b1 T1 s1 v n xs) (h2 : w.ownsRow b2 T2 s2 u m ys) (hT : ¬ T1 = T2) (e1 : v.ownBlock = some b) (e2 : u.ownBlock = some b) : False := by
  obtain ⟨_, ⟨rfl, _⟩ | ⟨g, cap, cur, rfl, _, hh, _⟩⟩ := h1
  · cases e1
  · obtain ⟨_, ⟨rfl, _⟩ | ⟨g', cap', cur', rfl, _, hh', _⟩⟩ := h2
    · cases e2
    · cases e1
      cases e2
      have hh1 : w.heap[g]? = some (.cells cur T1 (0, 0)) := hh
      have hh2 : w.heap[g]? = some (.cells cur' T2 (0, 0)) := hh'
      rw [hh1] at hh2
      injection hh2 with hh2
      injection hh2 with _ e
      exact hT e
/-- as CellE, with where the limbs lie -/
def CellB (B : Nat) (p : CE) (x : EI) (w : World) : Prop := p.1 = x.1 ∧ p.2.1 = x.2.1 ∧ p.2.2.1 = x.2.2.1.1 ∧ p.2.2.2.2 = x.2.2.2 ∧ w.ownsRow B 3 1 p.2.2.2.1 x.2.2.1.2.length (intsV x.2.2.1.2)
/-- a list of the call's own, all of it from B on -/
def RowB (B : Nat) (u : Value) (l : List EI) (W : World) : Prop :=
  ∃ e : List CE, W.ownsRow B 41 5 u l.length (flatE e) ∧ e.length = l.length ∧ (∀ (j : Nat) x p, l[j]? = some x → e[j]? = some p → CellB B p x W) ∧ ∀ (i j : Nat) p q b, e[i]? = some p → e[j]? = some q → p.2.2.2.1.ownBlock = some b → q.2.2.2.1.ownBlock = some b → i = j
theorem rowB_nil (B : Nat) (W : World) : RowB B (.slice none 0 0) [] W := ⟨[], World.ownsRow_nil _ _ _ _, rfl, fun j x p hx => by simp at hx, fun i j p q b hp => by simp at hp⟩
theorem RowB.stays {B : Nat} {u : Value} {l : List EI} {w w' : World} (h : RowB B u l w) (hk : ∀ i, B ≤ i → i < w.heap.size → w'.heap[i]? = w.heap[i]?) : RowB B u l w' := by
  obtain ⟨e, h1, h2, h3, h4⟩ := h
  refine ⟨e, own_stays h1 fun g hg => hk g (own_lt h1 hg).1 (own_lt h1 hg).2, h2, fun j x p hx hp => ?_, h4⟩
  obtain ⟨a1, a2, a3, a4, a5⟩ := h3 j x p hx hp
  exact ⟨a1, a2, a3, a4, own_stays a5 fun g hg => hk g (own_lt a5 hg).1 (own_lt a5 hg).2⟩
theorem RowB.below {B : Nat} {u : Value} {l : List EI} {w w' : World} (h : RowB B u l w) (hb : Below w.heap.size w w') : RowB B u l w' := h.stays fun i _ hi => hb.block i hi
theorem rowB_at {B : Nat} {u : Value} {l : List EI} {w : World} (h : RowB B u l w) : ∃ S, At S (OwnEP u l) w ∧ At S (RowB B u l) w ∧ Within S B w.heap.size := by
  obtain ⟨e, h1, h2, h3, h4⟩ := h
  have hx : ∀ (i : Nat) p, e[i]? = some p → ∃ x, l[i]? = some x := fun i p hp => ⟨_, List.getElem?_eq_getElem (by have := (List.getElem?_eq_some_iff.1 hp).1; omega)⟩
  have hat := ownEP_at (own_lowE h1 (Nat.zero_le _)) h2 (fun j x p hx hp => by
    obtain ⟨a1, a2, a3, a4, a5⟩ := h3 j x p hx hp
    exact ⟨a1, a2, a3, a4, own_zero a5⟩) ⟨h4, fun i p b hp hb hv => by
      obtain ⟨x, hx⟩ := hx i p hp
      exact own_types h1 (h3 i x p hx hp).2.2.2.2 (by decide) hv hb⟩
  refine ⟨blocksE u e, hat, ⟨⟨e, h1, h2, h3, h4⟩, hat.lt, fun w' hk => ⟨e, own_stays h1 fun g hg => hk g (blocksE_v hg), h2, fun j x p hx hp => ?_, h4⟩⟩, fun g hg => ?_⟩
  · obtain ⟨a1, a2, a3, a4, a5⟩ := h3 j x p hx hp
    exact ⟨a1, a2, a3, a4, own_stays a5 fun g hg => hk g (blocksE_e (List.mem_of_getElem? hp) hg)⟩
  · rcases blocksE_mem hg with h | ⟨j, p, hp, h⟩
    · exact own_lt h1 h
    · obtain ⟨x, hx⟩ := hx j p hp
      exact own_lt (h3 j x p hx hp).2.2.2.2 h
theorem RowB.own {B : Nat} {u : Value} {l : List EI} {w : World} (h : RowB B u l w) : OwnEP u l w := by
  obtain ⟨S, h1, _⟩ := rowB_at h
  exact h1.here
/-- behind an append -/
theorem rowB_snoc {B N : Nat} {l : List EI} {e : List CE} {x : EI} {u un v2 : Value} {W1 W2 : World} (hl : e.length = l.length) (h1 : W1.ownsRow B 41 5 u l.length (flatE e)) (h3 : ∀ (j : Nat) y p, l[j]? = some y → e[j]? = some p → CellB B p y W1)
    (h4 : ∀ (i j : Nat) p q b, e[i]? = some p → e[j]? = some q → p.2.2.2.1.ownBlock = some b → q.2.2.2.1.ownBlock = some b → i = j) (hN : ∀ p ∈ e, ∀ b, p.2.2.2.1.ownBlock = some b → b < N) (on : W1.ownsRow N 3 1 un x.2.2.1.2.length (intsV x.2.2.1.2)) (hBN : B ≤ N)
    (ho2 : W2.ownsRow B 41 5 v2 (l.length + 1) (flatE e ++ [.string x.1, .string x.2.1, .bool x.2.2.1.1, un, .int .i64 x.2.2.2])) (hg : W1.grownBy W2 u.ownBlock) : RowB B v2 (l ++ [x]) W2 := by
  have keep : ∀ {B' n : Nat} {v : Value} {ys : List Value}, W1.ownsRow B' 3 1 v n ys → W2.ownsRow B' 3 1 v n ys := fun o => own_stays o fun g hv => hg.block g (own_lt o hv).2 fun e => own_types h1 o (by decide) e.symm hv
  refine ⟨e ++ [(x.1, x.2.1, x.2.2.1.1, un, x.2.2.2)], by rw [List.length_append, flatE_append]; exact ho2, by rw [List.length_append, List.length_append, hl]; rfl, fun j y p hy hp => ?_, fun i j p q b hp hq hpb hqb => ?_⟩
  · by_cases hj : j < l.length
    · rw [List.getElem?_append_left hj] at hy
      rw [List.getElem?_append_left (by omega)] at hp
      obtain ⟨a1, a2, a3, a4, a5⟩ := h3 j y p hy hp
      exact ⟨a1, a2, a3, a4, keep a5⟩
    · rw [List.getElem?_append_right (by omega)] at hy hp
      have hj0 : j - l.length = 0 := by have := (List.getElem?_eq_some_iff.1 hy).1; simp at this; omega
      rw [hj0] at hy
      rw [hl, hj0] at hp
      cases hy
      cases hp
      exact ⟨rfl, rfl, rfl, rfl, own_low (keep on) hBN⟩
  · have hin : ∀ (i : Nat) p, (e ++ [(x.1, x.2.1, x.2.2.1.1, un, x.2.2.2)])[i]? = some p → (i < e.length ∧ e[i]? = some p) ∨ (i = e.length ∧ p.2.2.2.1 = un) := fun i p hp => by
      by_cases hi : i < e.length
      · rw [List.getElem?_append_left hi] at hp
        exact .inl ⟨hi, hp⟩
      · rw [List.getElem?_append_right (by omega)] at hp
        have hi0 : i - e.length = 0 := by have := (List.getElem?_eq_some_iff.1 hp).1; simp at this; omega
        rw [hi0] at hp
        cases hp
        exact .inr ⟨by omega, rfl⟩
    rcases hin i p hp with ⟨_, hp⟩ | ⟨hi, ep⟩ <;> rcases hin j q hq with ⟨_, hq⟩ | ⟨hj, eq⟩
    · exact h4 i j p q b hp hq hpb hqb
    · exfalso
      rw [eq] at hqb
      have := hN p (List.mem_of_getElem? hp) b hpb
      have := (own_lt on hqb).1
      omega
    · exfalso
      rw [ep] at hpb
      have := hN q (List.mem_of_getElem? hq) b hqb
      have := (own_lt on hpb).1
      omega
    · omega
theorem rowB_len {B : Nat} {u : Value} {l : List EI} {w : World} (h : RowB B u l w) : ∃ A c, u = .slice A l.length c := by
  obtain ⟨_, h1, _⟩ := h
  exact own_lenE h1
theorem flatE_set5 {e : List CE} {k : Nat} (h : k < e.length) (a b : ByteArray) (c : Bool) (u : Value) (n : Int) :
    (((((flatE e).set (k * 5) (.string a)).set (k * 5 + 1) (.string b)).set (k * 5 + 2) (.bool c)).set (k * 5 + 3) u).set (k * 5 + 4) (.int .i64 n) = flatE (e.set k (a, b, c, u, n)) := by
  induction e generalizing k with
  | nil => exact absurd h (Nat.not_lt_zero _)
  | cons q e ih =>
    cases k with
    | zero => rfl
    | succ k =>
      have := ih (k := k) (by simpa using h)
      rw [show (k + 1) * 5 = k * 5 + 1 + 1 + 1 + 1 + 1 by omega, List.set_cons_succ]
      show _ = _ :: _ :: _ :: _ :: _ :: flatE (e.set k _)
      rw [← this]
      rfl
/-- another rate in place k: its cells are written, its limbs are new -/
theorem rowB_set {B N k g c : Nat} {l : List EI} {x : EI} {un : Value} {W0 W : World} (h : RowB B (.slice (some ⟨g, 0, none⟩) l.length c) l W0) (hk : k < l.length) (hW : ∀ i, i < W0.heap.size → W.heap[i]? = W0.heap[i]?) (hN0 : W0.heap.size ≤ N)
    (on : W.ownsRow N 3 1 un x.2.2.1.2.length (intsV x.2.2.1.2)) (hBN : B ≤ N) :
    RowB B (.slice (some ⟨g, 0, none⟩) l.length c) (l.set k x) (((((W.setCell ⟨g, k * 5, none⟩ (.string x.1)).setCell ⟨g, k * 5 + 1, none⟩ (.string x.2.1)).setCell ⟨g, k * 5 + 2, none⟩ (.bool x.2.2.1.1)).setCell ⟨g, k * 5 + 3, none⟩ un).setCell ⟨g, k * 5 + 4, none⟩ (.int .i64 x.2.2.2)) := by
  obtain ⟨e, h01, h2, h03, h4⟩ := h
  have hN : ∀ p ∈ e, ∀ b, p.2.2.2.1.ownBlock = some b → b < N := fun p hp b hb => by
    obtain ⟨j, hj⟩ := List.mem_iff_getElem?.1 hp
    obtain ⟨y, hy⟩ : ∃ y, l[j]? = some y := ⟨_, List.getElem?_eq_getElem (by have := (List.getElem?_eq_some_iff.1 hj).1; omega)⟩
    have := (own_lt (h03 j y p hy hj).2.2.2.2 hb).2
    omega
  have h1 := own_stays h01 fun i hi => hW i (own_lt h01 hi).2
  have h3 : ∀ (j : Nat) y p, l[j]? = some y → e[j]? = some p → CellB B p y W := fun j y p hy hp => by
    obtain ⟨a1, a2, a3, a4, a5⟩ := h03 j y p hy hp
    exact ⟨a1, a2, a3, a4, own_stays a5 fun i hi => hW i (own_lt a5 hi).2⟩
  have hc : Chg [g] W (((((W.setCell ⟨g, k * 5, none⟩ (.string x.1)).setCell ⟨g, k * 5 + 1, none⟩ (.string x.2.1)).setCell ⟨g, k * 5 + 2, none⟩ (.bool x.2.2.1.1)).setCell ⟨g, k * 5 + 3, none⟩ un).setCell ⟨g, k * 5 + 4, none⟩ (.int .i64 x.2.2.2)) :=
    (((((Chg.refl _ _).setCell (by simp) _).setCell (by simp) _).setCell (by simp) _).setCell (by simp) _).setCell (by simp) _
  obtain ⟨o1, _⟩ := h1.stored (k * 5) (.string x.1)
  obtain ⟨o2, _⟩ := o1.stored (k * 5 + 1) (.string x.2.1)
  obtain ⟨o3, _⟩ := o2.stored (k * 5 + 2) (.bool x.2.2.1.1)
  obtain ⟨o4, _⟩ := o3.stored (k * 5 + 3) un
  obtain ⟨o5, _⟩ := o4.stored (k * 5 + 4) (.int .i64 x.2.2.2)
  rw [flatE_set5 (by omega)] at o5
  have keep : ∀ {B' n : Nat} {v : Value} {ys : List Value}, W.ownsRow B' 3 1 v n ys → (((((W.setCell ⟨g, k * 5, none⟩ (.string x.1)).setCell ⟨g, k * 5 + 1, none⟩ (.string x.2.1)).setCell ⟨g, k * 5 + 2, none⟩ (.bool x.2.2.1.1)).setCell ⟨g, k * 5 + 3, none⟩ un).setCell ⟨g, k * 5 + 4, none⟩ (.int .i64 x.2.2.2)).ownsRow B' 3 1 v n ys :=
    fun o => own_stays o fun b hv => hc.block b (own_lt o hv).2 fun hm => own_types h1 o (by decide) (by rw [List.mem_singleton.1 hm]; rfl) hv
  refine ⟨e.set k (x.1, x.2.1, x.2.2.1.1, un, x.2.2.2), by rw [List.length_set]; exact o5, by rw [List.length_set, List.length_set, h2], fun j y p hy hp => ?_, fun i j p q b hp hq hpb hqb => ?_⟩
  · by_cases hj : k = j
    · subst hj
      rw [List.getElem?_set_self hk] at hy
      rw [List.getElem?_set_self (by omega)] at hp
      cases hy
      cases hp
      exact ⟨rfl, rfl, rfl, rfl, own_low (keep on) hBN⟩
    · rw [List.getElem?_set_ne hj] at hy hp
      obtain ⟨a1, a2, a3, a4, a5⟩ := h3 j y p hy hp
      exact ⟨a1, a2, a3, a4, keep a5⟩
  · have hin : ∀ (i : Nat) p, (e.set k (x.1, x.2.1, x.2.2.1.1, un, x.2.2.2))[i]? = some p → (¬ k = i ∧ e[i]? = some p) ∨ (k = i ∧ p.2.2.2.1 = un) := fun i p hp => by
      by_cases hi : k = i
      · subst hi
        rw [List.getElem?_set_self (by omega)] at hp
        cases hp
        exact .inr ⟨rfl, rfl⟩
      · rw [List.getElem?_set_ne hi] at hp
        exact .inl ⟨hi, hp⟩
    rcases hin i p hp with ⟨_, hp⟩ | ⟨hi, ep⟩ <;> rcases hin j q hq with ⟨_, hq⟩ | ⟨hj, eq⟩
    · exact h4 i j p q b hp hq hpb hqb
    · exfalso
      rw [eq] at hqb
      have := hN p (List.mem_of_getElem? hp) b hpb
      have := (own_lt on hqb).1
      omega
    · exfalso
      rw [ep] at hpb
      have := hN q (List.mem_of_getElem? hq) b hqb
      have := (own_lt on hpb).1
      omega
    · omega
theorem five_new (w : World) (a b c d e : Value) (t : TypeId) : ∀ (j : Nat) (u : Value), [a, b, c, d, e][j]? = some u → (w.alloc (.cells #[a, b, c, d, e] t)).cell? (Addr.add ⟨w.heap.size, 0, none⟩ j) = some u := by
  intro j u h
  rw [add_ownE]
  match j, h with
  | 0, h => rw [World.cell?_alloc_at _ _ _ _ rfl]; simpa using h
  | 1, h => rw [World.cell?_alloc_at _ _ _ _ rfl]; simpa using h
  | 2, h => rw [World.cell?_alloc_at _ _ _ _ rfl]; simpa using h
  | 3, h => rw [World.cell?_alloc_at _ _ _ _ rfl]; simpa using h
  | 4, h => rw [World.cell?_alloc_at _ _ _ _ rfl]; simpa using h
  | j + 5, h => simp at h
/-- a list as far as it is built, and one more: with its cells in view -/
theorem rowB_open {B : Nat} {u : Value} {l : List EI} {w : World} (h : RowB B u l w) : ∃ e : List CE, w.ownsRow B 41 5 u l.length (flatE e) ∧ ∀ (W1 W2 : World) (N : Nat) (x : EI) (un v2 : Value), (∀ i, i < w.heap.size → W1.heap[i]? = w.heap[i]?) → w.heap.size ≤ N → B ≤ N → W1.ownsRow N 3 1 un x.2.2.1.2.length (intsV x.2.2.1.2) →
    W2.ownsRow B 41 5 v2 (l.length + 1) (flatE e ++ [.string x.1, .string x.2.1, .bool x.2.2.1.1, un, .int .i64 x.2.2.2]) → W1.grownBy W2 u.ownBlock → RowB B v2 (l ++ [x]) W2 := by
  obtain ⟨e, h1, h2, h3, h4⟩ := h
  refine ⟨e, h1, fun W1 W2 N x un v2 hk hN hB on ho hg => ?_⟩
  refine rowB_snoc h2 (own_stays h1 fun g hg => hk g (own_lt h1 hg).2) (fun j y p hy hp => ?_) h4 (fun p hp b hb => ?_) on hB ho hg
  · obtain ⟨a1, a2, a3, a4, a5⟩ := h3 j y p hy hp
    exact ⟨a1, a2, a3, a4, own_stays a5 fun g hg => hk g (own_lt a5 hg).2⟩
  · obtain ⟨j, hj⟩ := List.mem_iff_getElem?.1 hp
    obtain ⟨x, hx⟩ : ∃ x, l[j]? = some x := ⟨_, List.getElem?_eq_getElem (by have := (List.getElem?_eq_some_iff.1 hj).1; omega)⟩
    have := (own_lt (h3 j x p hx hj).2.2.2.2 hb).2
    omega
end Go.Proofs.YtbpfabicampdkaaGreatDoor

namespace Go.Proofs.YtbpfabicampdkaaGreatDoor
open Go.RowKit

set_option maxHeartbeats 2000000 in
set_option maxRecDepth 100000 in
theorem copyRate_any (vr : Value) (r : EI) (w : World) (hl : r.2.2.1.2.length ≤ 1048576) (hr : OwnE vr r w) :
    Calls Tryz.prog 64 #[vr] w (NewV (fun v => OwnE v r) w) := by
  have Hr := Lib.hid hr
  obtain ⟨Ar, cr, rfl⟩ := ownE_form hr
  have OEr := Lib.hid (show ∀ W, Below w.heap.size w W → OwnE (.agg #[.string r.1, .string r.2.1, .bool r.2.2.1.1, .slice Ar r.2.2.1.2.length cr, .int .i64 r.2.2.2]) r W from fun W hb => OwnE.below Hr.out hb)
  have OIr := Lib.hid (show ∀ W, Below w.heap.size w W → OwnI (.slice Ar r.2.2.1.2.length cr) r.2.2.1.2 W from fun W hb => ownE_open (OEr.out W hb))
  have ODr := Lib.hid (show ∀ W, Below w.heap.size w W → OwnD (.agg #[.bool r.2.2.1.1, .slice Ar r.2.2.1.2.length cr, .int .i64 r.2.2.2]) r.2.2 W from fun W hb => OwnD.mk (OIr.out W hb))
  have OSr := Lib.hid (show ∀ W, Below w.heap.size w W → OwnS (.agg #[.bool r.2.2.1.1, .slice Ar r.2.2.1.2.length cr]) r.2.2.1 W from fun W hb => OwnS.mk (OIr.out W hb))
  clear hr
  have bb0 : Below w.heap.size w ((w.alloc (.cells #[.string r.1, .string r.2.1, .bool r.2.2.1.1, .slice Ar r.2.2.1.2.length cr, .int .i64 r.2.2.2] 41)).alloc (.cells #[.string ⟨#[]⟩, .string ⟨#[]⟩, .bool false, .slice none 0 0, .int .i64 0] 41)) := below_al (below_al (Below.refl _ _) _) _
  have kr := (box_new w #[.string r.1, .string r.2.1, .bool r.2.2.1.1, .slice Ar r.2.2.1.2.length cr, .int .i64 r.2.2.2] 41).below (below_al (Below.refl _ _) (.cells #[.string ⟨#[]⟩, .string ⟨#[]⟩, .bool false, .slice none 0 0, .int .i64 0] 41))
  have ko := (box_new (w.alloc (.cells #[.string r.1, .string r.2.1, .bool r.2.2.1.1, .slice Ar r.2.2.1.2.length cr, .int .i64 r.2.2.2] 41)) #[.string ⟨#[]⟩, .string ⟨#[]⟩, .bool false, .slice none 0 0, .int .i64 0] 41)
  rw [show (w.alloc (.cells #[.string r.1, .string r.2.1, .bool r.2.2.1.1, .slice Ar r.2.2.1.2.length cr, .int .i64 r.2.2.2] 41)).heap.size = w.heap.size + 1 by simp] at ko
  have ks := box_new (((w.alloc (.cells #[.string r.1, .string r.2.1, .bool r.2.2.1.1, .slice Ar r.2.2.1.2.length cr, .int .i64 r.2.2.2] 41)).alloc (.cells #[.string ⟨#[]⟩, .string ⟨#[]⟩, .bool false, .slice none 0 0, .int .i64 0] 41))) #[.string r.1, .string r.2.1, .bool r.2.2.1.1, .slice Ar r.2.2.1.2.length cr, .int .i64 r.2.2.2] 41
  have als := below_al (Below.refl (((w.alloc (.cells #[.string r.1, .string r.2.1, .bool r.2.2.1.1, .slice Ar r.2.2.1.2.length cr, .int .i64 r.2.2.2] 41)).alloc (.cells #[.string ⟨#[]⟩, .string ⟨#[]⟩, .bool false, .slice none 0 0, .int .i64 0] 41))).heap.size (((w.alloc (.cells #[.string r.1, .string r.2.1, .bool r.2.2.1.1, .slice Ar r.2.2.1.2.length cr, .int .i64 r.2.2.2] 41)).alloc (.cells #[.string ⟨#[]⟩, .string ⟨#[]⟩, .bool false, .slice none 0 0, .int .i64 0] 41)))) (.cells #[.string r.1, .string r.2.1, .bool r.2.2.1.1, .slice Ar r.2.2.1.2.length cr, .int .i64 r.2.2.2] 41)
  have bbs := Below.next bb0 als
  replace kr := kr.below als
  replace ko := ko.below als
  rw [show ((w.alloc (.cells #[.string r.1, .string r.2.1, .bool r.2.2.1.1, .slice Ar r.2.2.1.2.length cr, .int .i64 r.2.2.2] 41)).alloc (.cells #[.string ⟨#[]⟩, .string ⟨#[]⟩, .bool false, .slice none 0 0, .int .i64 0] 41)).heap.size = w.heap.size + 1 + 1 by simp] at ks
  go_enter Tryz.func64, Tryz.ntmps64
  have kr_c0 := kr.here.cell 0 _ rfl
  have kr_c1 := kr.here.cell 1 _ rfl
  have kr_c2 := kr.here.cell 2 _ rfl
  have kr_c3 := kr.here.cell 3 _ rfl
  have kr_c4 := kr.here.cell 4 _ rfl
  have ks_c0 := ks.here.cell 0 _ rfl
  have ks_c1 := ks.here.cell 1 _ rfl
  have ks_c2 := ks.here.cell 2 _ rfl
  have ks_c3 := ks.here.cell 3 _ rfl
  have ks_c4 := ks.here.cell 4 _ rfl
  go_wp2_with fail
  clear kr_c0 kr_c1 kr_c2 kr_c3 kr_c4 ks_c0 ks_c1 ks_c2 ks_c3 ks_c4
  refine ((cloneI_any _ r.2.2.1.2 0 _ _ hl (OwnI.row (OIr.out _ bbs))).mono fun _ _ h => NewInts.newV h).mono ?_
  rintro e w1 ⟨un, Sn, rfl, on, ln, b1⟩
  obtain ⟨An, cn, rfl⟩ := own_len on.here
  have bb1 := Below.next bbs b1
  replace kr := kr.below b1
  replace ko := ko.below b1
  replace ks := ks.below b1
  have hz1 : w.heap.size + 1 + 1 + 1 ≤ w1.heap.size := by have := b1.size; simp at this; omega
  have hlo : ∀ i ∈ Sn, w.heap.size + 1 + 1 + 1 ≤ i := fun i hi => by have := (ln i hi).1; simp at this; omega
  have HW := Lib.hid (newV_chgM (φ := fun v => OwnE v r) (v := .agg #[.string r.1, .string r.2.1, .bool r.2.2.1.1, .slice An r.2.2.1.2.length cn, .int .i64 r.2.2.2]) (T := [w.heap.size + 1, w.heap.size + 1 + 1]) (on.imp fun _ h => (OwnE.mk h : OwnE _ r _)) (fun i hi hm => by have := hlo i hi; simp at hm; omega) (fun i hi => by simp at hi; omega) (fun i hi => by have := hlo i hi; omega) bb1)
  have cz0 := ko.here.cell 0 _ rfl
  have fz0 := Lib.frozen_of_heap ko.here 0
  have cz1 := ko.here.cell 1 _ rfl
  have fz1 := Lib.frozen_of_heap ko.here 1
  have cz2 := ko.here.cell 2 _ rfl
  have fz2 := Lib.frozen_of_heap ko.here 2
  have cz3 := ko.here.cell 3 _ rfl
  have fz3 := Lib.frozen_of_heap ko.here 3
  have cz4 := ko.here.cell 4 _ rfl
  have fz4 := Lib.frozen_of_heap ko.here 4
  have cs0 := ks.here.cell 0 _ rfl
  have fs0 := Lib.frozen_of_heap ks.here 0
  have cs1 := ks.here.cell 1 _ rfl
  have fs1 := Lib.frozen_of_heap ks.here 1
  have cs2 := ks.here.cell 2 _ rfl
  have fs2 := Lib.frozen_of_heap ks.here 2
  have cs3 := ks.here.cell 3 _ rfl
  have fs3 := Lib.frozen_of_heap ks.here 3
  have cs4 := ks.here.cell 4 _ rfl
  have fs4 := Lib.frozen_of_heap ks.here 4
  clear on ln hlo kr ko ks
  go_wp2
  refine bodyPost_ret (v := .agg #[.string r.1, .string r.2.1, .bool r.2.2.1.1, .slice An r.2.2.1.2.length cn, .int .i64 r.2.2.2]) (by simp [results, Tryz.results64, go_sem, cz0, cz1, cz2, cz3, cz4]) rfl ?_
  refine HW.out _ ?_
  repeat (first | with_reducible exact Chg.refl _ _ | with_reducible refine Chg.setCell ?_ (by simp) _)
/-- what copies a list: a new one of the same rates -/
def NewEL2 (l : List EI) (w : World) (e : Ending) (w' : World) : Prop := ∃ v, e = .returned v ∧ RowB w.heap.size v l w' ∧ Below w.heap.size w w'
theorem take_snocE {l : List EI} {k : Nat} {x : EI} (h : l[k]? = some x) : l.take (k + 1) = l.take k ++ [x] := by
  have hj := (List.getElem?_eq_some_iff.1 h).1
  rw [List.take_succ_eq_append_getElem hj, (List.getElem?_eq_some_iff.1 h).2]
/-- the world behind the two literals and the append -/
theorem below_app {w wr w2 w3 : World} {B : Nat} {v : Value} {o : Obj} (hb : Below B w wr) (hB : B ≤ wr.heap.size) (b2 : Below wr.heap.size wr w2) (hg : (w2.alloc o).grownBy w3 v.ownBlock) (hv : ∀ b, v.ownBlock = some b → B ≤ b) : Below B w w3 := by
  have h1 : Below B w w2 := hb.trans (b2.mono hB)
  exact (h1.alloc (Nat.le_trans hB b2.size) o).grown hg (Nat.le_trans hB (Nat.le_trans b2.size (by simp))) hv
set_option maxHeartbeats 4000000 in
set_option maxRecDepth 100000 in
theorem copyRates_any (v : Value) (l : List EI) (w : World) (hl : l.length ≤ 1099511627776) (hx : ∀ x ∈ l, x.2.2.1.2.length ≤ 1048576) (h : OwnER w v l) :
    Calls Tryz.prog 61 #[v] w (NewEL2 l w) := by
  obtain ⟨i0, hi0, hz0, hz1, hz2⟩ := info_parts infoEL
  obtain ⟨A, c, rfl, hc⟩ := h
  have HC := Lib.hid hc
  clear hc
  go_enter Tryz.func61, Tryz.ntmps61
  go_wp2
  go_loopw [3, 8] (fun uw i wr => ∃ (uv : Value) (k : Nat), uv = uw ∧ k ≤ l.length ∧ i = .int .i64 k ∧ RowB w.heap.size uv (l.take k) wr ∧ Below w.heap.size w wr) (fun _ i _ => l.length - (intOf i).toNat)
  case atStart => exact ⟨_, 0, rfl, Nat.zero_le _, rfl, rowB_nil _ _, Below.refl _ _⟩
  case round =>
    obtain ⟨uv, k, rfl, hk, rfl, ho, hb⟩ := hrel
    by_cases hlt : k < l.length
    · obtain ⟨x, hxk⟩ : ∃ x, l[k]? = some x := ⟨_, List.getElem?_eq_getElem hlt⟩
      obtain ⟨a, ux, rfl, ha, hc0, hc1, hc2, hc3, hc4, hox⟩ := HC.out k x hxk
      obtain ⟨A1, c1x, rfl⟩ := own_len hox
      have k0 := (cell_keep5' hb ha k).trans hc0
      have k1 := (cell_keep5 hb ha k 1).trans hc1
      have k2 := (cell_keep5 hb ha k 2).trans hc2
      have k3 := (cell_keep5 hb ha k 3).trans hc3
      have k4 := (cell_keep5 hb ha k 4).trans hc4
      have hxl := hx x (List.mem_of_getElem? hxk)
      have hbx := below_al (Below.refl wr.heap.size wr) (.cells #[.string x.1, .string x.2.1, .bool x.2.2.1.1, .slice A1 x.2.2.1.2.length c1x, .int .i64 x.2.2.2] 41)
      have kx := box_new wr #[.string x.1, .string x.2.1, .bool x.2.2.1.1, .slice A1 x.2.2.1.2.length c1x, .int .i64 x.2.2.2] 41
      have OX := Lib.hid (show OwnE (.agg #[.string x.1, .string x.2.1, .bool x.2.2.1.1, .slice A1 x.2.2.1.2.length c1x, .int .i64 x.2.2.2]) x (wr.alloc (.cells #[.string x.1, .string x.2.1, .bool x.2.2.1.1, .slice A1 x.2.2.1.2.length c1x, .int .i64 x.2.2.2] 41)) from OwnE.mk (own_below (own_below hox hb) hbx))
      have HTK := Lib.hid (take_snocE hxk)
      have hlk : (l.take k).length = k := by rw [List.length_take]; omega
      obtain ⟨e, ho1, hnext⟩ := rowB_open ho
      rw [hlk] at ho1
      have HNX := Lib.hid hnext
      have HVB := Lib.hid (show ∀ b, uv.ownBlock = some b → w.heap.size ≤ b from fun b hb => (own_lt ho1 hb).1)
      have hwz := hb.size
      have HB := Lib.hid hb
      have HO1 := Lib.hid ho1
      have cx0 := kx.here.cell 0 _ rfl
      have cx1 := kx.here.cell 1 _ rfl
      have cx2 := kx.here.cell 2 _ rfl
      have cx3 := kx.here.cell 3 _ rfl
      have cx4 := kx.here.cell 4 _ rfl
      clear ho hb hc0 hc1 hc2 hc3 hc4 hox ha hxk hnext ho1 kx
      go_wp2_with fail
      refine (copyRate_any _ x _ hxl OX.out).mono ?_
      rintro e2 w2 ⟨u2, Sn, rfl, on, ln, b2⟩
      obtain ⟨An, cn, rfl⟩ := ownE_form on.here
      obtain ⟨orow, _⟩ := newE_own on ln
      have hb2 : Below wr.heap.size wr w2 := hbx.trans (b2.mono (by simp))
      have hz2' : wr.heap.size + 1 ≤ w2.heap.size := by have := b2.size; simp at this; omega
      have hnew := five_new w2 (.string x.1) (.string x.2.1) (.bool x.2.2.1.1) (.slice An x.2.2.1.2.length cn) (.int .i64 x.2.2.2) 41
      have HON := Lib.hid (own_alloc orow (.cells #[.string x.1, .string x.2.1, .bool x.2.2.1.1, .slice An x.2.2.1.2.length cn, .int .i64 x.2.2.2] 41))
      have HOA := Lib.hid (own_alloc (own_below HO1.out hb2) (.cells #[.string x.1, .string x.2.1, .bool x.2.2.1.1, .slice An x.2.2.1.2.length cn, .int .i64 x.2.2.2] 41))
      have HB2 := Lib.hid hb2
      clear on ln orow b2 hb2 cx0 cx1 cx2 cx3 cx4 k0 k1 k2 k3 k4
      go_wp2_with (at_builtin; refine wpList_append_own _ rfl _ _ 23 rfl w.heap.size 41 i0 (.agg #[.string ⟨#[]⟩, .string ⟨#[]⟩, .bool false, .slice none 0 0, .int .i64 0]) 5 72 Tryz.underlying23 hi0 hz0 hz1 hz2 rfl (by decide) uv k (flatE e) rfl HOA.out ⟨w2.heap.size, 0, none⟩ 1 1 [.string x.1, .string x.2.1, .bool x.2.2.1.1, .slice An x.2.2.1.2.length cn, .int .i64 x.2.2.2] rfl rfl hnew ?c2 ?c3 ?c4 ?c5 ?_)
      case c2 => intro u hu; simp at hu; rcases hu with rfl | rfl | rfl | rfl | rfl <;> rfl
      case c3 => unfold maxLen; omega
      case c4 => omega
      case c5 => simp; omega
      intro v2 w3 hown2 hg2 _
      have hrow := HNX.out _ w3 _ x _ v2 (fun i hi => ((Below.refl w2.heap.size w2).alloc (Nat.le_refl _) _).block i (by omega) |>.trans (HB2.out.block i hi)) (show wr.heap.size ≤ (wr.alloc (.cells #[.string x.1, .string x.2.1, .bool x.2.2.1.1, .slice A1 x.2.2.1.2.length c1x, .int .i64 x.2.2.2] 41)).heap.size by simp) (by simp; omega) HON.out (by rw [hlk]; exact hown2) hg2
      rw [← HTK.out] at hrow
      have hb3 := below_app HB.out (by omega) HB2.out hg2 HVB.out
      have HR3 := Lib.hid hrow
      have HB3 := Lib.hid hb3
      clear hown2 hg2 hrow hb3 hnew HON HOA HB HB2 HVB HNX HO1 HTK
      go_wp2
      exact ⟨⟨v2, k + 1, rfl, by omega, by go_num, HR3.out, HB3.out⟩, by simp [intOf]; omega⟩
    · obtain rfl : k = l.length := by omega
      rw [List.take_length] at ho
      go_wp2
      go_ret
      exact ⟨_, rfl, ho, hb⟩
end Go.Proofs.YtbpfabicampdkaaGreatDoor

namespace Go.Proofs.YtbpfabicampdkaaGreatDoor
open Go.RowKit

theorem At.under {S : List Nat} {φ : World → Prop} {w w' : World} {B : Nat} (h : At S φ w) (hb : Below B w w') (hS : ∀ g ∈ S, g < B) : At S φ w' := h.move (fun g hg => hb.block g (hS g hg)) hb.size
set_option maxHeartbeats 4000000 in
set_option maxRecDepth 100000 in
theorem implRatePut_any (vt vr : Value) (t : TI) (r : EI) (w : World) (hl : t.2.length ≤ 1048576) (hx : ∀ x ∈ t.2, x.2.2.1.2.length ≤ 1048576) (hlr : r.2.2.1.2.length ≤ 1048576) (h : OwnTR w vt t) (hr : OwnE vr r w) (ht : CurTab w) :
    Calls Tryz.prog 22 #[vt, vr] w (PostTb (putT t r).1 (putT t r).2 w) := by
  obtain ⟨i0, hi0, hq0, hq1, hq2⟩ := info_parts infoEL
  obtain ⟨At, ct, rfl, hrt⟩ := ownTR_form h
  have HRT := Lib.hid (show ∀ W, Below w.heap.size w W → OwnER W (.slice At t.2.length ct) t.2 from fun W h => hrt.below h)
  have HTR := Lib.hid (show ∀ W, Below w.heap.size w W → OwnTR W (.agg #[.string t.1, .slice At t.2.length ct]) t from fun W h => ⟨_, rfl, hrt.below h⟩)
  clear h hrt
  have Hr := Lib.hid hr
  obtain ⟨Ar, cr, rfl⟩ := ownE_form hr
  have OEr := Lib.hid (show ∀ W, Below w.heap.size w W → OwnE (.agg #[.string r.1, .string r.2.1, .bool r.2.2.1.1, .slice Ar r.2.2.1.2.length cr, .int .i64 r.2.2.2]) r W from fun W hb => OwnE.below Hr.out hb)
  have OIr := Lib.hid (show ∀ W, Below w.heap.size w W → OwnI (.slice Ar r.2.2.1.2.length cr) r.2.2.1.2 W from fun W hb => ownE_open (OEr.out W hb))
  have ODr := Lib.hid (show ∀ W, Below w.heap.size w W → OwnD (.agg #[.bool r.2.2.1.1, .slice Ar r.2.2.1.2.length cr, .int .i64 r.2.2.2]) r.2.2 W from fun W hb => OwnD.mk (OIr.out W hb))
  have OSr := Lib.hid (show ∀ W, Below w.heap.size w W → OwnS (.agg #[.bool r.2.2.1.1, .slice Ar r.2.2.1.2.length cr]) r.2.2.1 W from fun W hb => OwnS.mk (OIr.out W hb))
  clear hr
  have HT := Lib.hid ht
  clear ht
  have bb0 : Below w.heap.size w (((w.alloc (.cells #[.string t.1, .slice At t.2.length ct] 25)).alloc (.cells #[.string r.1, .string r.2.1, .bool r.2.2.1.1, .slice Ar r.2.2.1.2.length cr, .int .i64 r.2.2.2] 41)).alloc (.cells #[.string ⟨#[]⟩, .slice none 0 0] 25)) := below_al (below_al (below_al (Below.refl _ _) _) _) _
  have kt := (box_new w #[.string t.1, .slice At t.2.length ct] 25).below (below_al (below_al (Below.refl _ _) (.cells #[.string r.1, .string r.2.1, .bool r.2.2.1.1, .slice Ar r.2.2.1.2.length cr, .int .i64 r.2.2.2] 41)) (.cells #[.string ⟨#[]⟩, .slice none 0 0] 25))
  have kr := (box_new (w.alloc (.cells #[.string t.1, .slice At t.2.length ct] 25)) #[.string r.1, .string r.2.1, .bool r.2.2.1.1, .slice Ar r.2.2.1.2.length cr, .int .i64 r.2.2.2] 41).below (below_al (Below.refl _ _) (.cells #[.string ⟨#[]⟩, .slice none 0 0] 25))
  rw [show (w.alloc (.cells #[.string t.1, .slice At t.2.length ct] 25)).heap.size = w.heap.size + 1 by simp] at kr
  have ko := (box_new ((w.alloc (.cells #[.string t.1, .slice At t.2.length ct] 25)).alloc (.cells #[.string r.1, .string r.2.1, .bool r.2.2.1.1, .slice Ar r.2.2.1.2.length cr, .int .i64 r.2.2.2] 41)) #[.string ⟨#[]⟩, .slice none 0 0] 25)
  rw [show ((w.alloc (.cells #[.string t.1, .slice At t.2.length ct] 25)).alloc (.cells #[.string r.1, .string r.2.1, .bool r.2.2.1.1, .slice Ar r.2.2.1.2.length cr, .int .i64 r.2.2.2] 41)).heap.size = w.heap.size + 1 + 1 by simp] at ko
  have HKO := Lib.hid (ko.lt (w.heap.size + 1 + 1) (by simp))
  go_enter Tryz.func22, Tryz.ntmps22
  have kt_c0 := kt.here.cell 0 _ rfl
  have kt_c1 := kt.here.cell 1 _ rfl
  go_wp2_with fail
  clear kt_c0 kt_c1
  refine (implRatesOk_any _ t _ (by omega) hx (HTR.out _ bb0) (HT.out.below bb0)).mono ?_
  rintro e w1 ⟨rfl, b1⟩
  have bb1 := Below.next bb0 b1
  replace kt := kt.below b1
  replace kr := kr.below b1
  replace ko := ko.below b1
  by_cases ok : okT t = true
  · rw [ok]
    have HP := Lib.hid (putT_good (r := r) ok)
    clear ok
    have hw1 : w.heap.size + 3 ≤ w1.heap.size := by have := b1.size; simp at this; omega
    have kt_c0 := kt.here.cell 0 _ rfl
    have kt_c1 := kt.here.cell 1 _ rfl
    go_wp2_with fail
    clear kt_c0 kt_c1
    refine (copyRates_any _ t.2 _ (by omega) hx (HRT.out _ bb1)).mono ?_
    rintro e w2 ⟨u1, rfl, RB, b2⟩
    obtain ⟨A1, c1, rfl⟩ := rowB_len RB
    have bb2 := Below.next bb1 b2
    replace kt := kt.below b2
    replace kr := kr.below b2
    replace ko := ko.below b2
    have kr_c0 := kr.here.cell 0 _ rfl
    have kr_c1 := kr.here.cell 1 _ rfl
    have kr_c2 := kr.here.cell 2 _ rfl
    have kr_c3 := kr.here.cell 3 _ rfl
    have kr_c4 := kr.here.cell 4 _ rfl
    go_wp2_with fail
    clear kr_c0 kr_c1 kr_c2 kr_c3 kr_c4
    refine (pairOf_any _ r _ (OEr.out _ bb2).rd).mono ?_
    rintro e w3 ⟨rfl, b3⟩
    have bb3 := Below.next bb2 b3
    replace kt := kt.below b3
    replace kr := kr.below b3
    replace ko := ko.below b3
    replace RB := RB.below b3
    go_wp2_with fail
    refine (rateAt_any _ t.2 r.1 r.2.1 _ (by omega) RB.own.ownR.rd).mono ?_
    rintro e w4 ⟨rfl, b4⟩
    have bb4 := Below.next bb3 b4
    replace kt := kt.below b4
    replace kr := kr.below b4
    replace ko := ko.below b4
    replace RB := RB.below b4
    have hW1 : w1.heap.size ≤ w4.heap.size := by have := b2.size; have := b3.size; have := b4.size; omega
    by_cases hz : posE t.2 r.1 r.2.1 < 0
    · have hz1 : decide (0 ≤ posE t.2 r.1 r.2.1) = false := decide_eq_false (by omega)
      have NE := newT_app hz
      clear hz
      obtain ⟨z, hzz⟩ : ∃ z, posE t.2 r.1 r.2.1 = z := ⟨_, rfl⟩
      rw [hzz] at hz1 ⊢
      clear hzz
      obtain ⟨e, ho1, hnext⟩ := rowB_open RB
      have HNX := Lib.hid hnext
      have HO1 := Lib.hid ho1
      clear RB hnext ho1
      have kr_c0 := kr.here.cell 0 _ rfl
      have kr_c1 := kr.here.cell 1 _ rfl
      have kr_c2 := kr.here.cell 2 _ rfl
      have kr_c3 := kr.here.cell 3 _ rfl
      have kr_c4 := kr.here.cell 4 _ rfl
      go_wp2_with fail
      clear kr_c0 kr_c1 kr_c2 kr_c3 kr_c4
      refine (copyRate_any _ r _ hlr (OEr.out _ bb4)).mono ?_
      rintro e w5 ⟨u2, Sn, rfl, on, ln, b5⟩
      obtain ⟨An, cn, rfl⟩ := ownE_form on.here
      obtain ⟨orow, _⟩ := newE_own on ln
      have bb5 := Below.next bb4 b5
      replace kt := kt.below b5
      replace kr := kr.below b5
      replace ko := ko.below b5
      have hnew := five_new w5 (.string r.1) (.string r.2.1) (.bool r.2.2.1.1) (.slice An r.2.2.1.2.length cn) (.int .i64 r.2.2.2) 41
      have HON := Lib.hid (own_alloc orow (.cells #[.string r.1, .string r.2.1, .bool r.2.2.1.1, .slice An r.2.2.1.2.length cn, .int .i64 r.2.2.2] 41))
      have HOA := Lib.hid (own_alloc (own_below HO1.out b5) (.cells #[.string r.1, .string r.2.1, .bool r.2.2.1.1, .slice An r.2.2.1.2.length cn, .int .i64 r.2.2.2] 41))
      have HB2 := Lib.hid b5
      have HVB := Lib.hid (show ∀ b, (Value.slice A1 t.2.length c1).ownBlock = some b → w1.heap.size ≤ b from fun b hb => (own_lt HO1.out hb).1)
      have hzm := b5.size
      have HBB := Lib.hid bb5
      have HKT := Lib.hid kt
      have HKO2 := Lib.hid ko
      clear on ln orow kt ko kr b5 hz1
      go_wp2_with (at_builtin; refine wpList_append_own _ rfl _ _ 23 rfl w1.heap.size 41 i0 (.agg #[.string ⟨#[]⟩, .string ⟨#[]⟩, .bool false, .slice none 0 0, .int .i64 0]) 5 72 Tryz.underlying23 hi0 hq0 hq1 hq2 rfl (by decide) (.slice A1 t.2.length c1) t.2.length (flatE e) rfl HOA.out ⟨w5.heap.size, 0, none⟩ 1 1 [.string r.1, .string r.2.1, .bool r.2.2.1.1, .slice An r.2.2.1.2.length cn, .int .i64 r.2.2.2] rfl rfl hnew ?c2 ?c3 ?c4 ?c5 ?_)
      case c2 => intro u hu; simp at hu; rcases hu with rfl | rfl | rfl | rfl | rfl <;> rfl
      case c3 => unfold maxLen; omega
      case c4 => omega
      case c5 => simp; omega
      intro v2 w6 hown2 hg2 _
      have RN0 := HNX.out _ w6 w4.heap.size r _ v2 (fun i hi => ((Below.refl w5.heap.size w5).alloc (Nat.le_refl _) _).block i (by omega) |>.trans (HB2.out.block i hi)) (Nat.le_refl _) hW1 HON.out hown2 hg2
      have RN : RowB w1.heap.size v2 (newT t r).2 w6 := by rw [NE]; exact RN0
      have hap := below_app (Below.refl w1.heap.size w5) (by omega) (Below.refl w5.heap.size w5) hg2 HVB.out
      have bbN : Below w.heap.size w w6 := HBB.out.trans (hap.mono (by omega))
      have kt := HKT.out.under hap (fun i hi => by simp at hi; omega)
      have ko := HKO2.out.under hap (fun i hi => by simp at hi; omega)
      have hW1 : w1.heap.size ≤ w6.heap.size := by have := hap.size; omega
      clear hown2 hg2 RN0 hap HNX HON HOA HVB HBB HKT HKO2 HO1 hnew HB2
      have hN1 : (newT t r).1 = t.1 := by rw [NE]
      have hNl := newT_len t r
      have hNx := newT_all (r := r) hx hlr
      obtain ⟨SN, on, _, ln⟩ := rowB_at RN
      obtain ⟨AN, cN, eN⟩ := rowB_len RN
      have HRN := Lib.hid (show ∀ W', Below w6.heap.size w6 W' → OwnER W' _ (newT t r).2 from fun W' h => (RN.below h).own.ownR)
      clear NE RN
      generalize newT t r = N at *
      obtain ⟨n1, nl⟩ := N
      dsimp only at *
      subst eN
      rw [← hN1] at kt
      clear hN1
      have kt_c0 := kt.here.cell 0 _ rfl
      have kt_c1 := kt.here.cell 1 _ rfl
      go_upto_region 9 with fail
      clear kt_c0 kt_c1
      clear kt
      have kp := box_new (w6) #[.string n1, .slice AN nl.length cN] 25
      have alp := below_al (Below.refl (w6).heap.size (w6)) (.cells #[.string n1, .slice AN nl.length cN] 25)
      have bbp := Below.next bbN alp
      replace ko := ko.below alp
      replace on := on.below alp
      have HRN2 := Lib.hid (show ∀ W', Below (w6.alloc (.cells #[.string n1, .slice AN nl.length cN] 25)).heap.size (w6.alloc (.cells #[.string n1, .slice AN nl.length cN] 25)) W' → OwnTR W' (.agg #[.string n1, .slice AN nl.length cN]) (n1, nl) from fun W' h => ⟨_, rfl, HRN.out _ ((below_al (Below.refl _ _) _).trans (h.mono (by simp)))⟩)
      have hzW : (w6.alloc (.cells #[.string n1, .slice AN nl.length cN] 25)).heap.size = w6.heap.size + 1 := by simp
      have kp_c0 := kp.here.cell 0 _ rfl
      have kp_c1 := kp.here.cell 1 _ rfl
      go_wp2_with fail
      clear kp_c0 kp_c1
      refine (implRatesOk_any _ (n1, nl) _ (by dsimp only; omega) hNx (HRN2.out _ (Below.refl _ _)) (HT.out.below bbp)).mono ?_
      rintro e wf ⟨rfl, bf⟩
      have bbf := Below.next bbp bf
      replace ko := ko.below bf
      replace on := on.below bf
      replace kp := kp.below bf
      by_cases okn : okT (n1, nl) = true
      · have HV := Lib.hid (HP.out.trans (if_pos okn))
        rw [okn]
        clear okn
        have HW := Lib.hid (newTb_at (r := w.heap.size + 1 + 1) (b := true) (x := (n1, nl)) (B := w1.heap.size) (on.imp fun _ h => (⟨_, rfl, h⟩ : OwnT (.agg #[.string n1, .slice AN nl.length cN]) (n1, nl) _)) (fun i hi => ⟨(ln i hi).1, on.lt i hi⟩) (by omega) (by omega) bbf)
        have cz0 := ko.here.cell 0 _ rfl
        have fz0 := Lib.frozen_of_heap ko.here 0
        have cz1 := ko.here.cell 1 _ rfl
        have fz1 := Lib.frozen_of_heap ko.here 1
        have cp0 := kp.here.cell 0 _ rfl
        have cp1 := kp.here.cell 1 _ rfl
        have hnp1 : ¬ w6.heap.size = w.heap.size + 1 + 1 := by omega
        have hnp2 : ¬ w.heap.size + 1 + 1 = w6.heap.size := fun e => hnp1 e.symm
        clear kp ko on
        go_wp2
        refine bodyPost_ret (v := .tuple #[.agg #[.string n1, .slice AN nl.length cN], .bool true]) (by simp [results, Tryz.results22, go_sem, cz0, cz1]) rfl ?_
        rw [HV.out]
        exact HW.out
      · have okn' : okT (n1, nl) = false := by simpa using okn
        have HV := Lib.hid (HP.out.trans (if_neg okn))
        rw [okn']
        clear okn okn'
        have cz0 := ko.here.cell 0 _ rfl
        have fz0 := Lib.frozen_of_heap ko.here 0
        have cz1 := ko.here.cell 1 _ rfl
        have fz1 := Lib.frozen_of_heap ko.here 1
        clear ko on kp
        go_wp2
        refine bodyPost_ret (v := .tuple #[.agg #[.string ⟨#[]⟩, .slice none 0 0], .bool false]) (by simp [results, Tryz.results22, go_sem, cz0, cz1]) rfl ?_
        rw [HV.out]
        first | exact newTb_zero _ bbf | exact newTb_zero _ (below_set2 bbf (by omega))
    · have hz1 : decide (0 ≤ posE t.2 r.1 r.2.1) = true := decide_eq_true (by omega)
      obtain ⟨n, x, hzn, hxn, _⟩ := posE_at (show 0 ≤ posE t.2 r.1 r.2.1 by omega)
      have hnl := (List.getElem?_eq_some_iff.1 hxn).1
      have NE := newT_set hzn
      rw [hzn] at hz1 ⊢
      clear hz hxn hzn
      have HRB := Lib.hid RB
      obtain ⟨e, ho1, _⟩ := rowB_open RB
      obtain ⟨gl, cap, ev, hgl, hgl2, _⟩ := own_form ho1 (by omega)
      cases ev
      clear RB
      have HO1 := Lib.hid ho1
      clear ho1
      have kr_c0 := kr.here.cell 0 _ rfl
      have kr_c1 := kr.here.cell 1 _ rfl
      have kr_c2 := kr.here.cell 2 _ rfl
      have kr_c3 := kr.here.cell 3 _ rfl
      have kr_c4 := kr.here.cell 4 _ rfl
      go_wp2_with fail
      clear kr_c0 kr_c1 kr_c2 kr_c3 kr_c4
      refine (copyRate_any _ r _ hlr (OEr.out _ bb4)).mono ?_
      rintro e w5 ⟨u2, Sn, rfl, on, ln, b5⟩
      obtain ⟨An, cn, rfl⟩ := ownE_form on.here
      obtain ⟨orow, _⟩ := newE_own on ln
      have bb5 := Below.next bb4 b5
      replace kt := kt.below b5
      replace kr := kr.below b5
      replace ko := ko.below b5
      have ho5 := own_below HO1.out b5
      have hfl : (flatE e).length = t.2.length * 5 := ho5.1
      have hcell0 := ho5.cellAt (n * 5) (by omega)
      rw [List.getElem?_eq_getElem (by omega)] at hcell0
      have hfr0 := ho5.frozenAt (n * 5)
      have hcell1 := ho5.cellAt (n * 5 + 1) (by omega)
      rw [List.getElem?_eq_getElem (by omega)] at hcell1
      have hfr1 := ho5.frozenAt (n * 5 + 1)
      have hcell2 := ho5.cellAt (n * 5 + 2) (by omega)
      rw [List.getElem?_eq_getElem (by omega)] at hcell2
      have hfr2 := ho5.frozenAt (n * 5 + 2)
      have hcell3 := ho5.cellAt (n * 5 + 3) (by omega)
      rw [List.getElem?_eq_getElem (by omega)] at hcell3
      have hfr3 := ho5.frozenAt (n * 5 + 3)
      have hcell4 := ho5.cellAt (n * 5 + 4) (by omega)
      rw [List.getElem?_eq_getElem (by omega)] at hcell4
      have hfr4 := ho5.frozenAt (n * 5 + 4)
      have hch : Chg [gl] w5 (((((w5.setCell ⟨gl, n * 5, none⟩ (.string r.1)).setCell ⟨gl, n * 5 + 1, none⟩ (.string r.2.1)).setCell ⟨gl, n * 5 + 2, none⟩ (.bool r.2.2.1.1)).setCell ⟨gl, n * 5 + 3, none⟩ (.slice An r.2.2.1.2.length cn)).setCell ⟨gl, n * 5 + 4, none⟩ (.int .i64 r.2.2.2)) := (((((Chg.refl _ _).setCell (by simp) _).setCell (by simp) _).setCell (by simp) _).setCell (by simp) _).setCell (by simp) _
      have RN0 := rowB_set (x := r) HRB.out hnl (fun i hi => b5.block i hi) (Nat.le_refl _) orow hW1
      have RN : RowB w1.heap.size (.slice (some ⟨gl, 0, none⟩) t.2.length c1) (newT t r).2 (((((w5.setCell ⟨gl, n * 5, none⟩ (.string r.1)).setCell ⟨gl, n * 5 + 1, none⟩ (.string r.2.1)).setCell ⟨gl, n * 5 + 2, none⟩ (.bool r.2.2.1.1)).setCell ⟨gl, n * 5 + 3, none⟩ (.slice An r.2.2.1.2.length cn)).setCell ⟨gl, n * 5 + 4, none⟩ (.int .i64 r.2.2.2)) := by rw [NE]; exact RN0
      replace kt := kt.chg hch (fun i hi hm => by simp at hi hm; omega)
      replace ko := ko.chg hch (fun i hi hm => by simp at hi hm; omega)
      have bbN := below_chg bb5 hch bb5.size (fun i hi => by simp at hi; omega)
      have hW1 : w1.heap.size ≤ ((((((w5.setCell ⟨gl, n * 5, none⟩ (.string r.1)).setCell ⟨gl, n * 5 + 1, none⟩ (.string r.2.1)).setCell ⟨gl, n * 5 + 2, none⟩ (.bool r.2.2.1.1)).setCell ⟨gl, n * 5 + 3, none⟩ (.slice An r.2.2.1.2.length cn)).setCell ⟨gl, n * 5 + 4, none⟩ (.int .i64 r.2.2.2))).heap.size := by have := hch.size; have := b5.size; omega
      obtain ⟨W5, hW5⟩ : ∃ W5, W5 = (((((w5.setCell ⟨gl, n * 5, none⟩ (.string r.1)).setCell ⟨gl, n * 5 + 1, none⟩ (.string r.2.1)).setCell ⟨gl, n * 5 + 2, none⟩ (.bool r.2.2.1.1)).setCell ⟨gl, n * 5 + 3, none⟩ (.slice An r.2.2.1.2.length cn)).setCell ⟨gl, n * 5 + 4, none⟩ (.int .i64 r.2.2.2)) := ⟨_, rfl⟩
      rw [← hW5] at RN kt ko bbN hW1
      have HW5 := Lib.hid hW5
      clear hW5 hch RN0 on ln orow kr b5 ho5 HRB HO1
      go_upto_region 8 with fail
      rw [← HW5.out]
      clear hcell0 hfr0 hcell1 hfr1 hcell2 hfr2 hcell3 hfr3 hcell4 hfr4 hz1 hfl
      have hNlen : (newT t r).2.length = t.2.length := by rw [NE]; exact List.length_set ..
      rw [← hNlen] at RN ⊢
      clear hNlen
      have hN1 : (newT t r).1 = t.1 := by rw [NE]
      have hNl := newT_len t r
      have hNx := newT_all (r := r) hx hlr
      obtain ⟨SN, on, _, ln⟩ := rowB_at RN
      have HRN := Lib.hid (show ∀ W', Below W5.heap.size W5 W' → OwnER W' _ (newT t r).2 from fun W' h => (RN.below h).own.ownR)
      clear NE RN
      generalize newT t r = N at *
      obtain ⟨n1, nl⟩ := N
      dsimp only at *
      rw [← hN1] at kt
      clear hN1
      have kt_c0 := kt.here.cell 0 _ rfl
      have kt_c1 := kt.here.cell 1 _ rfl
      go_upto_region 9 with fail
      clear kt_c0 kt_c1
      clear kt
      have kp := box_new (W5) #[.string n1, .slice (some ⟨gl, 0, none⟩) nl.length c1] 25
      have alp := below_al (Below.refl (W5).heap.size (W5)) (.cells #[.string n1, .slice (some ⟨gl, 0, none⟩) nl.length c1] 25)
      have bbp := Below.next bbN alp
      replace ko := ko.below alp
      replace on := on.below alp
      have HRN2 := Lib.hid (show ∀ W', Below (W5.alloc (.cells #[.string n1, .slice (some ⟨gl, 0, none⟩) nl.length c1] 25)).heap.size (W5.alloc (.cells #[.string n1, .slice (some ⟨gl, 0, none⟩) nl.length c1] 25)) W' → OwnTR W' (.agg #[.string n1, .slice (some ⟨gl, 0, none⟩) nl.length c1]) (n1, nl) from fun W' h => ⟨_, rfl, HRN.out _ ((below_al (Below.refl _ _) _).trans (h.mono (by simp)))⟩)
      have hzW : (W5.alloc (.cells #[.string n1, .slice (some ⟨gl, 0, none⟩) nl.length c1] 25)).heap.size = W5.heap.size + 1 := by simp
      have kp_c0 := kp.here.cell 0 _ rfl
      have kp_c1 := kp.here.cell 1 _ rfl
      go_wp2_with fail
      clear kp_c0 kp_c1
      refine (implRatesOk_any _ (n1, nl) _ (by dsimp only; omega) hNx (HRN2.out _ (Below.refl _ _)) (HT.out.below bbp)).mono ?_
      rintro e wf ⟨rfl, bf⟩
      have bbf := Below.next bbp bf
      replace ko := ko.below bf
      replace on := on.below bf
      replace kp := kp.below bf
      by_cases okn : okT (n1, nl) = true
      · have HV := Lib.hid (HP.out.trans (if_pos okn))
        rw [okn]
        clear okn
        have HW := Lib.hid (newTb_at (r := w.heap.size + 1 + 1) (b := true) (x := (n1, nl)) (B := w1.heap.size) (on.imp fun _ h => (⟨_, rfl, h⟩ : OwnT (.agg #[.string n1, .slice (some ⟨gl, 0, none⟩) nl.length c1]) (n1, nl) _)) (fun i hi => ⟨(ln i hi).1, on.lt i hi⟩) (by omega) (by omega) bbf)
        have cz0 := ko.here.cell 0 _ rfl
        have fz0 := Lib.frozen_of_heap ko.here 0
        have cz1 := ko.here.cell 1 _ rfl
        have fz1 := Lib.frozen_of_heap ko.here 1
        have cp0 := kp.here.cell 0 _ rfl
        have cp1 := kp.here.cell 1 _ rfl
        have hnp1 : ¬ W5.heap.size = w.heap.size + 1 + 1 := by omega
        have hnp2 : ¬ w.heap.size + 1 + 1 = W5.heap.size := fun e => hnp1 e.symm
        clear kp ko on
        go_wp2
        refine bodyPost_ret (v := .tuple #[.agg #[.string n1, .slice (some ⟨gl, 0, none⟩) nl.length c1], .bool true]) (by simp [results, Tryz.results22, go_sem, cz0, cz1]) rfl ?_
        rw [HV.out]
        exact HW.out
      · have okn' : okT (n1, nl) = false := by simpa using okn
        have HV := Lib.hid (HP.out.trans (if_neg okn))
        rw [okn']
        clear okn okn'
        have cz0 := ko.here.cell 0 _ rfl
        have fz0 := Lib.frozen_of_heap ko.here 0
        have cz1 := ko.here.cell 1 _ rfl
        have fz1 := Lib.frozen_of_heap ko.here 1
        clear ko on kp
        go_wp2
        refine bodyPost_ret (v := .tuple #[.agg #[.string ⟨#[]⟩, .slice none 0 0], .bool false]) (by simp [results, Tryz.results22, go_sem, cz0, cz1]) rfl ?_
        rw [HV.out]
        first | exact newTb_zero _ bbf | exact newTb_zero _ (below_set2 bbf (by omega))
  · have ok' : okT t = false := by simpa using ok
    have HV := Lib.hid (putT_bad (r := r) ok)
    rw [ok']
    clear ok ok'
    have cz0 := ko.here.cell 0 _ rfl
    have fz0 := Lib.frozen_of_heap ko.here 0
    have cz1 := ko.here.cell 1 _ rfl
    have fz1 := Lib.frozen_of_heap ko.here 1
    clear kt kr ko
    go_wp2
    refine bodyPost_ret (v := .tuple #[.agg #[.string ⟨#[]⟩, .slice none 0 0], .bool false]) (by simp [results, Tryz.results22, go_sem, cz0, cz1]) rfl ?_
    rw [HV.out]
    first | exact newTb_zero _ bb1 | exact newTb_zero _ (below_set2 bb1 (by omega))
end Go.Proofs.YtbpfabicampdkaaGreatDoor

namespace Go.Proofs.YtbpfabicampdkaaGreatDoor
open Go.RowKit

theorem mkS_back {x : SI} (h : okS x = true) : mkS x.1 (trimL x.2) = x := by
  have hp := okS_parts h
  have hl : x.2.length ≤ 50 := (natOk_parts hp.1).2.1
  rw [ok_trimL hp.1, ← natOk_limbs hp.1]
  unfold mkS capL
  rw [if_neg (by omega)]
  obtain ⟨b, xs⟩ := x
  cases b
  · rfl
  · rw [decide_eq_true (hp.2 rfl)]; rfl
theorem okE_mk {r : EI} (h : okE r = true) : mkS r.2.2.1.1 (trimL r.2.2.1.2) = r.2.2.1 := by
  have hd := (okE_parts h).2.2.2.1
  unfold okD at hd
  rw [Bool.and_eq_true] at hd
  exact mkS_back hd.1
theorem makeE {q x : SI} (e : q = x) {w w' : World} {n : Ending} (h : NewS q w n w') : NewV (fun v => OwnS v x) w n w' := by rw [e] at h; exact h.newV
theorem makeRate_any (r : EI) (hm : mkS r.2.2.1.1 (trimL r.2.2.1.2) = r.2.2.1) (hl : r.2.2.1.2.length ≤ 1048576) (v : Value) (w : World) (h : OwnI v r.2.2.1.2 w) : Calls Tryz.prog 135 #[.bool r.2.2.1.1, v] w (NewV (fun u => OwnS u r.2.2.1) w) :=
  (l04Make_any r.2.2.1.1 v r.2.2.1.2 0 w hl h).mono fun _ _ h => makeE hm h
set_option maxHeartbeats 8000000 in
set_option maxRecDepth 100000 in
theorem l10Rate_any (vr : Value) (r : EI) (w : World) (ok : okE r = true) (hr : OwnE vr r w) :
    Calls Tryz.prog 150 #[vr] w (NewV (fun v => OwnE v r) w) := by
  have HM := Lib.hid (okE_mk ok)
  have hl : r.2.2.1.2.length ≤ 1048576 := by have := (okE_parts ok).2.2.2.2.2; omega
  clear ok
  have Hr := Lib.hid hr
  obtain ⟨Ar, cr, rfl⟩ := ownE_form hr
  have OEr := Lib.hid (show ∀ W, Below w.heap.size w W → OwnE (.agg #[.string r.1, .string r.2.1, .bool r.2.2.1.1, .slice Ar r.2.2.1.2.length cr, .int .i64 r.2.2.2]) r W from fun W hb => OwnE.below Hr.out hb)
  have OIr := Lib.hid (show ∀ W, Below w.heap.size w W → OwnI (.slice Ar r.2.2.1.2.length cr) r.2.2.1.2 W from fun W hb => ownE_open (OEr.out W hb))
  have ODr := Lib.hid (show ∀ W, Below w.heap.size w W → OwnD (.agg #[.bool r.2.2.1.1, .slice Ar r.2.2.1.2.length cr, .int .i64 r.2.2.2]) r.2.2 W from fun W hb => OwnD.mk (OIr.out W hb))
  have OSr := Lib.hid (show ∀ W, Below w.heap.size w W → OwnS (.agg #[.bool r.2.2.1.1, .slice Ar r.2.2.1.2.length cr]) r.2.2.1 W from fun W hb => OwnS.mk (OIr.out W hb))
  clear hr
  have bb0 : Below w.heap.size w ((w.alloc (.cells #[.string r.1, .string r.2.1, .bool r.2.2.1.1, .slice Ar r.2.2.1.2.length cr, .int .i64 r.2.2.2] 41)).alloc (.cells #[.string ⟨#[]⟩, .string ⟨#[]⟩, .bool false, .slice none 0 0, .int .i64 0] 41)) := below_al (below_al (Below.refl _ _) _) _
  have kr := (box_new w #[.string r.1, .string r.2.1, .bool r.2.2.1.1, .slice Ar r.2.2.1.2.length cr, .int .i64 r.2.2.2] 41).below (below_al (Below.refl _ _) (.cells #[.string ⟨#[]⟩, .string ⟨#[]⟩, .bool false, .slice none 0 0, .int .i64 0] 41))
  have ko := (box_new (w.alloc (.cells #[.string r.1, .string r.2.1, .bool r.2.2.1.1, .slice Ar r.2.2.1.2.length cr, .int .i64 r.2.2.2] 41)) #[.string ⟨#[]⟩, .string ⟨#[]⟩, .bool false, .slice none 0 0, .int .i64 0] 41)
  rw [show (w.alloc (.cells #[.string r.1, .string r.2.1, .bool r.2.2.1.1, .slice Ar r.2.2.1.2.length cr, .int .i64 r.2.2.2] 41)).heap.size = w.heap.size + 1 by simp] at ko
  have HKO := Lib.hid (ko.lt (w.heap.size + 1) (by simp))
  go_enter Tryz.func150, Tryz.ntmps150
  have kr_c0 := kr.here.cell 0 _ rfl
  have kr_c1 := kr.here.cell 1 _ rfl
  have kr_c2 := kr.here.cell 2 _ rfl
  have kr_c3 := kr.here.cell 3 _ rfl
  have kr_c4 := kr.here.cell 4 _ rfl
  go_upto_region 1 with fail
  clear kr_c0 kr_c1 kr_c2 kr_c3 kr_c4
  obtain ⟨w0, hw0⟩ : ∃ W, W = ((w.alloc (.cells #[.string r.1, .string r.2.1, .bool r.2.2.1.1, .slice Ar r.2.2.1.2.length cr, .int .i64 r.2.2.2] 41)).alloc (.cells #[.string ⟨#[]⟩, .string ⟨#[]⟩, .bool false, .slice none 0 0, .int .i64 0] 41)) := ⟨_, rfl⟩
  have HW0 := Lib.hid (show w.heap.size + 1 + 1 = w0.heap.size by rw [hw0]; simp)
  rw [← hw0] at kr ko bb0 HKO ⊢
  clear hw0
  have HC0 := Lib.hid (show Chg [w.heap.size + 1] w0 w0.drew from (Chg.refl _ _).drew1)
  have HCr := Lib.hid (show Chg [w.heap.size + 1] w0 w0 from Chg.refl _ _)
  have KL := Lib.hid (show ∀ W, Chg [w.heap.size + 1] w0 W → W.cell? ⟨w.heap.size, 0, none⟩ = some (.string r.1) ∧ W.cell? ⟨w.heap.size, 1, none⟩ = some (.string r.2.1) ∧ W.cell? ⟨w.heap.size, 2, none⟩ = some (.bool r.2.2.1.1) ∧ W.cell? ⟨w.heap.size, 3, none⟩ = some (.slice Ar r.2.2.1.2.length cr) ∧ W.cell? ⟨w.heap.size, 4, none⟩ = some (.int .i64 r.2.2.2) ∧ Hid (Chg [w.heap.size + 1] w0 W) from fun W hc => ⟨(kr.chg hc (fun i hi hm => by simp at hi hm; omega)).here.cell 0 _ rfl, (kr.chg hc (fun i hi hm => by simp at hi hm; omega)).here.cell 1 _ rfl, (kr.chg hc (fun i hi hm => by simp at hi hm; omega)).here.cell 2 _ rfl, (kr.chg hc (fun i hi hm => by simp at hi hm; omega)).here.cell 3 _ rfl, (kr.chg hc (fun i hi hm => by simp at hi hm; omega)).here.cell 4 _ rfl, Lib.hid hc⟩)
  have BBF := Lib.hid (show ∀ W, Chg [w.heap.size + 1] w0 W → Below w.heap.size w W from fun W hc => below_chg bb0 hc bb0.size (fun i hi => by simp at hi; omega))
  go_region_held3 (fun W => W.cell? ⟨w.heap.size, 0, none⟩ = some (.string r.1) ∧ W.cell? ⟨w.heap.size, 1, none⟩ = some (.string r.2.1) ∧ W.cell? ⟨w.heap.size, 2, none⟩ = some (.bool r.2.2.1.1) ∧ W.cell? ⟨w.heap.size, 3, none⟩ = some (.slice Ar r.2.2.1.2.length cr) ∧ W.cell? ⟨w.heap.size, 4, none⟩ = some (.int .i64 r.2.2.2) ∧ Hid (Chg [w.heap.size + 1] w0 W))
    ((refine KL.out _ ?_; (repeat with_reducible refine Chg.setCell ?_ (by simp) _); (first | with_reducible exact HC1.out | with_reducible exact HCr.out | with_reducible exact HC0.out | with_reducible exact HC1.out.drew1 | with_reducible exact HCr.out.drew1 | with_reducible exact HC0.out.drew1 | fail)))
    (first
      | (go_at_call 135; (have hBB := (‹_ ∧ _ ∧ _ ∧ _ ∧ _ ∧ Hid (Chg [w.heap.size + 1] w0 _)›).2.2.2.2.2); (with_reducible refine (makeRate_any r HM.out hl _ _ (OIr.out _ (BBF.out _ hBB.out))).mono ?_); rintro e w1 ⟨us, Ss, rfl, os, ls, b1⟩; have HC1 := Lib.hid (hBB.out.trans (Chg.of_below b1)); (have ko_1 := At.below (by first | exact ko | exact At.below ko (below_al (Below.refl _ _) _) | exact At.below (At.below ko (below_al (Below.refl _ _) _)) (below_al (Below.refl _ _) _) | exact At.move ko (fun _ _ => rfl) (Nat.le_refl _)) b1); obtain ⟨As, cs, rfl⟩ := ownS_form os.here; have cz0 := ko_1.here.cell 0 _ rfl; have fz0 := Lib.frozen_of_heap ko_1.here 0; have cz1 := ko_1.here.cell 1 _ rfl; have fz1 := Lib.frozen_of_heap ko_1.here 1; have cz2 := ko_1.here.cell 2 _ rfl; have fz2 := Lib.frozen_of_heap ko_1.here 2; have cz3 := ko_1.here.cell 3 _ rfl; have fz3 := Lib.frozen_of_heap ko_1.here 3; have cz4 := ko_1.here.cell 4 _ rfl; have fz4 := Lib.frozen_of_heap ko_1.here 4; have HBZ1 := Lib.hid hBB.out.size; clear hBB))
  all_goals
    have bb1 := BBF.out _ HC1.out
    replace kr := kr.chg HC1.out (fun i hi hm => by simp at hi hm; omega)
    replace ko := ko_1
    have hz1 : w.heap.size + 1 < w1.heap.size := by have h1 := HKO.out; have h2 := HBZ1.out; have h3 := b1.size; simp at h1 h3 ⊢; have h4 := bb0.size; omega
    have HW := Lib.hid (newV_chgM (φ := fun v => OwnE v r) (v := .agg #[.string r.1, .string r.2.1, .bool r.2.2.1.1, .slice As r.2.2.1.2.length cs, .int .i64 r.2.2.2]) (T := [w.heap.size + 1]) (os.imp fun _ h => (OwnE.mk (ownS_openD h) : OwnE _ r _)) (fun i hi hm => by have := (ls i hi).1; have h4 := HW0.out; simp at this hm; omega) (fun i hi => by simp at hi; omega) (fun i hi => by have := (ls i hi).1; have h4 := HW0.out; simp at this; omega) bb1)
    clear os ls ko kr
    go_wp2
    refine bodyPost_ret (v := .agg #[.string r.1, .string r.2.1, .bool r.2.2.1.1, .slice As r.2.2.1.2.length cs, .int .i64 r.2.2.2]) (by simp [results, Tryz.results150, go_sem, cz0, cz1, cz2, cz3, cz4]) rfl ?_
    refine HW.out _ ?_
    repeat (first | with_reducible exact Chg.refl _ _ | with_reducible refine Chg.setCell ?_ (by simp) _)
end Go.Proofs.YtbpfabicampdkaaGreatDoor

namespace Go.Proofs.YtbpfabicampdkaaGreatDoor
open Go.RowKit

/-- a table of the call's own, and the memory of old -/
theorem RowB.low {B B' : Nat} {u : Value} {l : List EI} {w : World} (h : RowB B u l w) (hB : B' ≤ B) : RowB B' u l w := by
  obtain ⟨e, h1, h2, h3, h4⟩ := h
  refine ⟨e, own_lowE h1 hB, h2, fun j x p hx hp => ?_, h4⟩
  obtain ⟨a1, a2, a3, a4, a5⟩ := h3 j x p hx hp
  exact ⟨a1, a2, a3, a4, own_low a5 hB⟩
theorem boxT_put {g : Nat} {a u v : Value} {T : TypeId} {w : World} (h : At [g] (BoxAt g #[a, u] T) w) : At [g] (BoxAt g #[a, v] T) (w.setCell ⟨g, 1, none⟩ v) :=
  box_at (by
    have hb : w.heap[g]? = some (.cells #[a, u] T (0, 0)) := h.here
    show (w.setCell ⟨g, 1, none⟩ v).heap[g]? = _
    simp [World.setCell, Array.getElem?_modify, hb])
theorem At.lowB {S : List Nat} {φ : World → Prop} {w w' : World} {B : Nat} (h : At S φ w) (hb : Below B w w') (hS : ∀ g ∈ S, g < B) : At S φ w' := h.move (fun g hg => hb.block g (hS g hg)) hb.size
/-- the world behind the literal and the append -/
theorem below_app2 {w w2 w3 : World} {B : Nat} {v : Value} {o : Obj} (hB : B ≤ w.heap.size) (b2 : Below w.heap.size w w2) (hg : (w2.alloc o).grownBy w3 v.ownBlock) (hv : ∀ b, v.ownBlock = some b → B ≤ b) : Below B w w3 :=
  ((b2.mono hB).alloc (Nat.le_trans hB b2.size) o).grown hg (Nat.le_trans hB (Nat.le_trans b2.size (by simp))) hv
theorem take_snocS {l : List EI} {k : Nat} {x : EI} (h : l[k]? = some x) : l.take (k + 1) = l.take k ++ [x] := by
  have hj := (List.getElem?_eq_some_iff.1 h).1
  rw [List.take_succ_eq_append_getElem hj, (List.getElem?_eq_some_iff.1 h).2]
/-- the cells of a row behind one appended element -/
theorem rowB_next {B : Nat} {l : List EI} {e : List CE} {x : EI} {uv un v2 : Value} {w w2 w3 : World} {o : Obj} {k : Nat} {xs : List Value}
    (hnext : ∀ (W1 W2 : World) (N : Nat) (x : EI) (un v2 : Value), (∀ i, i < w.heap.size → W1.heap[i]? = w.heap[i]?) → w.heap.size ≤ N → B ≤ N → W1.ownsRow N 3 1 un x.2.2.1.2.length (intsV x.2.2.1.2) →
    W2.ownsRow B 41 5 v2 (l.length + 1) (flatE e ++ [.string x.1, .string x.2.1, .bool x.2.2.1.1, un, .int .i64 x.2.2.2]) → W1.grownBy W2 uv.ownBlock → RowB B v2 (l ++ [x]) W2)
    (b2 : Below w.heap.size w w2) (hB : B ≤ w.heap.size) (orow : w2.ownsRow w.heap.size 3 1 un x.2.2.1.2.length (intsV x.2.2.1.2)) (hk : l.length = k) (hxs : xs = [.string x.1, .string x.2.1, .bool x.2.2.1.1, un, .int .i64 x.2.2.2])
    (ho : w3.ownsRow B 41 5 v2 (k + 1) (flatE e ++ xs)) (hg : (w2.alloc o).grownBy w3 uv.ownBlock) : RowB B v2 (l ++ [x]) w3 := by
  subst hk
  subst hxs
  exact hnext _ w3 _ x _ v2 (fun i hi => (((Below.refl w2.heap.size w2).alloc (Nat.le_refl _) _).block i (Nat.lt_of_lt_of_le hi b2.size)).trans (b2.block i hi)) (Nat.le_refl _) hB (own_alloc orow o) ho hg
def PostCp (t : TI) (w : World) (e : Ending) (w' : World) : Prop := ∃ u, e = .returned (.agg #[.string t.1, u]) ∧ RowB w.heap.size u t.2 w' ∧ Below w.heap.size w w'
set_option maxHeartbeats 8000000 in
set_option maxRecDepth 100000 in
theorem l10Copy_any (v : Value) (t : TI) (w : World) (hl : t.2.length ≤ 1048576) (hx : ∀ x ∈ t.2, okE x = true) (h : OwnTR w v t) :
    Calls Tryz.prog 149 #[v] w (PostCp t w) := by
  obtain ⟨i0, hi0, hq0, hq1, hq2⟩ := info_parts infoEL
  obtain ⟨Aq, cq, rfl, hrt⟩ := ownTR_form h
  obtain ⟨A', c', e', hc⟩ := hrt
  injection e' with e1 e2 e3
  subst e1
  clear e2 e3 c' h
  have HC := Lib.hid hc
  clear hc
  have bb0 : Below w.heap.size w ((w.alloc (.cells #[.string t.1, .slice Aq t.2.length cq] 25)).alloc (.cells #[.string ⟨#[]⟩, .slice none 0 0] 25)) := below_al (below_al (Below.refl _ _) _) _
  have kt := (box_new w #[.string t.1, .slice Aq t.2.length cq] 25).below (below_al (Below.refl _ _) (.cells #[.string ⟨#[]⟩, .slice none 0 0] 25))
  have ko := (box_new (w.alloc (.cells #[.string t.1, .slice Aq t.2.length cq] 25)) #[.string ⟨#[]⟩, .slice none 0 0] 25)
  rw [show (w.alloc (.cells #[.string t.1, .slice Aq t.2.length cq] 25)).heap.size = w.heap.size + 1 by simp] at ko
  have kp := box_new (((w.alloc (.cells #[.string t.1, .slice Aq t.2.length cq] 25)).alloc (.cells #[.string ⟨#[]⟩, .slice none 0 0] 25))) #[.string t.1, .slice none 0 0] 25
  have alp := below_al (Below.refl (((w.alloc (.cells #[.string t.1, .slice Aq t.2.length cq] 25)).alloc (.cells #[.string ⟨#[]⟩, .slice none 0 0] 25))).heap.size (((w.alloc (.cells #[.string t.1, .slice Aq t.2.length cq] 25)).alloc (.cells #[.string ⟨#[]⟩, .slice none 0 0] 25)))) (.cells #[.string t.1, .slice none 0 0] 25)
  have bbp := Below.next bb0 alp
  replace kt := kt.below alp
  replace ko := ko.below alp
  rw [show ((w.alloc (.cells #[.string t.1, .slice Aq t.2.length cq] 25)).alloc (.cells #[.string ⟨#[]⟩, .slice none 0 0] 25)).heap.size = w.heap.size + 1 + 1 by simp] at kp
  go_enter Tryz.func149, Tryz.ntmps149
  have kt_c0 := kt.here.cell 0 _ rfl
  have kt_c1 := kt.here.cell 1 _ rfl
  go_wp2
  clear kt_c0 kt_c1
  clear kt
  go_loopw [12] (fun i wr => ∃ (k : Nat) (uv : Value), k ≤ t.2.length ∧ i = .int .i64 k ∧ At [w.heap.size + 1] (BoxAt (w.heap.size + 1) #[.string ⟨#[]⟩, .slice none 0 0] 25) wr ∧ At [w.heap.size + 1 + 1] (BoxAt (w.heap.size + 1 + 1) #[.string t.1, uv] 25) wr ∧ RowB (w.heap.size + 1 + 1 + 1) uv (t.2.take k) wr ∧ w.heap.size + 1 + 1 + 1 ≤ wr.heap.size ∧ Below w.heap.size w wr) (fun i _ => t.2.length - (intOf i).toNat)
  case atStart => exact ⟨0, _, Nat.zero_le _, rfl, ko, kp, rowB_nil _ _, by simp, bbp⟩
  case round =>
    clear ko kp bbp
    obtain ⟨k, uv, hk, rfl, ko, kp, RB, hws, hb⟩ := hrel
    by_cases hlt : k < t.2.length
    · obtain ⟨x, hxk⟩ : ∃ x, t.2[k]? = some x := ⟨_, List.getElem?_eq_getElem hlt⟩
      obtain ⟨a, ux, rfl, ha, hc0, hc1, hc2, hc3, hc4, hox⟩ := HC.out k x hxk
      obtain ⟨A1, c1x, rfl⟩ := own_len hox
      have k0 := (cell_keep5' hb ha k).trans hc0
      have k1 := (cell_keep5 hb ha k 1).trans hc1
      have k2 := (cell_keep5 hb ha k 2).trans hc2
      have k3 := (cell_keep5 hb ha k 3).trans hc3
      have k4 := (cell_keep5 hb ha k 4).trans hc4
      have okx := hx x (List.mem_of_getElem? hxk)
      have hbx := below_al (Below.refl wr.heap.size wr) (.cells #[.string x.1, .string x.2.1, .bool x.2.2.1.1, .slice A1 x.2.2.1.2.length c1x, .int .i64 x.2.2.2] 41)
      have kx := box_new wr #[.string x.1, .string x.2.1, .bool x.2.2.1.1, .slice A1 x.2.2.1.2.length c1x, .int .i64 x.2.2.2] 41
      have OX := Lib.hid (show ∀ W, Below (wr.alloc (.cells #[.string x.1, .string x.2.1, .bool x.2.2.1.1, .slice A1 x.2.2.1.2.length c1x, .int .i64 x.2.2.2] 41)).heap.size (wr.alloc (.cells #[.string x.1, .string x.2.1, .bool x.2.2.1.1, .slice A1 x.2.2.1.2.length c1x, .int .i64 x.2.2.2] 41)) W → OwnE (.agg #[.string x.1, .string x.2.1, .bool x.2.2.1.1, .slice A1 x.2.2.1.2.length c1x, .int .i64 x.2.2.2]) x W from fun W h => OwnE.mk (own_below (own_below (own_below hox hb) hbx) h))
      have HTK := Lib.hid (take_snocS hxk)
      have hlk : (t.2.take k).length = k := by rw [List.length_take]; omega
      replace RB := RB.below hbx
      replace ko := ko.below hbx
      replace kp := kp.below hbx
      replace hb := Below.next hb hbx
      have hzx : w.heap.size + 1 + 1 + 1 ≤ (wr.alloc (.cells #[.string x.1, .string x.2.1, .bool x.2.2.1.1, .slice A1 x.2.2.1.2.length c1x, .int .i64 x.2.2.2] 41)).heap.size := by simp; omega
      obtain ⟨e, ho1, hnext⟩ := rowB_open RB
      rw [hlk] at ho1
      have HNX := Lib.hid hnext
      have HO1 := Lib.hid ho1
      have HK := Lib.hid hlk
      have HVB := Lib.hid (show ∀ b, uv.ownBlock = some b → w.heap.size + 1 + 1 + 1 ≤ b from fun b hb => (own_lt ho1 hb).1)
      have HB := Lib.hid hb
      clear hb RB hnext ho1 hlk hc0 hc1 hc2 hc3 hc4 hox ha hxk
      have cx0 := kx.here.cell 0 _ rfl
      have cx1 := kx.here.cell 1 _ rfl
      have cx2 := kx.here.cell 2 _ rfl
      have cx3 := kx.here.cell 3 _ rfl
      have cx4 := kx.here.cell 4 _ rfl
      clear kx hbx
      go_upto_region 5 with fail
      clear k0 k1 k2 k3 k4
      obtain ⟨wx, hwx⟩ : ∃ W, W = (wr.alloc (.cells #[.string x.1, .string x.2.1, .bool x.2.2.1.1, .slice A1 x.2.2.1.2.length c1x, .int .i64 x.2.2.2] 41)) := ⟨_, rfl⟩
      rw [← hwx] at HNX HO1 HB OX ko kp hzx cx0 cx1 cx2 cx3 cx4 ⊢
      clear hwx
      have KO := Lib.hid ko
      have KP := Lib.hid kp
      have cp0 := kp.here.cell 0 _ rfl
      have cp1 := kp.here.cell 1 _ rfl
      clear ko kp
      go_region_law (first
        | (refine step_append_lies _ (by rfl) _ _ _ (by rfl) (w.heap.size + 1 + 1 + 1) 41 i0 _ 5 72 Tryz.underlying23 hi0 hq0 hq1 hq2 rfl (by decide) uv k (flatE e) (by rfl) (own_alloc (own_below HO1.out b2) _) ⟨w2.heap.size, 0, none⟩ 1 1 [.string x.1, .string x.2.1, .bool x.2.2.1.1, .slice An x.2.2.1.2.length cn, .int .i64 x.2.2.2] (by rfl) (by rfl) hnew.out (by intro u hu; simp at hu; rcases hu with rfl | rfl | rfl | rfl | rfl <;> rfl) (by decide) (by unfold maxLen; omega) (by omega) (by have h2 := b2.size; simp; omega) (w2.heap.size + 1) (by simp) ?_; intro gg cap w3 hown3 hg3 _ _; have HAP := Lib.hid (below_app2 hzx b2 hg3 HVB.out); have kp3 := KP.out.lowB HAP.out (by simp); have cp3 := kp3.here.cell 1 _ rfl; have fp3 := Lib.frozen_of_heap kp3.here 1; have HOW := Lib.hid hown3; have HG := Lib.hid hg3; clear hown3 hg3)
        | (go_simp; go_at_call 150; refine (l10Rate_any _ x _ okx (OX.out _ (Below.refl _ _).drew)).mono ?_; rintro e2 w2 ⟨u2, Sn, rfl, on, ln, b2⟩; obtain ⟨An, cn, rfl⟩ := ownE_form on.here; have ORW := Lib.hid (newE_own on ln).1; replace b2 : Below wx.heap.size wx w2 := (Below.refl _ _).drew.trans b2; have kp2 := KP.out.below b2; have cp2 := kp2.here.cell 1 _ rfl; have fp2 := Lib.frozen_of_heap kp2.here 1; have hl2 := kp2.lt (w.heap.size + 1 + 1) (by simp); have hnew := Lib.hid (five_new w2 (.string x.1) (.string x.2.1) (.bool x.2.2.1.1) (.slice An x.2.2.1.2.length cn) (.int .i64 x.2.2.2) 41); clear on ln))
      all_goals
        have HR3 := Lib.hid (rowB_next HNX.out b2 hzx ORW.out HK.out rfl HOW.out HG.out)
        rw [← HTK.out] at HR3
        have HB3 := Lib.hid (HB.out.trans (HAP.out.mono (by omega)))
        have KO3 := Lib.hid (KO.out.lowB HAP.out (by simp))
        have KP3 := Lib.hid (boxT_put (v := .slice (some ⟨gg, 0, none⟩) (k + 1) cap) kp3)
        clear HOW HG kp2 cp2 fp2 hnew ORW
        go_wp2
        first | go_roundw | skip
        case rel => exact ⟨k + 1, _, by omega, by go_num, KO3.out.chg (T := [w.heap.size + 1 + 1]) ((Chg.refl _ _).setCell (by simp) _) (by simp), KP3.out, HR3.out.stays fun i hi _ => Below.heap_setCell _ _ _ _ (by show i ≠ w.heap.size + 1 + 1; omega), by have := HAP.out.size; simp; omega, HB3.out.setCell (p := ⟨w.heap.size + 1 + 1, 1, none⟩) (by show w.heap.size ≤ w.heap.size + 1 + 1; omega) _⟩
        case measure => simp [intOf]; omega
    · obtain rfl : k = t.2.length := by omega
      rw [List.take_length] at RB
      obtain ⟨A2, c2, rfl⟩ := rowB_len RB
      have HW := Lib.hid (show ∀ W, Chg [w.heap.size + 1] wr W → PostCp t w (.returned (.agg #[.string t.1, .slice A2 t.2.length c2])) W from fun W hc => ⟨_, rfl, (RB.stays fun i hi hlt => hc.block i hlt (fun hm => by simp at hm; omega)).low (by omega), below_chg hb hc hb.size (fun i hi => by simp at hi; omega)⟩)
      have cz0 := ko.here.cell 0 _ rfl
      have fz0 := Lib.frozen_of_heap ko.here 0
      have cz1 := ko.here.cell 1 _ rfl
      have fz1 := Lib.frozen_of_heap ko.here 1
      have cp0 := kp.here.cell 0 _ rfl
      have cp1 := kp.here.cell 1 _ rfl
      clear ko kp RB hb HC
      go_wp2
      refine bodyPost_ret (v := .agg #[.string t.1, .slice A2 t.2.length c2]) (by simp [results, Tryz.results149, go_sem, cz0, cz1]) rfl ?_
      refine HW.out _ ?_
      repeat (first | with_reducible exact Chg.refl _ _ | with_reducible refine Chg.setCell ?_ (by simp) _)
end Go.Proofs.YtbpfabicampdkaaGreatDoor

namespace Go.Proofs.YtbpfabicampdkaaGreatDoor
open Go.RowKit

theorem At.app {S : List Nat} {φ : World → Prop} {w w2 w3 : World} {v : Value} {o : Obj} (h : At S φ w) (b2 : Below w.heap.size w w2) (hg : (w2.alloc o).grownBy w3 v.ownBlock) (hS : ∀ g ∈ S, some g ≠ v.ownBlock) : At S φ w3 :=
  h.move (fun g hm => by
    have h1 := h.lt g hm
    have h2 : g < w2.heap.size := Nat.lt_of_lt_of_le h1 b2.size
    exact (hg.block g (Nat.lt_of_lt_of_le h2 (by simp)) (hS g hm)).trans ((((Below.refl w2.heap.size w2).alloc (Nat.le_refl _) o).block g h2).trans (b2.block g h1))) (Nat.le_trans b2.size (Nat.le_trans (by simp) hg.size))
theorem ownBlock_neE {w : World} {B n size b : Nat} {e T : TypeId} {v : Value} {xs : List Value} {cs : Array Value} (h : w.ownsRow B e size v n xs) (hb : w.heap[b]? = some (.cells cs T (0, 0))) (hT : ¬ T = e) (hv : v.ownBlock = some b) : False := by
  obtain ⟨_, ⟨rfl, _⟩ | ⟨g, cap, cur, rfl, _, hh, _⟩⟩ := h
  · cases hv
  · cases hv
    have hh1 : w.heap[g]? = some (.cells cur e (0, 0)) := hh
    rw [hb] at hh1
    injection hh1 with hh1
    injection hh1 with _ e'
    exact hT e'
/-- a store into a block of another type -/
theorem RowB.put {B g j : Nat} {u v : Value} {l : List EI} {w : World} {cs : Array Value} {T : TypeId} (h : RowB B u l w) (hb : w.heap[g]? = some (.cells cs T (0, 0))) (h1 : ¬ T = 41) (h2 : ¬ T = 3) : RowB B u l (w.setCell ⟨g, j, none⟩ v) := by
  obtain ⟨e, a1, a2, a3, a4⟩ := h
  refine ⟨e, own_stays a1 fun i hi => Below.heap_setCell _ _ _ _ (fun hh => ownBlock_neE a1 hb h1 (by rw [← show i = g from hh]; exact hi)), a2, fun k x p hx hp => ?_, a4⟩
  obtain ⟨q1, q2, q3, q4, q5⟩ := a3 k x p hx hp
  exact ⟨q1, q2, q3, q4, own_stays q5 fun i hi => Below.heap_setCell _ _ _ _ (fun hh => ownBlock_neE q5 hb h2 (by rw [← show i = g from hh]; exact hi))⟩
set_option maxHeartbeats 4000000 in
set_option maxRecDepth 100000 in
theorem specRatePut_any (vt vr : Value) (t : TI) (r : EI) (w : World) (hl : t.2.length ≤ 1048576) (hx : ∀ x ∈ t.2, x.2.2.1.2.length ≤ 1048576) (hlr : r.2.2.1.2.length ≤ 1048576) (h : OwnTR w vt t) (hr : OwnE vr r w) :
    Calls Tryz.prog 99 #[vt, vr] w (PostTb (putT t r).1 (putT t r).2 w) := by
  obtain ⟨i0, hi0, hq0, hq1, hq2⟩ := info_parts infoEL
  obtain ⟨At, ct, rfl, hrt⟩ := ownTR_form h
  have HRT := Lib.hid (show ∀ W, Below w.heap.size w W → OwnER W (.slice At t.2.length ct) t.2 from fun W h => hrt.below h)
  have HTR := Lib.hid (show ∀ W, Below w.heap.size w W → OwnTR W (.agg #[.string t.1, .slice At t.2.length ct]) t from fun W h => ⟨_, rfl, hrt.below h⟩)
  clear h hrt
  have Hr := Lib.hid hr
  obtain ⟨Ar, cr, rfl⟩ := ownE_form hr
  have OEr := Lib.hid (show ∀ W, Below w.heap.size w W → OwnE (.agg #[.string r.1, .string r.2.1, .bool r.2.2.1.1, .slice Ar r.2.2.1.2.length cr, .int .i64 r.2.2.2]) r W from fun W hb => OwnE.below Hr.out hb)
  have OIr := Lib.hid (show ∀ W, Below w.heap.size w W → OwnI (.slice Ar r.2.2.1.2.length cr) r.2.2.1.2 W from fun W hb => ownE_open (OEr.out W hb))
  have ODr := Lib.hid (show ∀ W, Below w.heap.size w W → OwnD (.agg #[.bool r.2.2.1.1, .slice Ar r.2.2.1.2.length cr, .int .i64 r.2.2.2]) r.2.2 W from fun W hb => OwnD.mk (OIr.out W hb))
  have OSr := Lib.hid (show ∀ W, Below w.heap.size w W → OwnS (.agg #[.bool r.2.2.1.1, .slice Ar r.2.2.1.2.length cr]) r.2.2.1 W from fun W hb => OwnS.mk (OIr.out W hb))
  clear hr
  have bb0 : Below w.heap.size w (((w.alloc (.cells #[.string t.1, .slice At t.2.length ct] 25)).alloc (.cells #[.string r.1, .string r.2.1, .bool r.2.2.1.1, .slice Ar r.2.2.1.2.length cr, .int .i64 r.2.2.2] 41)).alloc (.cells #[.string ⟨#[]⟩, .slice none 0 0] 25)) := below_al (below_al (below_al (Below.refl _ _) _) _) _
  have kt := (box_new w #[.string t.1, .slice At t.2.length ct] 25).below (below_al (below_al (Below.refl _ _) (.cells #[.string r.1, .string r.2.1, .bool r.2.2.1.1, .slice Ar r.2.2.1.2.length cr, .int .i64 r.2.2.2] 41)) (.cells #[.string ⟨#[]⟩, .slice none 0 0] 25))
  have kr := (box_new (w.alloc (.cells #[.string t.1, .slice At t.2.length ct] 25)) #[.string r.1, .string r.2.1, .bool r.2.2.1.1, .slice Ar r.2.2.1.2.length cr, .int .i64 r.2.2.2] 41).below (below_al (Below.refl _ _) (.cells #[.string ⟨#[]⟩, .slice none 0 0] 25))
  rw [show (w.alloc (.cells #[.string t.1, .slice At t.2.length ct] 25)).heap.size = w.heap.size + 1 by simp] at kr
  have ko := (box_new ((w.alloc (.cells #[.string t.1, .slice At t.2.length ct] 25)).alloc (.cells #[.string r.1, .string r.2.1, .bool r.2.2.1.1, .slice Ar r.2.2.1.2.length cr, .int .i64 r.2.2.2] 41)) #[.string ⟨#[]⟩, .slice none 0 0] 25)
  rw [show ((w.alloc (.cells #[.string t.1, .slice At t.2.length ct] 25)).alloc (.cells #[.string r.1, .string r.2.1, .bool r.2.2.1.1, .slice Ar r.2.2.1.2.length cr, .int .i64 r.2.2.2] 41)).heap.size = w.heap.size + 1 + 1 by simp] at ko
  have HKO := Lib.hid (ko.lt (w.heap.size + 1 + 1) (by simp))
  go_enter Tryz.func99, Tryz.ntmps99
  have kt_c0 := kt.here.cell 0 _ rfl
  have kt_c1 := kt.here.cell 1 _ rfl
  go_wp2_with fail
  clear kt_c0 kt_c1
  refine (specRatesOk_any _ t _ (by omega) hx (HTR.out _ bb0)).mono ?_
  rintro e w1 ⟨rfl, b1⟩
  have bb1 := Below.next bb0 b1
  replace kt := kt.below b1
  replace kr := kr.below b1
  replace ko := ko.below b1
  by_cases ok : okT t = true
  · rw [ok]
    have HP := Lib.hid (putT_good (r := r) ok)
    have HOK := Lib.hid ok
    clear ok
    have hw1 : w.heap.size + 3 ≤ w1.heap.size := by have := b1.size; simp at this; omega
    have kr_c0 := kr.here.cell 0 _ rfl
    have kr_c1 := kr.here.cell 1 _ rfl
    have kr_c2 := kr.here.cell 2 _ rfl
    have kr_c3 := kr.here.cell 3 _ rfl
    have kr_c4 := kr.here.cell 4 _ rfl
    go_wp2_with fail
    clear kr_c0 kr_c1 kr_c2 kr_c3 kr_c4
    refine (specRateOk_any _ r _ hlr (OEr.out _ bb1)).mono ?_
    rintro e w2 ⟨rfl, b2⟩
    have bb2 := Below.next bb1 b2
    replace kt := kt.below b2
    replace kr := kr.below b2
    replace ko := ko.below b2
    by_cases okr : okE r = true
    · rw [okr]
      have HOR := Lib.hid okr
      clear okr
      have kt_c0 := kt.here.cell 0 _ rfl
      have kt_c1 := kt.here.cell 1 _ rfl
      go_wp2_with fail
      clear kt_c0 kt_c1
      refine (l10Copy_any _ t _ (by omega) (fun x hx => okT_mem' HOK.out hx) (HTR.out _ bb2)).mono ?_
      rintro e w3 ⟨u1, rfl, RB0, b3⟩
      obtain ⟨A1, c1, rfl⟩ := rowB_len RB0
      have RB := RB0.low (show w1.heap.size ≤ w2.heap.size from b2.size)
      have HVL := Lib.hid (show ∀ b, (Value.slice A1 t.2.length c1).ownBlock = some b → b < w3.heap.size from fun b hb => by obtain ⟨e, h1, _⟩ := RB0; exact (own_lt h1 hb).2)
      clear RB0
      have bb3 := Below.next bb2 b3
      replace kt := kt.below b3
      replace kr := kr.below b3
      replace ko := ko.below b3
      have kc := box_new (w3) #[.string t.1, .slice A1 t.2.length c1] 25
      have alc := below_al (Below.refl (w3).heap.size (w3)) (.cells #[.string t.1, .slice A1 t.2.length c1] 25)
      have bbc := Below.next bb3 alc
      replace kt := kt.below alc
      replace kr := kr.below alc
      replace ko := ko.below alc
      replace RB := RB.below alc
      have hw3 : w1.heap.size ≤ w3.heap.size := Nat.le_trans b2.size b3.size
      have hzc : (w3.alloc (.cells #[.string t.1, .slice A1 t.2.length c1] 25)).heap.size = w3.heap.size + 1 := by simp
      have kt_c0 := kt.here.cell 0 _ rfl
      have kt_c1 := kt.here.cell 1 _ rfl
      have kr_c0 := kr.here.cell 0 _ rfl
      have kr_c1 := kr.here.cell 1 _ rfl
      have kr_c2 := kr.here.cell 2 _ rfl
      have kr_c3 := kr.here.cell 3 _ rfl
      have kr_c4 := kr.here.cell 4 _ rfl
      go_wp2_with fail
      clear kt_c0 kt_c1 kr_c0 kr_c1 kr_c2 kr_c3 kr_c4
      refine (l10At_any _ t.2 r.1 r.2.1 _ (by omega) (HRT.out _ bbc)).mono ?_
      rintro e w4 ⟨rfl, b4⟩
      have bb4 := Below.next bbc b4
      replace kt := kt.below b4
      replace kr := kr.below b4
      replace ko := ko.below b4
      replace RB := RB.below b4
      replace kc := kc.below b4
      have hW1 : w1.heap.size ≤ w4.heap.size := by have := b4.size; omega
      by_cases hz : posE t.2 r.1 r.2.1 < 0
      · have hz1 : decide (0 ≤ posE t.2 r.1 r.2.1) = false := decide_eq_false (by omega)
        have NE := newT_app hz
        clear hz
        obtain ⟨z, hzz⟩ : ∃ z, posE t.2 r.1 r.2.1 = z := ⟨_, rfl⟩
        rw [hzz] at hz1 ⊢
        clear hzz
        obtain ⟨e, ho1, hnext⟩ := rowB_open RB
        have HNX := Lib.hid hnext
        have HO1 := Lib.hid ho1
        have HVB := Lib.hid (show ∀ b, (Value.slice A1 t.2.length c1).ownBlock = some b → w1.heap.size ≤ b from fun b hb => (own_lt ho1 hb).1)
        have HNE := Lib.hid (show ∀ g ∈ [w3.heap.size], some g ≠ (Value.slice A1 t.2.length c1).ownBlock from fun g hg he => by simp at hg; subst hg; have := HVL.out _ he.symm; omega)
        clear RB hnext ho1
        have HBB := Lib.hid bb4
        have KC := Lib.hid kc
        have KO := Lib.hid ko
        have kr_c0 := kr.here.cell 0 _ rfl
        have kr_c1 := kr.here.cell 1 _ rfl
        have kr_c2 := kr.here.cell 2 _ rfl
        have kr_c3 := kr.here.cell 3 _ rfl
        have kr_c4 := kr.here.cell 4 _ rfl
        have kc_c0 := kc.here.cell 0 _ rfl
        have kc_c1 := kc.here.cell 1 _ rfl
        go_upto_region 7 with fail
        clear kr kc ko kt hz1
        go_region_law (first
          | (refine step_append_lies _ (by rfl) _ _ _ (by rfl) w1.heap.size 41 i0 _ 5 72 Tryz.underlying23 hi0 hq0 hq1 hq2 rfl (by decide) (.slice A1 t.2.length c1) t.2.length (flatE e) (by rfl) (own_alloc (own_below HO1.out b5) _) ⟨w5.heap.size, 0, none⟩ 1 1 [.string r.1, .string r.2.1, .bool r.2.2.1.1, .slice An r.2.2.1.2.length cn, .int .i64 r.2.2.2] (by rfl) (by rfl) hnew.out (by intro u hu; simp at hu; rcases hu with rfl | rfl | rfl | rfl | rfl <;> rfl) (by decide) (by unfold maxLen; omega) (by omega) (by have h2 := b5.size; simp; omega) (w5.heap.size + 1) (by simp) ?_; intro gg cap w6 hown3 hg3 _ _; have KC6 := Lib.hid (KC.out.app b5 hg3 HNE.out); have cq1 := KC6.out.here.cell 1 _ rfl; have fq1 := Lib.frozen_of_heap KC6.out.here 1; have HAP := Lib.hid (below_app2 hW1 b5 hg3 HVB.out); have HOW := Lib.hid hown3; have HG := Lib.hid hg3; clear hown3 hg3)
          | (go_simp; go_at_call 150; refine (l10Rate_any _ r _ HOR.out (OEr.out _ HBB.out.drew)).mono ?_; rintro e2 w5 ⟨u2, Sn, rfl, on, ln, b5⟩; obtain ⟨An, cn, rfl⟩ := ownE_form on.here; have ORW := Lib.hid (newE_own on ln).1; replace b5 : Below w4.heap.size w4 w5 := (Below.refl _ _).drew.trans b5; clear on ln; have kc5 := KC.out.below b5; have cp1 := kc5.here.cell 1 _ rfl; have fp1 := Lib.frozen_of_heap kc5.here 1; have hl5 := kc5.lt w3.heap.size (by simp); clear kc5; have hnew := Lib.hid (five_new w5 (.string r.1) (.string r.2.1) (.bool r.2.2.1.1) (.slice An r.2.2.1.2.length cn) (.int .i64 r.2.2.2) 41)))
        all_goals
          have RN0 := rowB_next HNX.out b5 hW1 ORW.out rfl rfl HOW.out HG.out
          have RN1 := RN0.put (j := 1) (v := (.slice (some ⟨gg, 0, none⟩) (t.2.length + 1) cap)) KC6.out.here (by decide) (by decide)
          have kc := boxT_put (v := (.slice (some ⟨gg, 0, none⟩) (t.2.length + 1) cap)) KC6.out
          have hch : Chg [w3.heap.size] w6 (w6.setCell ⟨w3.heap.size, 1, none⟩ (.slice (some ⟨gg, 0, none⟩) (t.2.length + 1) cap)) := (Chg.refl _ _).setCell (by simp) _
          have ko := (KO.out.lowB HAP.out (fun g hg => by simp at hg; omega)).chg hch (fun i hi hm => by simp at hi hm; omega)
          have hap2 := HAP.out.size
          have bbN := below_chg (HBB.out.trans (HAP.out.mono (by omega))) hch (by have := HBB.out.size; omega) (fun i hi => by simp at hi; omega)
          have hW6 : w1.heap.size ≤ (w6.setCell ⟨w3.heap.size, 1, none⟩ (.slice (some ⟨gg, 0, none⟩) (t.2.length + 1) cap)).heap.size := by have := hch.size; omega
          have RN : RowB w1.heap.size (.slice (some ⟨gg, 0, none⟩) (t.2.length + 1) cap) (newT t r).2 (w6.setCell ⟨w3.heap.size, 1, none⟩ (.slice (some ⟨gg, 0, none⟩) (t.2.length + 1) cap)) := by rw [NE]; exact RN1
          have hNlen : (newT t r).2.length = t.2.length + 1 := by rw [NE]; exact List.length_append ..
          rw [← hNlen] at RN kc ko bbN hW6 ⊢
          clear hNlen
          clear hW1
          have hW1 := hW6
          clear RN0 RN1 hch hap2 HOW HG KC6 KC KO HAP HNX HO1 HVB HNE HBB ORW hW6
          obtain ⟨W6, hW6⟩ : ∃ W, W = w6.setCell ⟨w3.heap.size, 1, none⟩ (.slice (some ⟨gg, 0, none⟩) (newT t r).2.length cap) := ⟨_, rfl⟩
          rw [← hW6] at RN kc ko bbN hW1
          try rw [← hW6]
          have HW6 := Lib.hid hW6
          clear hW6
          have hN1 : (newT t r).1 = t.1 := by rw [NE]
          have hNl := newT_len t r
          have hNx := newT_all (r := r) hx hlr
          obtain ⟨SN, on, _, ln⟩ := rowB_at RN
          have HRN := Lib.hid (show ∀ W', Below W6.heap.size W6 W' → OwnER W' _ (newT t r).2 from fun W' h => (RN.below h).own.ownR)
          clear NE RN
          generalize newT t r = N at *
          obtain ⟨n1, nl⟩ := N
          dsimp only at *
          rw [← hN1] at kc
          clear hN1
          have HRN2 := Lib.hid (show ∀ W', Below W6.heap.size W6 W' → OwnTR W' (.agg #[.string n1, .slice (some ⟨gg, 0, none⟩) nl.length cap]) (n1, nl) from fun W' h => ⟨_, rfl, HRN.out _ h⟩)
          have kc_c0 := kc.here.cell 0 _ rfl
          have kc_c1 := kc.here.cell 1 _ rfl
          go_wp2_with fail
          clear kc_c0 kc_c1
          refine (specRatesOk_any _ (n1, nl) _ (by dsimp only; omega) hNx (HRN2.out _ (Below.refl _ _))).mono ?_
          rintro e wf ⟨rfl, bf⟩
          have bbf := Below.next bbN bf
          replace kc := kc.below bf
          replace ko := ko.below bf
          replace on := on.below bf
          by_cases okn : okT (n1, nl) = true
          · have HV := Lib.hid (HP.out.trans (if_pos okn))
            rw [okn]
            clear okn
            have HW := Lib.hid (newTb_at (r := w.heap.size + 1 + 1) (b := true) (x := (n1, nl)) (B := w1.heap.size) (on.imp fun _ h => (⟨_, rfl, h⟩ : OwnT (.agg #[.string n1, .slice (some ⟨gg, 0, none⟩) nl.length cap]) (n1, nl) _)) (fun i hi => ⟨(ln i hi).1, on.lt i hi⟩) (by omega) (by omega) bbf)
            have cz0 := ko.here.cell 0 _ rfl
            have fz0 := Lib.frozen_of_heap ko.here 0
            have cz1 := ko.here.cell 1 _ rfl
            have fz1 := Lib.frozen_of_heap ko.here 1
            have cp0 := kc.here.cell 0 _ rfl
            have cp1 := kc.here.cell 1 _ rfl
            have hnp1 : ¬ w3.heap.size = w.heap.size + 1 + 1 := by omega
            have hnp2 : ¬ w.heap.size + 1 + 1 = w3.heap.size := fun e => hnp1 e.symm
            clear kc ko on
            go_wp2
            refine bodyPost_ret (v := .tuple #[.agg #[.string n1, .slice (some ⟨gg, 0, none⟩) nl.length cap], .bool true]) (by simp [results, Tryz.results99, go_sem, cz0, cz1]) rfl ?_
            rw [HV.out]
            exact HW.out
          · have okn' : okT (n1, nl) = false := by simpa using okn
            have HV := Lib.hid (HP.out.trans (if_neg okn))
            rw [okn']
            clear okn okn'
            have cz0 := ko.here.cell 0 _ rfl
            have fz0 := Lib.frozen_of_heap ko.here 0
            have cz1 := ko.here.cell 1 _ rfl
            have fz1 := Lib.frozen_of_heap ko.here 1
            clear kc ko on
            go_wp2
            refine bodyPost_ret (v := .tuple #[.agg #[.string ⟨#[]⟩, .slice none 0 0], .bool false]) (by simp [results, Tryz.results99, go_sem, cz0, cz1]) rfl ?_
            rw [HV.out]
            first | exact newTb_zero _ bbf | exact newTb_zero _ (below_set2 bbf (by omega))
      · have hz1 : decide (0 ≤ posE t.2 r.1 r.2.1) = true := decide_eq_true (by omega)
        obtain ⟨n, x, hzn, hxn, _⟩ := posE_at (show 0 ≤ posE t.2 r.1 r.2.1 by omega)
        have hnl := (List.getElem?_eq_some_iff.1 hxn).1
        have NE := newT_set hzn
        rw [hzn] at hz1 ⊢
        clear hz hxn hzn
        have HRB := Lib.hid RB
        obtain ⟨e, ho1, _⟩ := rowB_open RB
        obtain ⟨gl, cap, ev, hgl, hgl2, _⟩ := own_form ho1 (by omega)
        cases ev
        clear RB
        have HO1 := Lib.hid ho1
        clear ho1
        have hgl3 := HVL.out gl rfl
        have hn0 : (0 : Int) ≤ (n : Int) := by omega
        have hn1 : (n : Int) < (t.2.length : Int) := by omega
        have HBB := Lib.hid bb4
        have KC := Lib.hid kc
        have KO := Lib.hid ko
        have kr_c0 := kr.here.cell 0 _ rfl
        have kr_c1 := kr.here.cell 1 _ rfl
        have kr_c2 := kr.here.cell 2 _ rfl
        have kr_c3 := kr.here.cell 3 _ rfl
        have kr_c4 := kr.here.cell 4 _ rfl
        have kc_c0 := kc.here.cell 0 _ rfl
        have kc_c1 := kc.here.cell 1 _ rfl
        go_upto_region 6 with fail
        clear kr kc ko kt hz1
        go_region_law (first
          | (go_simp; go_at_call 150; refine (l10Rate_any _ r _ HOR.out (OEr.out _ HBB.out.drew)).mono ?_; rintro e2 w5 ⟨u2, Sn, rfl, on, ln, b5⟩; obtain ⟨An, cn, rfl⟩ := ownE_form on.here; have ORW := Lib.hid (newE_own on ln).1; replace b5 : Below w4.heap.size w4 w5 := (Below.refl _ _).drew.trans b5; clear on ln; have kc5 := KC.out.below b5; have cp1 := kc5.here.cell 1 _ rfl; clear kc5; have ho5 := own_below HO1.out b5; have hfl : (flatE e).length = t.2.length * 5 := ho5.1; have hcell0 := ho5.cellAt (n * 5) (by omega); rw [List.getElem?_eq_getElem (by omega)] at hcell0; have hfr0 := ho5.frozenAt (n * 5); have hcell1 := ho5.cellAt (n * 5 + 1) (by omega); rw [List.getElem?_eq_getElem (by omega)] at hcell1; have hfr1 := ho5.frozenAt (n * 5 + 1); have hcell2 := ho5.cellAt (n * 5 + 2) (by omega); rw [List.getElem?_eq_getElem (by omega)] at hcell2; have hfr2 := ho5.frozenAt (n * 5 + 2); have hcell3 := ho5.cellAt (n * 5 + 3) (by omega); rw [List.getElem?_eq_getElem (by omega)] at hcell3; have hfr3 := ho5.frozenAt (n * 5 + 3); have hcell4 := ho5.cellAt (n * 5 + 4) (by omega); rw [List.getElem?_eq_getElem (by omega)] at hcell4; have hfr4 := ho5.frozenAt (n * 5 + 4); clear ho5))
        all_goals
          clear hcell0 hfr0 hcell1 hfr1 hcell2 hfr2 hcell3 hfr3 hcell4 hfr4 hfl
          have hch : Chg [gl] w5 (((((w5.setCell ⟨gl, n * 5, none⟩ (.string r.1)).setCell ⟨gl, n * 5 + 1, none⟩ (.string r.2.1)).setCell ⟨gl, n * 5 + 2, none⟩ (.bool r.2.2.1.1)).setCell ⟨gl, n * 5 + 3, none⟩ (.slice An r.2.2.1.2.length cn)).setCell ⟨gl, n * 5 + 4, none⟩ (.int .i64 r.2.2.2)) := (((((Chg.refl _ _).setCell (by simp) _).setCell (by simp) _).setCell (by simp) _).setCell (by simp) _).setCell (by simp) _
          have RN0 := rowB_set (x := r) HRB.out hnl (fun i hi => b5.block i hi) (Nat.le_refl _) ORW.out hW1
          have RN : RowB w1.heap.size (.slice (some ⟨gl, 0, none⟩) t.2.length c1) (newT t r).2 (((((w5.setCell ⟨gl, n * 5, none⟩ (.string r.1)).setCell ⟨gl, n * 5 + 1, none⟩ (.string r.2.1)).setCell ⟨gl, n * 5 + 2, none⟩ (.bool r.2.2.1.1)).setCell ⟨gl, n * 5 + 3, none⟩ (.slice An r.2.2.1.2.length cn)).setCell ⟨gl, n * 5 + 4, none⟩ (.int .i64 r.2.2.2)) := by rw [NE]; exact RN0
          have kc := (KC.out.below b5).chg hch (fun i hi hm => by simp at hi hm; omega)
          have ko := (KO.out.below b5).chg hch (fun i hi hm => by simp at hi hm; omega)
          have bbN := below_chg (Below.next HBB.out b5) hch (by have := HBB.out.size; have := b5.size; omega) (fun i hi => by simp at hi; omega)
          replace hW1 : w1.heap.size ≤ ((((((w5.setCell ⟨gl, n * 5, none⟩ (.string r.1)).setCell ⟨gl, n * 5 + 1, none⟩ (.string r.2.1)).setCell ⟨gl, n * 5 + 2, none⟩ (.bool r.2.2.1.1)).setCell ⟨gl, n * 5 + 3, none⟩ (.slice An r.2.2.1.2.length cn)).setCell ⟨gl, n * 5 + 4, none⟩ (.int .i64 r.2.2.2))).heap.size := by have := hch.size; have := b5.size; omega
          obtain ⟨W5, hW5⟩ : ∃ W5, W5 = (((((w5.setCell ⟨gl, n * 5, none⟩ (.string r.1)).setCell ⟨gl, n * 5 + 1, none⟩ (.string r.2.1)).setCell ⟨gl, n * 5 + 2, none⟩ (.bool r.2.2.1.1)).setCell ⟨gl, n * 5 + 3, none⟩ (.slice An r.2.2.1.2.length cn)).setCell ⟨gl, n * 5 + 4, none⟩ (.int .i64 r.2.2.2)) := ⟨_, rfl⟩
          rw [← hW5] at RN kc ko bbN hW1
          try rw [← hW5]
          clear hW5 hch RN0 b5 HRB HO1 KC KO HBB ORW
          have hNlen : (newT t r).2.length = t.2.length := by rw [NE]; exact List.length_set ..
          rw [← hNlen] at RN kc ⊢
          clear hNlen
          have hN1 : (newT t r).1 = t.1 := by rw [NE]
          have hNl := newT_len t r
          have hNx := newT_all (r := r) hx hlr
          obtain ⟨SN, on, _, ln⟩ := rowB_at RN
          have HRN := Lib.hid (show ∀ W', Below W5.heap.size W5 W' → OwnER W' _ (newT t r).2 from fun W' h => (RN.below h).own.ownR)
          clear NE RN
          generalize newT t r = N at *
          obtain ⟨n1, nl⟩ := N
          dsimp only at *
          rw [← hN1] at kc
          clear hN1
          have HRN2 := Lib.hid (show ∀ W', Below W5.heap.size W5 W' → OwnTR W' (.agg #[.string n1, .slice (some ⟨gl, 0, none⟩) nl.length c1]) (n1, nl) from fun W' h => ⟨_, rfl, HRN.out _ h⟩)
          have kc_c0 := kc.here.cell 0 _ rfl
          have kc_c1 := kc.here.cell 1 _ rfl
          go_wp2_with fail
          clear kc_c0 kc_c1
          refine (specRatesOk_any _ (n1, nl) _ (by dsimp only; omega) hNx (HRN2.out _ (Below.refl _ _))).mono ?_
          rintro e wf ⟨rfl, bf⟩
          have bbf := Below.next bbN bf
          replace kc := kc.below bf
          replace ko := ko.below bf
          replace on := on.below bf
          by_cases okn : okT (n1, nl) = true
          · have HV := Lib.hid (HP.out.trans (if_pos okn))
            rw [okn]
            clear okn
            have HW := Lib.hid (newTb_at (r := w.heap.size + 1 + 1) (b := true) (x := (n1, nl)) (B := w1.heap.size) (on.imp fun _ h => (⟨_, rfl, h⟩ : OwnT (.agg #[.string n1, .slice (some ⟨gl, 0, none⟩) nl.length c1]) (n1, nl) _)) (fun i hi => ⟨(ln i hi).1, on.lt i hi⟩) (by omega) (by omega) bbf)
            have cz0 := ko.here.cell 0 _ rfl
            have fz0 := Lib.frozen_of_heap ko.here 0
            have cz1 := ko.here.cell 1 _ rfl
            have fz1 := Lib.frozen_of_heap ko.here 1
            have cp0 := kc.here.cell 0 _ rfl
            have cp1 := kc.here.cell 1 _ rfl
            have hnp1 : ¬ w3.heap.size = w.heap.size + 1 + 1 := by omega
            have hnp2 : ¬ w.heap.size + 1 + 1 = w3.heap.size := fun e => hnp1 e.symm
            clear kc ko on
            go_wp2
            refine bodyPost_ret (v := .tuple #[.agg #[.string n1, .slice (some ⟨gl, 0, none⟩) nl.length c1], .bool true]) (by simp [results, Tryz.results99, go_sem, cz0, cz1]) rfl ?_
            rw [HV.out]
            exact HW.out
          · have okn' : okT (n1, nl) = false := by simpa using okn
            have HV := Lib.hid (HP.out.trans (if_neg okn))
            rw [okn']
            clear okn okn'
            have cz0 := ko.here.cell 0 _ rfl
            have fz0 := Lib.frozen_of_heap ko.here 0
            have cz1 := ko.here.cell 1 _ rfl
            have fz1 := Lib.frozen_of_heap ko.here 1
            clear kc ko on
            go_wp2
            refine bodyPost_ret (v := .tuple #[.agg #[.string ⟨#[]⟩, .slice none 0 0], .bool false]) (by simp [results, Tryz.results99, go_sem, cz0, cz1]) rfl ?_
            rw [HV.out]
            first | exact newTb_zero _ bbf | exact newTb_zero _ (below_set2 bbf (by omega))
    · have okr' : okE r = false := by simpa using okr
      have HV := Lib.hid (show putT t r = (zeroT, false) by unfold putT; rw [if_neg (fun hh => okr hh.2)]; rfl)
      rw [okr']
      clear okr okr'
      have cz0 := ko.here.cell 0 _ rfl
      have fz0 := Lib.frozen_of_heap ko.here 0
      have cz1 := ko.here.cell 1 _ rfl
      have fz1 := Lib.frozen_of_heap ko.here 1
      clear kt kr ko
      go_wp2
      refine bodyPost_ret (v := .tuple #[.agg #[.string ⟨#[]⟩, .slice none 0 0], .bool false]) (by simp [results, Tryz.results99, go_sem, cz0, cz1]) rfl ?_
      rw [HV.out]
      first | exact newTb_zero _ bb2 | exact newTb_zero _ (below_set2 bb2 (by omega))
  · have ok' : okT t = false := by simpa using ok
    have HV := Lib.hid (show putT t r = (zeroT, false) by unfold putT; rw [if_neg (fun hh => ok hh.1)]; rfl)
    rw [ok']
    clear ok ok'
    have cz0 := ko.here.cell 0 _ rfl
    have fz0 := Lib.frozen_of_heap ko.here 0
    have cz1 := ko.here.cell 1 _ rfl
    have fz1 := Lib.frozen_of_heap ko.here 1
    clear kt kr ko
    go_wp2
    refine bodyPost_ret (v := .tuple #[.agg #[.string ⟨#[]⟩, .slice none 0 0], .bool false]) (by simp [results, Tryz.results99, go_sem, cz0, cz1]) rfl ?_
    rw [HV.out]
    first | exact newTb_zero _ bb1 | exact newTb_zero _ (below_set2 bb1 (by omega))
end Go.Proofs.YtbpfabicampdkaaGreatDoor

namespace Go.Proofs.YtbpfabicampdkaaGreatDoor
open Go.ChangeShapes Go.WideShapes Go.ChangeAt Go.RowKit

theorem Tryz.own : ownKnob Tryz.prog.godebug = none := by kernel_rfl
theorem Tryz.laidOut : laidOutB Tryz.prog = true := by kernel_rfl

section
variable {H : Type} {enc : TypeId × Value → H} {P : Program}

/-- the types of a list can all be read, and all lie in the program's table -/
def legible (P : Program) (ts : List TypeId) : Bool := ts.all fun t => P.readableRec t && decide (t < P.types.size)

theorem args_below (hl : laidOutB P = true) {W W' : World} (hb : Below W.heap.size W W') :
    ∀ {ts : List TypeId} {vs : List Value} {ds : List (DataW H)} {ps : List MemPlace}, legible P ts = true → DataW.TrodAll enc P W 0 (fun _ => true) true ts vs ds ps → (∀ x ∈ ps, x.block < W.heap.size) →
      DataW.TrodAll enc P W' 0 (fun b => decide (b < W.heap.size)) true ts vs ds ps
  | [], _, _, _, _, h, _ => by
    obtain ⟨rfl, rfl, rfl⟩ := trodAll_nil h
    rfl
  | t :: ts, _, _, _, hr, h, hlt => by
    obtain ⟨v, vs, d, ds, p, q, rfl, rfl, rfl, h1, h2⟩ := trodAll_cons h
    simp only [legible, List.all_cons, Bool.and_eq_true, decide_eq_true_eq] at hr
    exact ⟨p, q, Below.trod hl hr.1.1 hr.1.2 h1 hb (fun x hx => hlt x (List.mem_append_left _ hx)), args_below hl hb (by simpa only [legible] using hr.2) h2 (fun x hx => hlt x (List.mem_append_right _ hx)), rfl⟩

/-- the post of a law that lists no variable -/
theorem law_post (hl : laidOutB P = true) {f : Func} {s : ChangeSpec} {tb : TypeId} {W W' : World} {args : Array Value} {ds gs : List (DataW H)} {before : List MemPlace}
    (hr : legible P f.params.toList = true) (hty : f.resultTypes = #[tb]) (htb : P.underlying tb = some .bool) (hvars : s.vars = [])
    (hfn : s.fn H ds = { results := [.lit (.bool true)], args := ds })
    (hW : DataW.Whole enc P f.params.toList s.vars false W args.toList ds gs before) (hb : Below W.heap.size W W') :
    s.post enc P f false true false false W args (.bool true) W' := by
  have hW' := hW
  obtain ⟨p, q, hA, hV, rfl, _, _⟩ := hW
  rw [hvars] at hV
  obtain ⟨rfl, rfl⟩ := trodVars_none hV
  have hlt : ∀ x ∈ p, x.block < W.heap.size := fun x hx => hW'.lt x (by simpa using hx)
  have e : s.fn H (ds ++ []) = { results := [.lit (.bool true)], args := ds } := by rw [List.append_nil]; exact hfn
  refine ⟨ds, [], p ++ [], [], p, [], hW', ?_, ?_, ?_, hb.frame _, fun h => by cases h⟩
  · rw [e, hty]
    exact trodAll_mk1 (shut_bool htb _)
  · rw [e]
    exact args_below hl hb hr hA hlt
  · rw [e, hvars]
    rfl
end

set_option maxRecDepth 100000 in
/-- a law that lists no variable: from the walk at every argument to the lifted row -/
theorem law_lifted {H : Type} {enc : TypeId × Value → H} {os : Os} (started : os.Started) {f : FuncId} {fn : Func} {s : ChangeSpec} {conds : List PathCond} {tb : TypeId}
    (noInit : Tryz.prog.inits.idxOf? f = none) (hfun : Tryz.prog.funcs[f]? = some fn)
    (hr : legible Tryz.prog fn.params.toList = true) (hty : fn.resultTypes = #[tb]) (htb : Tryz.prog.underlying tb = some .bool) (hvars : s.vars = [])
    (witness : ∃ (w : World) (tape : Tape) (i : Input), w.os = os ∧ (w.forCall tape i).Shaped Tryz.checked.prog ∧ i.vars = [] ∧ Input.okWide Tryz.checked.prog (w.forCall tape i) .any w.heap.size f i ∧
      s.pre6 enc Tryz.checked.prog fn conds false (w.forCall tape i).memory i.args ∧ Assume.holds {} Tryz.checked.prog (lone (Frame.enter Tryz.checked.prog f i.args .normal) [] (w.forCall tape i)))
    (walk : ∀ (W : World) (base : Nat) (args : Array Value) (ds : List (DataW H)) (p : List MemPlace),
      (∀ (j : Nat) t v, fn.params[j]? = some t → args[j]? = some v → Value.okWide Tryz.prog W .any base t v) →
      DataW.TrodAll enc Tryz.prog W 0 (fun _ => true) true fn.params.toList args.toList ds p → (∀ x ∈ p, x.block < W.heap.size) → W.noneFrozen p →
      s.fn H ds = { results := [.lit (.bool true)], args := ds } ∧ Calls Tryz.prog f args W fun e W' => e = .returned (.bool true) ∧ Below W.heap.size W W') :
    ReturnsInHanded {} Tryz.checked os f .any (s.pre6 enc Tryz.prog fn conds false) (s.post enc Tryz.prog fn false true false false) := by
  refine returnsInHanded_of_change (C := Tryz.checked) Tryz.own started noInit hfun witness ?_
  intro W base args ds gs before hval hW _ _
  have hW' := hW
  obtain ⟨p, q, hA, hV, rfl, hz, _⟩ := hW
  rw [hvars] at hV
  obtain ⟨rfl, rfl⟩ := trodVars_none hV
  obtain ⟨hfn, hc⟩ := walk W base args ds p hval hA (fun x hx => hW'.lt x (by simpa using hx)) (by simpa using hz)
  refine hc.mono fun e W' ⟨he, hb⟩ => ?_
  subst he
  exact ⟨_, rfl, law_post Tryz.laidOut hr hty htb hvars hfn hW' hb⟩
end Go.Proofs.YtbpfabicampdkaaGreatDoor

namespace Go.Proofs.YtbpfabicampdkaaGreatDoor
open Go.ChangeShapes Go.WideShapes Go.ChangeAt Go.RowKit

section
variable {H : Type} {enc : TypeId × Value → H} {P : Program} {W : World} {base : Nat} {t e : TypeId} {v : Value} {d : DataW H} {p : List MemPlace}

theorem arg_strings (ht : P.underlying t = some (.slice e)) (he : P.underlying e = some .string) (hc : P.cellsOf e = 1) (hv : Value.okWide P W .any base t v) (h : DataW.Trod enc P W 0 (fun _ => true) true t v d p) :
    ∃ ss : List ByteArray, Row W 0 W.heap.size v (ss.map Value.string) ∧ ss.length ≤ maxLen ∧ ∀ s ∈ ss, s.size ≤ maxLen := by
  obtain ⟨a0, len0, cap0, rfl⟩ := okWide_slice ht hv
  obtain ⟨fuel, hf⟩ := h
  rcases open_strings ht he hc hf with ⟨hcs, _⟩ | ⟨a, len, cap, ss, hcs, _, hl, hm, hz, _, hcell, hsz⟩
  · have hcs' : Value.slice a0 len0 cap0 = .slice none 0 0 := by simpa [Value.cells] using hcs
    cases hcs'
    exact ⟨[], Row.nil_ _ _, by simp, by simp⟩
  · have hcs' : Value.slice a0 len0 cap0 = .slice (some a) len cap := by simpa [Value.cells] using hcs
    obtain ⟨rfl, rfl, rfl⟩ : a0 = some a ∧ len = len0 ∧ cap = cap0 := by cases hcs'; exact ⟨rfl, rfl, rfl⟩
    have hzl : ss.length = cap := by simpa using hz
    have hlen : (ss.take len).length = len := by rw [List.length_take]; omega
    refine ⟨ss.take len, ⟨some a, cap, by rw [List.length_map, hlen], fun j u hu => ?_⟩, by omega, fun s hs => hsz s (List.mem_of_mem_take hs)⟩
    rw [List.getElem?_map] at hu
    obtain ⟨s, hs, rfl⟩ := Option.map_eq_some_iff.1 hu
    have hj : j < len := by rw [← hlen]; exact (List.getElem?_eq_some_iff.1 hs).1
    have hs' : ss[j]? = some s := by rw [← hs, List.getElem?_take_of_lt hj]
    have hc1 := hcell j (by omega)
    rw [List.getD_eq_getElem?_getD, hs'] at hc1
    exact ⟨a, rfl, Nat.zero_le _, by have := cell_lt hc1; rwa [block_add] at this, hc1⟩

theorem arg_ints (ht : P.underlying t = some (.slice e)) (he : P.underlying e = some (.int .i64)) (hc : P.cellsOf e = 1) (hv : Value.okWide P W .any base t v) (h : DataW.Trod enc P W 0 (fun _ => true) true t v d p) :
    ∃ xs : List Int, Row W 0 W.heap.size v (xs.map (Value.int .i64)) ∧ xs.length ≤ maxLen ∧ ∀ x ∈ xs, -9223372036854775808 ≤ x ∧ x ≤ 9223372036854775807 := by
  obtain ⟨a0, len0, cap0, rfl⟩ := okWide_slice ht hv
  obtain ⟨fuel, hf⟩ := h
  rcases open_ints ht he hc hf with ⟨hcs, _⟩ | ⟨a, len, cap, ss, hcs, _, hl, hm, hz, _, hcell, hsz⟩
  · have hcs' : Value.slice a0 len0 cap0 = .slice none 0 0 := by simpa [Value.cells] using hcs
    cases hcs'
    exact ⟨[], Row.nil_ _ _, by simp, by simp⟩
  · have hcs' : Value.slice a0 len0 cap0 = .slice (some a) len cap := by simpa [Value.cells] using hcs
    obtain ⟨rfl, rfl, rfl⟩ : a0 = some a ∧ len = len0 ∧ cap = cap0 := by cases hcs'; exact ⟨rfl, rfl, rfl⟩
    have hzl : ss.length = cap := by simpa using hz
    have hlen : (ss.take len).length = len := by rw [List.length_take]; omega
    refine ⟨ss.take len, ⟨some a, cap, by rw [List.length_map, hlen], fun j u hu => ?_⟩, by omega, fun s hs => ?_⟩
    · rw [List.getElem?_map] at hu
      obtain ⟨s, hs, rfl⟩ := Option.map_eq_some_iff.1 hu
      have hj : j < len := by rw [← hlen]; exact (List.getElem?_eq_some_iff.1 hs).1
      have hs' : ss[j]? = some s := by rw [← hs, List.getElem?_take_of_lt hj]
      have hc1 := hcell j (by omega)
      rw [List.getD_eq_getElem?_getD, hs'] at hc1
      exact ⟨a, rfl, Nat.zero_le _, by have := cell_lt hc1; rwa [block_add] at this, hc1⟩
    · have := hsz s (List.mem_of_mem_take hs)
      simpa [Lit.wf, IntKind.min, IntKind.max, IntKind.signed, IntKind.bits] using this

theorem arg_bytes (ht : P.underlying t = some (.slice e)) (he : P.underlying e = some (.int .u8)) (hc : P.cellsOf e = 1) (hv : Value.okWide P W .any base t v) (h : DataW.Trod enc P W 0 (fun _ => true) true t v d p) :
    ∃ bs : List Nat, Row W 0 W.heap.size v (bs.map fun b : Nat => Value.int .u8 (b : Int)) ∧ bs.length ≤ maxLen ∧ ∀ b ∈ bs, b < 256 := by
  obtain ⟨a0, len0, cap0, rfl⟩ := okWide_slice ht hv
  obtain ⟨fuel, hf⟩ := h
  rcases open_ints ht he hc hf with ⟨hcs, _⟩ | ⟨a, len, cap, ss, hcs, _, hl, hm, hz, _, hcell, hsz⟩
  · have hcs' : Value.slice a0 len0 cap0 = .slice none 0 0 := by simpa [Value.cells] using hcs
    cases hcs'
    exact ⟨[], Row.nil_ _ _, by simp, by simp⟩
  · have hcs' : Value.slice a0 len0 cap0 = .slice (some a) len cap := by simpa [Value.cells] using hcs
    obtain ⟨rfl, rfl, rfl⟩ : a0 = some a ∧ len = len0 ∧ cap = cap0 := by cases hcs'; exact ⟨rfl, rfl, rfl⟩
    have hzl : ss.length = cap := by simpa using hz
    have hlen : (ss.take len).length = len := by rw [List.length_take]; omega
    have hr : ∀ x ∈ ss.take len, 0 ≤ x ∧ x ≤ 255 := fun x hx => by
      have := hsz x (List.mem_of_mem_take hx)
      simpa [Lit.wf, IntKind.min, IntKind.max, IntKind.signed, IntKind.bits] using this
    refine ⟨(ss.take len).map Int.toNat, ⟨some a, cap, by rw [List.length_map, List.length_map, hlen], fun j u hu => ?_⟩, by rw [List.length_map]; omega, fun s hs => ?_⟩
    · rw [List.getElem?_map, List.getElem?_map] at hu
      obtain ⟨y, hy, rfl⟩ := Option.map_eq_some_iff.1 hu
      obtain ⟨s, hs, rfl⟩ := Option.map_eq_some_iff.1 hy
      have hj : j < len := by rw [← hlen]; exact (List.getElem?_eq_some_iff.1 hs).1
      have hs' : ss[j]? = some s := by rw [← hs, List.getElem?_take_of_lt hj]
      have hc1 := hcell j (by omega)
      rw [List.getD_eq_getElem?_getD, hs'] at hc1
      have h0 := hr s (List.mem_of_getElem? hs)
      have e0 : ((s.toNat : Nat) : Int) = s := by omega
      rw [e0]
      exact ⟨a, rfl, Nat.zero_le _, by have := cell_lt hc1; rwa [block_add] at this, hc1⟩
    · obtain ⟨x, hx, rfl⟩ := List.mem_map.1 hs
      have := hr x hx
      omega
end
end Go.Proofs.YtbpfabicampdkaaGreatDoor
