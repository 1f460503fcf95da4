/-
  Chapter 11 of package impl: whether no pair is counted twice (pairsDiffer).
  Chapter 11 of package impl: RatesOk.
  Tables of rates: what laws.markRates marks, and that laws.heldRates finds it again; new tables in their boxes.
  The law FnExactRatePut of chapter 11, walked: it returns true wherever both packages answer alike.
  Contracts of library functions, laid over this program: each is one application of a theorem of the library.
  What spec.IntText and impl.IntText return: the decimal numeral.
  What (*strings.Builder).copyCheck and WriteString do to a builder of the call's own.
  What impl.joinAll, impl.Join and spec.Join return: the same text.
  What spec.Pad and impl.Pad return.
  Chapter 3: NatText and NatDigits of package spec.
  What spec.l01All, impl.IsDigits, IsWord, IsCode and their spec twins return, as walks over the program.
  Plain facts on texts of decimal digits.
  What TextNat of package spec returns.
-/
import Derived.Carry
import Derived.Deep.RegionHeld3
import Derived.Deep.DeepCutAuto
import Derived.Shelf.Strconv.Itoa3
import Derived.Shelf.Strings.BuilderK
import Derived.Shelf.Strings.Repeat
import Derived.Test.YtbpfabicampdkaaDoorProg
import Derived.Deep.RegionWith
import Derived.Lib.ItoaNum
import Derived.IntWalk
import Derived.Lib.FrozenHead2
import Derived.Lib.OthersKept
import Derived.Test.YtbpfabicampdkaaDoorJA4
namespace Go.Proofs.YtbpfabicampdkaaDoor
open Go.RowKit
open Go.Maps (Keyed)

set_option maxHeartbeats 4000000 in
set_option maxRecDepth 100000 in
theorem pairsDiffer_any (v : Value) (l : List EI) (w : World) (hl : l.length ≤ 1048576) (hs : ∀ x ∈ l, x.1.size ≤ maxLen ∧ x.2.1.size ≤ maxLen) (h : RdEL w v l) :
    Calls Tryd.prog 36 #[v] w (Postb (differE l) w) := by
  obtain ⟨A, c, rfl, hc⟩ := h
  have HC := Lib.hid hc
  have HS := Lib.hid hs
  clear hc hs
  have hzI : ∀ u : World, (zeroValue 3).run Tryd.prog u = .ok (.int .i64 0) u := fun u => by kernel_rfl
  have HREL := Lib.hid (show ∃ (k : Nat) (D : DataW Unit), k ≤ l.length ∧ Value.int .i64 0 = .int .i64 k ∧ (w.alloc (.map #[] 0)).ownsMap Tryd.prog 72 (plainElem Tryd.prog 3) w.heap.size k D ∧ Hid (CntD D (l.take k)) ∧ Below w.heap.size w (w.alloc (.map #[] 0)) from ⟨0, .map [], Nat.zero_le _, rfl, World.ownsMap_made w _ _ _, Lib.hid cntD_nil, (Below.refl _ _).alloc (Nat.le_refl _) _⟩)
  have HZI := Lib.hid hzI
  clear hzI
  have hmm := @run_makeMap Tryd.prog
  go_enter Tryd.func36, Tryd.ntmps36
  go_wp2
  go_loopw [11] (fun i wr => ∃ (k : Nat) (D : DataW Unit), k ≤ l.length ∧ i = .int .i64 k ∧ wr.ownsMap Tryd.prog 72 (plainElem Tryd.prog 3) w.heap.size k D ∧ Hid (CntD D (l.take k)) ∧ Below w.heap.size w wr) (fun i _ => l.length - (intOf i).toNat)
  case atStart => exact HREL.out
  case round =>
    clear HREL
    obtain ⟨k, D, hk, rfl, hown, HD, hb⟩ := hrel
    by_cases hlt : k < l.length
    · obtain ⟨x, hxk⟩ : ∃ x, l[k]? = some x := ⟨_, List.getElem?_eq_getElem hlt⟩
      obtain ⟨a, u, rfl, ha, hc0, hc1, hc2, hc3, hc4, hr⟩ := HC.out k x hxk
      obtain ⟨A1, c1, rfl⟩ := row_form hr
      rw [intsV_length] at hc3 hr
      have k0 := (cell_keep5' hb ha k).trans hc0
      have k1 := (cell_keep5 hb ha k 1).trans hc1
      have k2 := (cell_keep5 hb ha k 2).trans hc2
      have k3 := (cell_keep5 hb ha k 3).trans hc3
      have k4 := (cell_keep5 hb ha k 4).trans hc4
      have hsz := HS.out x (List.mem_of_getElem? hxk)
      obtain ⟨kl, hkl⟩ := pair_key x.1 x.2.1 hsz.1 hsz.2
      have hbx := below_al (Below.refl wr.heap.size wr) (.cells #[.string x.1, .string x.2.1, .bool x.2.2.1.1, .slice A1 x.2.2.1.2.length c1, .int .i64 x.2.2.2] 35)
      have kx := box_new wr #[.string x.1, .string x.2.1, .bool x.2.2.1.1, .slice A1 x.2.2.1.2.length c1, .int .i64 x.2.2.2] 35
      have HRX := Lib.hid (show ∀ W, Below wr.heap.size wr W → RdE W (.agg #[.string x.1, .string x.2.1, .bool x.2.2.1.1, .slice A1 x.2.2.1.2.length c1, .int .i64 x.2.2.2]) x from fun W h => RdE.below (RdE.below ⟨_, rfl, hr⟩ hb) h)
      have HBX := Lib.hid hbx
      have HW := Lib.hid (show ∀ W1, Below wr.heap.size wr W1 → ∃ (v0 : Value) (st : Nat) (W2 W3 : World), (Instr.lookup 92 (.map (some w.heap.size)) (.agg #[.string x.1, .string x.2.1]) false).run Tryd.prog W1 = .ok (.int .i64 (cntE (l.take k) x.1 x.2.1)) W1 ∧ (Instr.lookup 92 (.map (some w.heap.size)) (.agg #[.string x.1, .string x.2.1]) false).run Tryd.prog W2 = .ok (.int .i64 (cntE (l.take k) x.1 x.2.1)) W2 ∧
          (Instr.mapEntry 92 (.map (some w.heap.size)) (.agg #[.string x.1, .string x.2.1])).run Tryd.prog W1 = .ok (.tuple #[v0, .int .i64 st]) W2 ∧ (Instr.entryStore 92 (.map (some w.heap.size)) (.int .i64 st) (.int .i64 (cntE (l.take k) x.1 x.2.1 + 1))).run Tryd.prog W2 = .ok () W3 ∧
          Hid (∃ D' : DataW Unit, W3.ownsMap Tryd.prog 72 (plainElem Tryd.prog 3) w.heap.size (k + 1) D' ∧ CntD D' (l.take (k + 1)) ∧ Below w.heap.size w W3) from fun W1 hb1 => by
        have ho1 := hown.kept (w' := W1) (row := none) ⟨hb1.os, hb1.tape, hb1.output, hb1.size, fun i hi _ => hb1.block i hi⟩ (by simp)
        have hcn := cntE_le (l.take k) x.1 x.2.1
        rw [List.length_take] at hcn
        obtain ⟨v0, st, W2, W3, q1, q2, q3, q4, q5, q6⟩ := count_step pairLaw Tryd.underlying92 Tryd.underlying3 HZI.out ho1 (by unfold maxLen; omega) hkl (HD.out.1 _ _ _ hkl) (by omega) (by omega)
        obtain ⟨es, hes, _⟩ := ho1.entries (Keyed.of_law pairLaw)
        exact ⟨v0, st, W2, W3, q1, q2, q3, q4, Lib.hid ⟨_, q5, cntD_put ⟨es, hes⟩ HD.out hxk hkl, (Below.next hb hb1).grown q6 (by have := hb.size; have := hb1.size; omega) (fun i hi => by cases hi; exact Nat.le_refl _)⟩⟩)
      have hcw : IntKind.i64.wrap ((cntE (l.take k) x.1 x.2.1 : Int) + 1) = (cntE (l.take k) x.1 x.2.1 : Int) + 1 := IntWalk.i64_in _ (by have := cntE_le (l.take k) x.1 x.2.1; rw [List.length_take] at this; omega)
      have kx_c0 := kx.here.cell 0 _ rfl
      have kx_c1 := kx.here.cell 1 _ rfl
      have kx_c2 := kx.here.cell 2 _ rfl
      have kx_c3 := kx.here.cell 3 _ rfl
      have kx_c4 := kx.here.cell 4 _ rfl
      clear hc0 hc1 hc2 hc3 hc4 hr ha hb hbx kx hown HD hkl hsz hxk
      generalize (cntE (l.take k) x.1 x.2.1 : Int) = cn at *
      go_wp2_with fail
      go_region_with (go_at_call 42; refine (pairOf_any _ x _ (HRX.out _ (Below.drew1 HBX.out))).mono ?_; rintro e w1 ⟨rfl, b1⟩; obtain ⟨v0, st, W2, W3, q1, q2, q3, q4, HQ⟩ := HW.out w1 ((Below.drew1 HBX.out).trans (b1.mono (by simp))))
      all_goals
        obtain ⟨D', r1, r2, r3⟩ := HQ.out
        go_wp2
        go_roundw
        case rel => exact ⟨k + 1, D', by omega, by go_num, r1, Lib.hid r2, r3⟩
        case measure => simp [intOf]; omega
    · obtain rfl : k = l.length := by omega
      have hd := HD.out
      rw [List.take_length] at hd
      obtain ⟨rb, hrb⟩ : ∃ r, r = wr.heap.size := ⟨_, rfl⟩
      have HD2 := Lib.hid hd
      clear HD hd HC
      go_wp2_with (first
        | (at_range; refine wpList_range_own _ rfl _ 92 rfl 72 3 (Keyed.of_law pairLaw) Tryd.underlying92 _ w.heap.size l.length D rfl hown ?_; intro w0 hrg0 hg0 hs0)
        | go_in)
      go_frame
      rw [← hrb] at hrg0
      have HSTART := Lib.hid (show ∃ (left : Lit → Bool) (cnt : Nat), w0.ranges Tryd.prog 72 (plainElem Tryd.prog 3) w.heap.size rb l.length D left cnt ∧ Hid (∀ a b kl, keyOf Tryd.prog 72 (pairV a b) = some kl → left kl = false → cntE l a b ≤ 1) ∧ Below w.heap.size w w0 from
        ⟨_, _, hrg0, Lib.hid (fun a b kl h1 h2 => by
          have h3 := HD2.out.1 a b kl h1
          rw [Maps.atKey_of_not_has h2] at h3
          injection h3 with h3
          injection h3 with _ h3
          omega), hb.grown hg0 hb.size (fun i hi => by cases hi)⟩)
      have HRB := Lib.hid (show w.heap.size ≤ rb by rw [hrb]; exact hb.size)
      clear hrg0 hg0 hs0 hb hown
      rw [← hrb]
      clear hrb
      go_loopw [7] (fun _ wr => ∃ (left : Lit → Bool) (cnt : Nat), wr.ranges Tryd.prog 72 (plainElem Tryd.prog 3) w.heap.size rb l.length D left cnt ∧ Hid (∀ a b kl, keyOf Tryd.prog 72 (pairV a b) = some kl → left kl = false → cntE l a b ≤ 1) ∧ Below w.heap.size w wr) (fun _ wr => wr.rangeLeft w.heap.size rb)
      case atStart => exact HSTART.out
      case round =>
        clear HSTART
        obtain ⟨left, cnt, hrg, HL, hb⟩ := hrel
        go_wp2_with (first
          | (at_next; refine wpList_next_ranges _ rfl _ rfl 72 (Keyed.of_law pairLaw) (plainElem Tryd.prog 3) (id : Value → Value) (Value.int .i64) (fun key kl _ => ⟨key, rfl⟩) (fun v y hv => by obtain ⟨c, rfl, _⟩ := plainElem_int_inv Tryd.underlying3 hv; exact ⟨c, rfl⟩) w.heap.size rb l.length D left cnt rfl hrg ?_ ?_)
          | go_in)
        · intro _ hl0
          have HV := Lib.hid (show differE l = true by
            unfold differE
            rw [List.all_eq_true]
            intro r hr
            obtain ⟨kl, hkl⟩ := pair_key r.1 r.2.1 (HS.out r hr).1 (HS.out r hr).2
            exact decide_eq_true (HL.out _ _ kl hkl (hl0 kl)))
          clear hrg HL
          go_wp2
          go_ret
          exact ⟨ret_bool HV.out.symm, hb⟩
        · intro x c kl ya yb w1 cnt1 hkey hlk hv hat hrg1 hlt1 hg1 hs1 hen
          obtain ⟨c', e1, e2, _⟩ := plainElem_int_inv Tryd.underlying3 hv
          cases e1
          cases e2
          obtain ⟨r, hr, hkr⟩ := HD2.out.2 kl (Maps.has_true_of_atKey hat)
          have hcn : c = (cntE l r.1 r.2.1 : Int) := by
            have h1 := HD2.out.1 _ _ kl hkr
            rw [hat] at h1
            injection h1 with h1
            injection h1 with _ h1
          have hb1 := hb.grown hg1 hb.size (fun i hi => by cases hi; exact HRB.out)
          by_cases h1 : 1 < c
          · have HV := Lib.hid (show differE l = false by
              rw [Bool.eq_false_iff]
              intro hd
              unfold differE at hd
              rw [List.all_eq_true] at hd
              have := hd r hr
              rw [decide_eq_true_eq] at this
              omega)
            have hd1 : decide ((1 : Int) < c) = true := decide_eq_true h1
            clear hrg hrg1 hv hat hkey hkr hr hcn hlk h1
            go_wp2
            go_ret
            exact ⟨ret_bool HV.out.symm, hb1⟩
          · have hd1 : decide ((1 : Int) < c) = false := decide_eq_false h1
            have HL2 := Lib.hid (show ∀ a b kl', keyOf Tryd.prog 72 (pairV a b) = some kl' → (left kl' && !kl'.sameKey kl) = false → cntE l a b ≤ 1 from fun a b kl' hk' hf => by
              by_cases e : kl' = kl
              · subst e
                have h2 := HD2.out.1 a b kl' hk'
                rw [hat] at h2
                injection h2 with h2
                injection h2 with _ h2
                omega
              · rw [Maps.sameKey_ne e] at hf
                exact HL.out a b kl' hk' (by simpa using hf))
            have HRG := Lib.hid hrg
            have HRG1 := Lib.hid hrg1
            have HB1 := Lib.hid hb1
            clear hrg hrg1 hv hat hkey hkr hr hcn hlk h1 hb hb1 HL
            go_wp2
            go_roundw
            case rel => exact ⟨_, cnt1, HRG1.out, HL2, HB1.out⟩
            case measure => rw [HRG1.out.left_eq, HRG.out.left_eq]; omega
end Go.Proofs.YtbpfabicampdkaaDoor

namespace Go.Proofs.YtbpfabicampdkaaDoor
open Go.RowKit

theorem all_okE_snoc {l : List EI} {k : Nat} {x : EI} (h : (l.take k).all okE = true) (hx : l[k]? = some x) (ho : okE x = true) : (l.take (k + 1)).all okE = true := by
  have hj := (List.getElem?_eq_some_iff.1 hx).1
  rw [List.take_succ_eq_append_getElem hj, (List.getElem?_eq_some_iff.1 hx).2, List.all_append, h]
  simp [ho]
theorem known_size3 {s : ByteArray} (hk : knownC s = true) : s.size ≤ 3 := by
  obtain ⟨r, hr, e, _⟩ := known_row hk
  rw [← e]
  have h : (specT.all fun r => decide (r.1.size ≤ 3)) = true := by decide +kernel
  exact of_decide_eq_true (List.all_eq_true.1 h r hr)
set_option maxHeartbeats 4000000 in
set_option maxRecDepth 100000 in
theorem implRatesOk_any (v : Value) (t : TI) (w : World) (hl : t.2.length ≤ 1099511627776) (hx : ∀ x ∈ t.2, x.2.2.1.2.length ≤ 1048576) (h : OwnTR w v t) (ht : CurTab w) :
    Calls Tryd.prog 15 #[v] w (Postb (okT t) w) := by
  obtain ⟨A, c, rfl, hr⟩ := ownTR_form h
  have HR := Lib.hid hr
  have HT := Lib.hid ht
  clear h hr ht
  have bb0 : Below w.heap.size w (w.alloc (.cells #[.string t.1, .slice A t.2.length c] 46)) := below_al (Below.refl _ _) _
  have kt := box_new w #[.string t.1, .slice A t.2.length c] 46
  go_enter Tryd.func15, Tryd.ntmps15
  have kt_c0 := kt.here.cell 0 _ rfl
  have kt_c1 := kt.here.cell 1 _ rfl
  go_wp2_with fail
  clear kt_c0 kt_c1
  refine (implCurKnown_any t.1 _ (HT.out.below bb0)).mono ?_
  rintro e w1 ⟨rfl, b1⟩
  have bb1 := Below.next bb0 b1
  replace kt := kt.below b1
  by_cases ok0 : knownC t.1 = true
  · rw [ok0]
    have HO0 := Lib.hid ok0
    clear ok0
    by_cases hn : t.2.length ≤ 12
    · have hn1 : ¬ (12 : Int) < (t.2.length : Int) := by omega
      have HN := Lib.hid hn
      have HREL := Lib.hid (show ∃ k : Nat, k ≤ t.2.length ∧ Value.int .i64 0 = .int .i64 k ∧ Hid ((t.2.take k).all okE = true) ∧ At [w.heap.size] (BoxAt w.heap.size #[.string t.1, .slice A t.2.length c] 46) w1 ∧ Below w.heap.size w w1 from ⟨0, Nat.zero_le _, rfl, Lib.hid rfl, kt, bb1⟩)
      have kt_c0 := kt.here.cell 0 _ rfl
      have kt_c1 := kt.here.cell 1 _ rfl
      clear kt bb0 bb1 b1 hn
      go_wp2
      clear kt_c0 kt_c1
      go_loopw [18] (fun i wr => ∃ k : Nat, k ≤ t.2.length ∧ i = .int .i64 k ∧ Hid ((t.2.take k).all okE = true) ∧ At [w.heap.size] (BoxAt w.heap.size #[.string t.1, .slice A t.2.length c] 46) wr ∧ Below w.heap.size w wr) (fun i _ => t.2.length - (intOf i).toNat)
      case atStart => exact HREL.out
      case round =>
        clear HREL
        obtain ⟨k, hk, rfl, HK, kt, hb⟩ := hrel
        by_cases hlt : k < t.2.length
        · obtain ⟨x, hxk⟩ : ∃ x, t.2[k]? = some x := ⟨_, List.getElem?_eq_getElem hlt⟩
          have hrb := HR.out.below hb
          obtain ⟨A', c', e', hc'⟩ := hrb
          obtain ⟨a, u, ea, ha, hc0, hc1, hc2, hc3, hc4, hr⟩ := hc' k x hxk
          have e0 : A = A' := by injection e' with e1 e2 e3
          subst e0
          subst ea
          obtain ⟨A1, c1, rfl⟩ := own_len hr
          have hxm := List.mem_of_getElem? hxk
          have hxl := hx x hxm
          have hbx := below_al (Below.refl wr.heap.size wr) (.cells #[.string x.1, .string x.2.1, .bool x.2.2.1.1, .slice A1 x.2.2.1.2.length c1, .int .i64 x.2.2.2] 35)
          have kx := box_new wr #[.string x.1, .string x.2.1, .bool x.2.2.1.1, .slice A1 x.2.2.1.2.length c1, .int .i64 x.2.2.2] 35
          have OX := Lib.hid (show ∀ W, Below (wr.alloc (.cells #[.string x.1, .string x.2.1, .bool x.2.2.1.1, .slice A1 x.2.2.1.2.length c1, .int .i64 x.2.2.2] 35)).heap.size (wr.alloc (.cells #[.string x.1, .string x.2.1, .bool x.2.2.1.1, .slice A1 x.2.2.1.2.length c1, .int .i64 x.2.2.2] 35)) W → OwnE (.agg #[.string x.1, .string x.2.1, .bool x.2.2.1.1, .slice A1 x.2.2.1.2.length c1, .int .i64 x.2.2.2]) x W from fun W h => OwnE.mk (own_below (own_below hr hbx) h))
          have bb := Below.next hb hbx
          replace kt := kt.below hbx
          have HNO := Lib.hid (show ¬ okE x = true → okT t = false from fun h => by rw [okT_pairs, all_okE_bad hxm h, Bool.false_and, Bool.and_false, Bool.and_false])
          have HXK := Lib.hid hxk
          have cx0 := kx.here.cell 0 _ rfl
          have cx1 := kx.here.cell 1 _ rfl
          have cx2 := kx.here.cell 2 _ rfl
          have cx3 := kx.here.cell 3 _ rfl
          have cx4 := kx.here.cell 4 _ rfl
          clear hb hbx hr hc' e' ha hxm hxk kx
          have hlt' := hlt
          go_wp2_with fail
          clear cx0 cx1 cx2 cx3 cx4 hc0 hc1 hc2 hc3 hc4
          refine (implRateOk_any _ x _ hxl (OX.out _ (Below.refl _ _)) (HT.out.below bb)).mono ?_
          rintro e w2 ⟨rfl, b2⟩
          have bb2 := Below.next bb b2
          have KT := Lib.hid (kt.below b2)
          clear kt b2 bb
          by_cases okx : okE x = true
          · rw [okx]
            have HNX := Lib.hid (all_okE_snoc HK.out HXK.out okx)
            clear okx
            go_wp2
            go_roundw
            case rel => exact ⟨k + 1, by omega, by go_num, HNX, KT.out, bb2⟩
            case measure => simp [intOf]; omega
          · have okx' : okE x = false := by simpa using okx
            have HV := Lib.hid (HNO.out okx)
            rw [okx']
            clear okx okx'
            go_wp2
            go_ret
            exact ⟨ret_bool HV.out.symm, bb2⟩
        · obtain rfl : k = t.2.length := by omega
          have hall := HK.out
          rw [List.take_length] at hall
          have HV := Lib.hid (show okT t = differE t.2 by rw [okT_pairs, HO0.out, decide_eq_true HN.out, hall]; rfl)
          have hsz : ∀ x ∈ t.2, x.1.size ≤ maxLen ∧ x.2.1.size ≤ maxLen := fun x hm => by
            have hp := okE_parts (List.all_eq_true.1 hall x hm)
            have h1 := known_size3 hp.1
            have h2 := known_size3 hp.2.1
            unfold maxLen
            omega
          have hpd := pairsDiffer_any (.slice A t.2.length c) t.2 wr (by have := HN.out; omega) hsz (HR.out.below hb).rd
          have HB := Lib.hid hb
          have kt_c0 := kt.here.cell 0 _ rfl
          have kt_c1 := kt.here.cell 1 _ rfl
          clear hall hsz hb kt
          go_wp2_with fail
          refine hpd.mono ?_
          rintro e w2 ⟨rfl, b2⟩
          have bb2 := Below.next HB.out b2
          clear kt_c0 kt_c1
          go_wp2
          go_ret
          exact ⟨ret_bool HV.out.symm, bb2⟩
    · have hn1 : (12 : Int) < (t.2.length : Int) := by omega
      have HV := Lib.hid (show okT t = false by rw [okT_rows, decide_eq_false hn, Bool.false_and, Bool.and_false])
      have kt_c0 := kt.here.cell 0 _ rfl
      have kt_c1 := kt.here.cell 1 _ rfl
      clear kt bb0 b1 hn
      go_wp2
      go_ret
      exact ⟨ret_bool HV.out.symm, bb1⟩
  · have ok0' : knownC t.1 = false := by simpa using ok0
    have HV := Lib.hid (show okT t = false by rw [okT_rows, ok0', Bool.false_and])
    rw [ok0']
    clear ok0 ok0' kt
    go_wp2
    go_ret
    exact ⟨ret_bool HV.out.symm, bb1⟩
end Go.Proofs.YtbpfabicampdkaaDoor

namespace Go.Proofs.YtbpfabicampdkaaDoor
open Go.RowKit

def MarkT (v : Value) (x : TI) (m : Int) (w : World) : Prop := ∃ u, v = .agg #[.string x.1, u] ∧ MkEP u x.2 m w
theorem mkRel_at {l : List EI} {e f : List CE} {m : Int} {W : World} {v : Value} {S : List Nat} (hl : e.length = l.length) (h : MkRel l e m l.length f W) (ho : W.ownsRow 0 35 5 v l.length (flatE f)) (h7 : ∀ b, v.ownBlock = some b → b ∈ S) (h8 : ∀ p ∈ e, ∀ b, p.2.2.2.1.ownBlock = some b → b ∈ S)
    (hS : ∀ g ∈ S, g < W.heap.size) : At S (MkEP v l m) W :=
  ⟨mkRel_end hl h ho, hS, fun w' hk => ⟨f, own_stays ho fun g hg => hk g (h7 g hg), by rw [h.1, hl], fun j x p hx hp => by
    have h3 := h.2.2 j x p hx hp
    rw [if_pos (List.getElem?_eq_some_iff.1 hx).1] at h3
    obtain ⟨a1, a2, a3, a4, a5⟩ := h3
    refine ⟨a1, a2, a3, a4, own_stays a5 fun g hg => hk g ?_⟩
    have hj := (List.getElem?_eq_some_iff.1 hp).1
    have hje : j < e.length := by have := h.1; omega
    have := h.2.1 j _ p (List.getElem?_eq_getElem hje) hp
    exact h8 _ (List.getElem_mem hje) g (this ▸ hg)⟩⟩
set_option maxHeartbeats 1000000 in
set_option maxRecDepth 100000 in
theorem markT_cal (v : Value) (x : TI) (S : List Nat) (m : Int) (w : World) (hm : m + mkT x ≤ 9223372036854775807) (hm0 : 0 ≤ m) (h : At S (OwnT v x) w) :
    Calls Tryd.prog 19 #[v, .int .i64 m] w fun e w' => e = .returned (.int .i64 (m + mkT x)) ∧ At S (MarkT v x m) w' ∧ Chg S w w' := by
  obtain ⟨A, c, rfl⟩ := ownT_form h.here
  have hbx := below_al (Below.refl w.heap.size w) (.cells #[.string x.1, .slice A x.2.length c] 46)
  have kx := box_new w #[.string x.1, .slice A x.2.length c] 46
  have ax : At S (OwnEP (.slice A x.2.length c) x.2) _ := (h.below hbx).imp fun _ k => ownT_open k
  obtain ⟨e, h4, hl, h5, h6, h7, h8⟩ := atEP_mem ax
  have kx_c0 := kx.here.cell 0 _ rfl
  have kx_c1 := kx.here.cell 1 _ rfl
  have HZ := Lib.hid (show mkT x = mkEL x.2 from rfl)
  have HBX := Lib.hid hbx
  have HLT := Lib.hid h.lt
  have HM := Lib.hid (markRateS_any _ e x.2 S m _ hm hm0 h4 hl h5 h6 h7 h8)
  have H7 := Lib.hid h7
  have H8 := Lib.hid h8
  have HL := Lib.hid hl
  clear h kx ax h4 hl h5 h6 h7 h8
  go_enter Tryd.func19, Tryd.ntmps19
  go_wp2_with fail
  clear kx_c0 kx_c1
  refine HM.out.mono ?_
  rintro e' w1 ⟨rfl, ⟨f, hf, hfr⟩, c1⟩
  have hchg := Lib.hid ((Chg.of_below HBX.out).trans c1 : Chg S w w1)
  have hall := Lib.hid ((mkRel_at HL.out hfr hf H7.out H8.out (fun i hi => Nat.lt_of_lt_of_le (HLT.out i hi) hchg.out.size)).imp fun _ k => (⟨_, rfl, k⟩ : MarkT (.agg #[.string x.1, .slice A x.2.length c]) x m _))
  clear c1 HM hf hfr
  go_wp2
  go_ret
  exact ⟨ret_int (by rw [HZ.out]), hall.out, hchg.out⟩
set_option maxHeartbeats 1000000 in
set_option maxRecDepth 100000 in
theorem heldT_cal (v : Value) (x : TI) (m : Int) (w : World) (hm : m + mkT x ≤ 9223372036854775807) (hm0 : 0 ≤ m) (h : MarkT v x m w) : Calls Tryd.prog 21 #[v, .int .i64 m] w (Postn (m + mkT x) w) := by
  obtain ⟨u, rfl, ou⟩ := h
  obtain ⟨A, c, rfl⟩ : ∃ A c, u = .slice A x.2.length c := by obtain ⟨_, k, _⟩ := ou; exact own_lenE k
  have hs0 := mkEL_nonneg x.2
  have HZ := Lib.hid (show mkT x = mkEL x.2 from rfl)
  rw [HZ.out] at hm
  have hbx := below_al (Below.refl w.heap.size w) (.cells #[.string x.1, .slice A x.2.length c] 46)
  have kx := box_new w #[.string x.1, .slice A x.2.length c] 46
  have ou1 := MkEP.stays ou hbx
  have kx_c0 := kx.here.cell 0 _ rfl
  have kx_c1 := kx.here.cell 1 _ rfl
  clear ou kx
  go_enter Tryd.func21, Tryd.ntmps21
  go_wp2_with fail
  clear kx_c0 kx_c1
  refine (heldRateS_any _ x.2 m _ (by omega) hm0 ou1).mono ?_
  rintro e w1 ⟨rfl, b1⟩
  have bb1 := Below.next hbx b1
  have hn1 : decide (m + mkEL x.2 < 0) = false := decide_eq_false (by omega)
  clear ou1
  go_wp2
  go_ret
  exact ⟨ret_int (by rw [HZ.out]), bb1⟩
/-- what a call answers: a new table and a bool -/
def PostTb (R0 : TI) (R1 : Bool) (w : World) (e : Ending) (w' : World) : Prop :=
  ∃ (v : Value) (S : List Nat), e = .returned (.tuple #[v, .bool R1]) ∧ At S (OwnT v R0) w' ∧ Within S w.heap.size w'.heap.size ∧ Below w.heap.size w w'
theorem postTb_is {q : TI × Bool} {X : TI} {b : Bool} (e : q = (X, b)) {w w' : World} {n : Ending} (h : PostTb q.1 q.2 w n w') : PostTb X b w n w' := by rw [e] at h; exact h
theorem postTb_eq {q p : TI × Bool} (e : q = p) {w w' : World} {n : Ending} (h : PostTb q.1 q.2 w n w') : PostTb p.1 p.2 w n w' := by rw [e] at h; exact h
def zeroT : TI := (⟨#[]⟩, [])
theorem postTb_chg {S T : List Nat} {v : Value} {x : TI} {b : Bool} {w W : World} (o : At S (OwnT v x) W) (hd : ∀ i ∈ S, i ∉ T) (hT : ∀ i ∈ T, w.heap.size ≤ i) (l : ∀ i ∈ S, w.heap.size ≤ i) (hW : Below w.heap.size w W) :
    ∀ W', Chg T W W' → PostTb x b w (.returned (.tuple #[v, .bool b])) W' :=
  fun _ hc => ⟨v, S, rfl, o.chg hc hd, fun i hi => ⟨l i hi, Nat.lt_of_lt_of_le (o.lt i hi) hc.size⟩, below_chg hW hc hW.size hT⟩
theorem chg_set2T {r : Nat} {c0 c1 : Value} {W : World} : Chg [r] W ((W.setCell ⟨r, 0, none⟩ c0).setCell ⟨r, 1, none⟩ c1) := ((Chg.refl _ _).setCell (by simp) _).setCell (by simp) _
theorem ownT_zero (w : World) : OwnT (.agg #[.string ⟨#[]⟩, .slice none 0 0]) zeroT w := ⟨_, rfl, [], World.ownsRow_nil _ _ _ _, rfl, fun j x p hx => by simp [zeroT] at hx, ⟨fun i j p q b hp => by simp at hp, fun i p b hp => by simp at hp⟩⟩
theorem atT_zero (w : World) : At [] (OwnT (.agg #[.string ⟨#[]⟩, .slice none 0 0]) zeroT) w := ⟨ownT_zero _, fun _ hg => absurd hg List.not_mem_nil, fun w' _ => ownT_zero w'⟩
theorem newTb_zero {w W : World} (b : Bool) (hW : Below w.heap.size w W) : PostTb zeroT b w (.returned (.tuple #[.agg #[.string ⟨#[]⟩, .slice none 0 0], .bool b])) W :=
  ⟨_, [], rfl, atT_zero _, fun _ hg => absurd hg List.not_mem_nil, hW⟩
theorem newTb_at {r B : Nat} {S : List Nat} {c0 c1 : Value} {x : TI} {b : Bool} {w W : World} (o : At S (OwnT (.agg #[c0, c1]) x) W) (l : Within S B W.heap.size) (hrB : r < B) (hr : w.heap.size ≤ r) (hW : Below w.heap.size w W) :
    PostTb x b w (.returned (.tuple #[.agg #[c0, c1], .bool b])) ((W.setCell ⟨r, 0, none⟩ c0).setCell ⟨r, 1, none⟩ c1) :=
  postTb_chg o (fun i hi hm => by have := l i hi; simp at hm; omega) (fun i hi => by simp at hi; omega) (fun i hi => by have := l i hi; omega) hW _ chg_set2T
end Go.Proofs.YtbpfabicampdkaaDoor

namespace Go.Proofs.YtbpfabicampdkaaDoor
open Go.RowKit

set_option maxHeartbeats 4000000 in
set_option maxRecDepth 100000 in
theorem lawRatePut_walk (va : Value) (vr : Value) (a : TI) (r : EI) (R0 : TI) (R1 : Bool) (w : World)
    (hS : ∀ (ua : Value) (ur : Value) (W : World), OwnT ua a W → OwnE ur r W → Calls Tryd.prog 17 #[ua, ur] W (PostTb R0 R1 W))
    (hI : ∀ (ua : Value) (ur : Value) (W : World), OwnT ua a W → OwnE ur r W → CurTab W → Calls Tryd.prog 18 #[ua, ur] W (PostTb R0 R1 W))
    (ht0 : CurTab w) (hl : szT a + szE r ≤ 1048576) (hlR0 : szT R0 ≤ 1048576) (ra : RdT w va a) (rr : RdE w vr r) :
    Calls Tryd.prog 5 #[va, vr] w fun e w' => e = .returned (.bool true) ∧ Below w.heap.size w w' := by
  have HS := Lib.hid hS
  have HI := Lib.hid hI
  clear hS hI
  have HT0 := Lib.hid ht0
  clear ht0
  have hsa := szT_nonneg a
  have hsr := szE_nonneg r
  have hsR0 := szT_nonneg R0
  have hma := mkT_range a
  have hmr := mkE_range r
  have hmR0 := mkT_range R0
  have hza : szT a ≤ 1048576 := by omega
  obtain ⟨Aa, ca, rfl⟩ := rdT_form ra
  have hzr : szE r ≤ 1048576 := by omega
  obtain ⟨Ar, cr, rfl⟩ := rdE_form rr
  have bb0 : Below w.heap.size w ((w.alloc (.cells #[.string a.1, .slice Aa a.2.length ca] 41)).alloc (.cells #[.string r.1, .string r.2.1, .bool r.2.2.1.1, .slice Ar r.2.2.1.2.length cr, .int .i64 r.2.2.2] 28)) := below_al (below_al (Below.refl _ _) _) _
  have ka := (box_new w #[.string a.1, .slice Aa a.2.length ca] 41).below (below_al (Below.refl _ _) (.cells #[.string r.1, .string r.2.1, .bool r.2.2.1.1, .slice Ar r.2.2.1.2.length cr, .int .i64 r.2.2.2] 28))
  have kr := (box_new (w.alloc (.cells #[.string a.1, .slice Aa a.2.length ca] 41)) #[.string r.1, .string r.2.1, .bool r.2.2.1.1, .slice Ar r.2.2.1.2.length cr, .int .i64 r.2.2.2] 28)
  rw [show (w.alloc (.cells #[.string a.1, .slice Aa a.2.length ca] 41)).heap.size = w.heap.size + 1 by simp] at kr
  have RFa : Hid (∀ W, Below w.heap.size w W → RdT W (.agg #[.string a.1, .slice Aa a.2.length ca]) a) := Lib.hid fun W hb => ra.below hb
  have RFr : Hid (∀ W, Below w.heap.size w W → RdE W (.agg #[.string r.1, .string r.2.1, .bool r.2.2.1.1, .slice Ar r.2.2.1.2.length cr, .int .i64 r.2.2.2]) r) := Lib.hid fun W hb => rr.below hb
  go_enter Tryd.func5, Tryd.ntmps5
  have ka_c0 := ka.here.cell 0 _ rfl
  have ka_c1 := ka.here.cell 1 _ rfl
  go_wp2_with fail
  clear ka_c0 ka_c1
  refine (szT_cal _ a (1048576) _ (capT_of hza) (by omega) (by omega) (RFa.out _ bb0)).mono ?_
  rintro e w1 ⟨rfl, b1⟩
  rw [leftI_of (by omega)]
  have bb1 := Below.next bb0 b1
  replace ka := ka.below b1
  replace kr := kr.below b1
  have hn : decide (((1048576 : Int) - szT a : Int) < 0) = false := decide_eq_false (by omega)
  have kr_c0 := kr.here.cell 0 _ rfl
  have kr_c1 := kr.here.cell 1 _ rfl
  have kr_c2 := kr.here.cell 2 _ rfl
  have kr_c3 := kr.here.cell 3 _ rfl
  have kr_c4 := kr.here.cell 4 _ rfl
  go_wp2_with fail
  clear kr_c0 kr_c1 kr_c2 kr_c3 kr_c4
  refine (szE_cal _ r (1048576 - szT a) _ (capE_of hzr) (by omega) (by omega) (RFr.out _ bb1)).mono ?_
  rintro e w2 ⟨rfl, b2⟩
  rw [leftI_of (by omega)]
  have bb2 := Below.next bb1 b2
  replace ka := ka.below b2
  replace kr := kr.below b2
  clear hn
  have hn : decide (((1048576 : Int) - szT a - szE r : Int) < 0) = false := decide_eq_false (by omega)
  have HKa := Lib.hid (ka.lt (w.heap.size) (by simp))
  have HKr := Lib.hid (kr.lt (w.heap.size + 1) (by simp))
  have ka_c0 := ka.here.cell 0 _ rfl
  have ka_c1 := ka.here.cell 1 _ rfl
  have kr_c0 := kr.here.cell 0 _ rfl
  have kr_c1 := kr.here.cell 1 _ rfl
  have kr_c2 := kr.here.cell 2 _ rfl
  have kr_c3 := kr.here.cell 3 _ rfl
  have kr_c4 := kr.here.cell 4 _ rfl
  go_upto_region 8 with fail
  go_cut [6, 7] (fun s t1 wx => NewLocV 46 (fun v => OwnT v R0) w2 s wx ∧ t1 = .bool R1)
  case first =>
    have HB0 := Lib.hid (show Below w2.heap.size w2 w2.drew from (Below.refl _ _).drew)
    have KL := Lib.hid (show ∀ W, Below w2.heap.size w2 W → W.cell? ⟨w.heap.size, 0, none⟩ = some (.string a.1) ∧ W.cell? ⟨w.heap.size, 1, none⟩ = some (.slice Aa a.2.length ca) ∧ W.cell? ⟨w.heap.size + 1, 0, none⟩ = some (.string r.1) ∧ W.cell? ⟨w.heap.size + 1, 1, none⟩ = some (.string r.2.1) ∧ W.cell? ⟨w.heap.size + 1, 2, none⟩ = some (.bool r.2.2.1.1) ∧ W.cell? ⟨w.heap.size + 1, 3, none⟩ = some (.slice Ar r.2.2.1.2.length cr) ∧ W.cell? ⟨w.heap.size + 1, 4, none⟩ = some (.int .i64 r.2.2.2) ∧ Hid (Below w2.heap.size w2 W) from
      fun W hb => ⟨(ka.below hb).here.cell 0 _ rfl, (ka.below hb).here.cell 1 _ rfl, (kr.below hb).here.cell 0 _ rfl, (kr.below hb).here.cell 1 _ rfl, (kr.below hb).here.cell 2 _ rfl, (kr.below hb).here.cell 3 _ rfl, (kr.below hb).here.cell 4 _ rfl, Lib.hid hb⟩)
    have BBF := Lib.hid (show ∀ W, Below w2.heap.size w2 W → Below w.heap.size w W from fun W hb => Below.next bb2 hb)
    clear ka_c0 ka_c1 kr_c0 kr_c1 kr_c2 kr_c3 kr_c4
    go_region_held3 (fun W => W.cell? ⟨w.heap.size, 0, none⟩ = some (.string a.1) ∧ W.cell? ⟨w.heap.size, 1, none⟩ = some (.slice Aa a.2.length ca) ∧ W.cell? ⟨w.heap.size + 1, 0, none⟩ = some (.string r.1) ∧ W.cell? ⟨w.heap.size + 1, 1, none⟩ = some (.string r.2.1) ∧ W.cell? ⟨w.heap.size + 1, 2, none⟩ = some (.bool r.2.2.1.1) ∧ W.cell? ⟨w.heap.size + 1, 3, none⟩ = some (.slice Ar r.2.2.1.2.length cr) ∧ W.cell? ⟨w.heap.size + 1, 4, none⟩ = some (.int .i64 r.2.2.2) ∧ Hid (Below w2.heap.size w2 W))
      ((refine KL.out _ ?_; (first | exact HBf.out | exact HBtr.out | exact HBta.out | exact HB0.out | exact below_al HBf.out _ | exact below_al HBtr.out _ | exact below_al HBta.out _ | exact below_al HB0.out _ | exact below_set2 HBf.out (by first | exact HBtr.out.size | exact HBta.out.size | exact HB0.out.size) | fail)))
      (first
        | (go_at_call 14; (have hBB := (‹_ ∧ _ ∧ _ ∧ _ ∧ _ ∧ _ ∧ _ ∧ Hid (Below w2.heap.size w2 _)›).2.2.2.2.2.2.2); (with_reducible refine (toT_new _ a _ hza (RFa.out _ (BBF.out _ hBB.out))).mono ?_); rintro e wta ⟨ta, Sta, rfl, ota, lta, bta⟩; have HBta := Lib.hid (Below.next hBB.out bta); (try have hbxa : At [w2.heap.size] (BoxAt w2.heap.size #[.string ⟨#[]⟩, .slice none 0 0] 46) wta := At.below (box_new w2.drew _ _) bta); clear hBB)
        | (go_at_call 9; (have hBB := (‹_ ∧ _ ∧ _ ∧ _ ∧ _ ∧ _ ∧ _ ∧ Hid (Below w2.heap.size w2 _)›).2.2.2.2.2.2.2); (with_reducible refine (toE_new _ r _ hzr (RFr.out _ (BBF.out _ hBB.out))).mono ?_); rintro e wtr ⟨tr, Str, rfl, otr, ltr, btr⟩; have HBtr := Lib.hid (Below.next hBB.out btr); (have otar := At.below (by first | exact ota | exact At.below ota (below_al (Below.refl _ _) _)) btr); (first | have hbxr := At.below (box_new _ _ _) btr | have hbxr := At.below hbxa btr | skip); clear hBB)
        | (go_at_call 17; (have hBB := (‹_ ∧ _ ∧ _ ∧ _ ∧ _ ∧ _ ∧ _ ∧ Hid (Below w2.heap.size w2 _)›).2.2.2.2.2.2.2); (with_reducible refine (HS.out _ _ _ (At.here (by first | exact otar | exact At.below otar (below_al (Below.refl _ _) _))) (At.here (by first | exact otr | exact At.below otr (below_al (Below.refl _ _) _)))).mono ?_); rintro e wf ⟨uf, Sf, rfl, of, lf, bf⟩; have HBf := Lib.hid (Below.next hBB.out bf); have HBS := Lib.hid hBB.out.size; (first | have hbxg := At.below_lt (box_new _ _ _) bf | have hbxg := At.below_lt hbxr bf | skip); (try (have hbxf := hbxg.1; have HGB := Lib.hid hbxg.2; clear hbxg)); obtain ⟨Af, cf, rfl⟩ := ownT_form of.here; (try (have cz0 := hbxf.here.cell 0 _ rfl; have cz1 := hbxf.here.cell 1 _ rfl; have fz0 := Lib.frozen_of_heap hbxf.here 0; have fz1 := Lib.frozen_of_heap hbxf.here 1)); clear hBB))
    all_goals (go_wp2_with fail; go_meet; first | exact ⟨newLocV_last of lf HBS.out HBf.out, rfl⟩ | exact ⟨newLocV_early2 hbxf.here of lf (by first | exact HBtr.out.size | exact HBta.out.size | exact HB0.out.size) HGB.out HBf.out, rfl⟩)
  rename World => w3
  clear ka_c0 ka_c1 kr_c0 kr_c1 kr_c2 kr_c3 kr_c4
  obtain ⟨⟨gw0, csw0, Sw0, rfl, kw0, ow0, nw0, lw0, b3⟩, rfl⟩ := hcut
  obtain ⟨Aw0, cw0, ew0⟩ := ownT_form ow0.here
  injection ew0 with ew0
  subst ew0
  have bb3 := Below.next bb2 b3
  replace ka := ka.below b3
  replace kr := kr.below b3
  have ka_c0 := ka.here.cell 0 _ rfl
  have ka_c1 := ka.here.cell 1 _ rfl
  go_upto_region 9 with fail
  go_cut [8] (fun s wx => NewLocV 46 (fun v => OwnT v a) w3 s wx)
  case first =>
    go_wp2_with fail
    refine (toT_new _ a _ hza (RFa.out _ bb3)).mono ?_
    rintro e wt ⟨ut, St, rfl, ot, lt, bt⟩
    obtain ⟨At, ct, rfl⟩ := ownT_form ot.here
    go_wp2_with fail
    go_meet
    exact newLocV_last ot lt (Nat.le_refl _) bt
  rename World => w4
  clear ka_c0 ka_c1
  obtain ⟨gxa, csxa, Sxa, rfl, kxa, oxa, nxa, lxa, b4⟩ := hcut
  obtain ⟨Axa, cxa, exa⟩ := ownT_form oxa.here
  injection exa with exa
  subst exa
  have bb4 := Below.next bb3 b4
  replace ka := ka.below b4
  replace kr := kr.below b4
  replace kw0 := kw0.below b4
  replace ow0 := ow0.below b4
  have kr_c0 := kr.here.cell 0 _ rfl
  have kr_c1 := kr.here.cell 1 _ rfl
  have kr_c2 := kr.here.cell 2 _ rfl
  have kr_c3 := kr.here.cell 3 _ rfl
  have kr_c4 := kr.here.cell 4 _ rfl
  go_upto_region 10 with fail
  go_cut [9] (fun s wx => NewLocV 35 (fun v => OwnE v r) w4 s wx)
  case first =>
    go_wp2_with fail
    refine (toE_new _ r _ hzr (RFr.out _ bb4)).mono ?_
    rintro e wt ⟨ut, St, rfl, ot, lt, bt⟩
    obtain ⟨At, ct, rfl⟩ := ownE_form ot.here
    go_wp2_with fail
    go_meet
    exact newLocV_last ot lt (Nat.le_refl _) bt
  rename World => w5
  clear kr_c0 kr_c1 kr_c2 kr_c3 kr_c4
  obtain ⟨gxr, csxr, Sxr, rfl, kxr, oxr, nxr, lxr, b5⟩ := hcut
  obtain ⟨Axr, cxr, exr⟩ := ownE_form oxr.here
  injection exr with exr
  subst exr
  have bb5 := Below.next bb4 b5
  replace ka := ka.below b5
  replace kr := kr.below b5
  replace kw0 := kw0.below b5
  replace ow0 := ow0.below b5
  replace kxa := kxa.below b5
  replace oxa := oxa.below b5
  have kxa_c0 := kxa.here.cell 0 _ rfl
  have kxa_c1 := kxa.here.cell 1 _ rfl
  have kxr_c0 := kxr.here.cell 0 _ rfl
  have kxr_c1 := kxr.here.cell 1 _ rfl
  have kxr_c2 := kxr.here.cell 2 _ rfl
  have kxr_c3 := kxr.here.cell 3 _ rfl
  have kxr_c4 := kxr.here.cell 4 _ rfl
  go_upto_region 11 with fail
  go_cut [10, 11] (fun s t1 wx => NewLocV 46 (fun v => OwnT v R0) w5 s wx ∧ t1 = .bool R1)
  case first =>
    go_wp2_with fail
    refine (HI.out _ _ _ oxa.here oxr.here (HT0.out.below bb5)).mono ?_
    rintro e wf ⟨uf, Sf, rfl, of, lf, bf⟩
    obtain ⟨Af, cf, rfl⟩ := ownT_form of.here
    go_wp2_with fail
    go_meet
    exact ⟨newLocV_last of lf (Nat.le_refl _) bf, rfl⟩
  rename World => w6
  clear kxa_c0 kxa_c1 kxr_c0 kxr_c1 kxr_c2 kxr_c3 kxr_c4
  obtain ⟨⟨gg0, csg0, Sg0, rfl, kg0, og0, ng0, lg0, b6⟩, rfl⟩ := hcut
  obtain ⟨Ag0, cg0, eg0⟩ := ownT_form og0.here
  injection eg0 with eg0
  subst eg0
  have bb6 := Below.next bb5 b6
  replace ka := ka.below b6
  replace kr := kr.below b6
  replace kw0 := kw0.below b6
  replace ow0 := ow0.below b6
  replace kxa := kxa.below b6
  replace oxa := oxa.below b6
  replace kxr := kxr.below b6
  replace oxr := oxr.below b6
  have kg0_c0 := kg0.here.cell 0 _ rfl
  have kg0_c1 := kg0.here.cell 1 _ rfl
  have kw0_c0 := kw0.here.cell 0 _ rfl
  have kw0_c1 := kw0.here.cell 1 _ rfl
  go_wp2_with fail
  clear kg0_c0 kg0_c1 kw0_c0 kw0_c1
  refine (eqT_cal _ _ R0 R0 _ (capTS_of (by omega)) (OwnT.rd og0.here) (OwnT.rd ow0.here)).mono ?_
  rintro e w7 ⟨rfl, b7⟩
  rw [decide_refl]
  have bb7 := Below.next bb6 b7
  replace ka := ka.below b7
  replace kr := kr.below b7
  replace kw0 := kw0.below b7
  replace ow0 := ow0.below b7
  replace kxa := kxa.below b7
  replace oxa := oxa.below b7
  replace kxr := kxr.below b7
  replace oxr := oxr.below b7
  replace kg0 := kg0.below b7
  replace og0 := og0.below b7
  have ka_c0 := ka.here.cell 0 _ rfl
  have ka_c1 := ka.here.cell 1 _ rfl
  have kxa_c0 := kxa.here.cell 0 _ rfl
  have kxa_c1 := kxa.here.cell 1 _ rfl
  go_wp2_with fail
  have HB0 := Lib.hid (show Below w7.heap.size w7 w7.drew from (Below.refl _ _).drew)
  have KL := Lib.hid (show ∀ W, Below w7.heap.size w7 W → W.cell? ⟨w.heap.size, 0, none⟩ = some (.string a.1) ∧ W.cell? ⟨w.heap.size, 1, none⟩ = some (.slice Aa a.2.length ca) ∧ W.cell? ⟨gxa, 0, none⟩ = some (.string a.1) ∧ W.cell? ⟨gxa, 1, none⟩ = some (.slice Axa a.2.length cxa) ∧ Hid (Below w7.heap.size w7 W) from
    fun W hb => ⟨(ka.below hb).here.cell 0 _ rfl, (ka.below hb).here.cell 1 _ rfl, (kxa.below hb).here.cell 0 _ rfl, (kxa.below hb).here.cell 1 _ rfl, Lib.hid hb⟩)
  have BBF := Lib.hid (show ∀ W, Below w7.heap.size w7 W → Below w.heap.size w W from fun W hb => Below.next bb7 hb)
  have OXF := Lib.hid (show ∀ W, Below w7.heap.size w7 W → OwnT (.agg #[.string a.1, .slice Axa a.2.length cxa]) a W from fun W hb => (oxa.below hb).here)
  clear ka_c0 ka_c1 kxa_c0 kxa_c1
  go_region_held3 (fun W => W.cell? ⟨w.heap.size, 0, none⟩ = some (.string a.1) ∧ W.cell? ⟨w.heap.size, 1, none⟩ = some (.slice Aa a.2.length ca) ∧ W.cell? ⟨gxa, 0, none⟩ = some (.string a.1) ∧ W.cell? ⟨gxa, 1, none⟩ = some (.slice Axa a.2.length cxa) ∧ Hid (Below w7.heap.size w7 W))
    ((refine KL.out _ ?_; (first | exact HBe.out | exact HBt.out | exact HB0.out | fail)))
    (first
      | (go_at_call 14; (have hBB := (‹_ ∧ _ ∧ _ ∧ _ ∧ Hid (Below w7.heap.size w7 _)›).2.2.2.2); (with_reducible refine (toT_new _ a _ hza (RFa.out _ (BBF.out _ hBB.out))).mono ?_); rintro e wt ⟨t, St, rfl, ot, lt, bt⟩; have HBt := Lib.hid (Below.next hBB.out bt); clear hBB)
      | (go_at_call 16; (have hBB := (‹_ ∧ _ ∧ _ ∧ _ ∧ Hid (Below w7.heap.size w7 _)›).2.2.2.2); (with_reducible refine (eqT_cal _ _ a a _ (capTS_of hza) (OwnT.rd (OXF.out _ hBB.out)) (OwnT.rd ot.here)).mono ?_); rintro e w8 ⟨rfl, be⟩; rw [decide_refl]; have HBe := Lib.hid (Below.next hBB.out be); clear hBB))
  have b8 := HBe.out
  have bb8 := Below.next bb7 b8
  replace ka := ka.below b8
  replace kr := kr.below b8
  replace kw0 := kw0.below b8
  replace ow0 := ow0.below b8
  replace kxa := kxa.below b8
  replace oxa := oxa.below b8
  replace kxr := kxr.below b8
  replace oxr := oxr.below b8
  replace kg0 := kg0.below b8
  replace og0 := og0.below b8
  clear HB0 KL BBF OXF HBt HBe ot lt
  have kr_c0 := kr.here.cell 0 _ rfl
  have kr_c1 := kr.here.cell 1 _ rfl
  have kr_c2 := kr.here.cell 2 _ rfl
  have kr_c3 := kr.here.cell 3 _ rfl
  have kr_c4 := kr.here.cell 4 _ rfl
  have kxr_c0 := kxr.here.cell 0 _ rfl
  have kxr_c1 := kxr.here.cell 1 _ rfl
  have kxr_c2 := kxr.here.cell 2 _ rfl
  have kxr_c3 := kxr.here.cell 3 _ rfl
  have kxr_c4 := kxr.here.cell 4 _ rfl
  go_wp2_with fail
  have HB0 := Lib.hid (show Below w8.heap.size w8 w8.drew from (Below.refl _ _).drew)
  have KL := Lib.hid (show ∀ W, Below w8.heap.size w8 W → W.cell? ⟨w.heap.size + 1, 0, none⟩ = some (.string r.1) ∧ W.cell? ⟨w.heap.size + 1, 1, none⟩ = some (.string r.2.1) ∧ W.cell? ⟨w.heap.size + 1, 2, none⟩ = some (.bool r.2.2.1.1) ∧ W.cell? ⟨w.heap.size + 1, 3, none⟩ = some (.slice Ar r.2.2.1.2.length cr) ∧ W.cell? ⟨w.heap.size + 1, 4, none⟩ = some (.int .i64 r.2.2.2) ∧ W.cell? ⟨gxr, 0, none⟩ = some (.string r.1) ∧ W.cell? ⟨gxr, 1, none⟩ = some (.string r.2.1) ∧ W.cell? ⟨gxr, 2, none⟩ = some (.bool r.2.2.1.1) ∧ W.cell? ⟨gxr, 3, none⟩ = some (.slice Axr r.2.2.1.2.length cxr) ∧ W.cell? ⟨gxr, 4, none⟩ = some (.int .i64 r.2.2.2) ∧ Hid (Below w8.heap.size w8 W) from
    fun W hb => ⟨(kr.below hb).here.cell 0 _ rfl, (kr.below hb).here.cell 1 _ rfl, (kr.below hb).here.cell 2 _ rfl, (kr.below hb).here.cell 3 _ rfl, (kr.below hb).here.cell 4 _ rfl, (kxr.below hb).here.cell 0 _ rfl, (kxr.below hb).here.cell 1 _ rfl, (kxr.below hb).here.cell 2 _ rfl, (kxr.below hb).here.cell 3 _ rfl, (kxr.below hb).here.cell 4 _ rfl, Lib.hid hb⟩)
  have BBF := Lib.hid (show ∀ W, Below w8.heap.size w8 W → Below w.heap.size w W from fun W hb => Below.next bb8 hb)
  have OXF := Lib.hid (show ∀ W, Below w8.heap.size w8 W → OwnE (.agg #[.string r.1, .string r.2.1, .bool r.2.2.1.1, .slice Axr r.2.2.1.2.length cxr, .int .i64 r.2.2.2]) r W from fun W hb => (oxr.below hb).here)
  clear kr_c0 kr_c1 kr_c2 kr_c3 kr_c4 kxr_c0 kxr_c1 kxr_c2 kxr_c3 kxr_c4
  go_region_held3 (fun W => W.cell? ⟨w.heap.size + 1, 0, none⟩ = some (.string r.1) ∧ W.cell? ⟨w.heap.size + 1, 1, none⟩ = some (.string r.2.1) ∧ W.cell? ⟨w.heap.size + 1, 2, none⟩ = some (.bool r.2.2.1.1) ∧ W.cell? ⟨w.heap.size + 1, 3, none⟩ = some (.slice Ar r.2.2.1.2.length cr) ∧ W.cell? ⟨w.heap.size + 1, 4, none⟩ = some (.int .i64 r.2.2.2) ∧ W.cell? ⟨gxr, 0, none⟩ = some (.string r.1) ∧ W.cell? ⟨gxr, 1, none⟩ = some (.string r.2.1) ∧ W.cell? ⟨gxr, 2, none⟩ = some (.bool r.2.2.1.1) ∧ W.cell? ⟨gxr, 3, none⟩ = some (.slice Axr r.2.2.1.2.length cxr) ∧ W.cell? ⟨gxr, 4, none⟩ = some (.int .i64 r.2.2.2) ∧ Hid (Below w8.heap.size w8 W))
    ((refine KL.out _ ?_; (first | exact HBe.out | exact HBt.out | exact HB0.out | fail)))
    (first
      | (go_at_call 9; (have hBB := (‹_ ∧ _ ∧ _ ∧ _ ∧ _ ∧ _ ∧ _ ∧ _ ∧ _ ∧ _ ∧ Hid (Below w8.heap.size w8 _)›).2.2.2.2.2.2.2.2.2.2); (with_reducible refine (toE_new _ r _ hzr (RFr.out _ (BBF.out _ hBB.out))).mono ?_); rintro e wt ⟨t, St, rfl, ot, lt, bt⟩; have HBt := Lib.hid (Below.next hBB.out bt); clear hBB)
      | (go_at_call 11; (have hBB := (‹_ ∧ _ ∧ _ ∧ _ ∧ _ ∧ _ ∧ _ ∧ _ ∧ _ ∧ _ ∧ Hid (Below w8.heap.size w8 _)›).2.2.2.2.2.2.2.2.2.2); (with_reducible refine (eqE_cal _ _ r r _ (capE_of hzr) (OwnE.rd (OXF.out _ hBB.out)) (OwnE.rd ot.here)).mono ?_); rintro e w9 ⟨rfl, be⟩; rw [decide_refl]; have HBe := Lib.hid (Below.next hBB.out be); clear hBB))
  have b9 := HBe.out
  have bb9 := Below.next bb8 b9
  replace ka := ka.below b9
  replace kr := kr.below b9
  replace kw0 := kw0.below b9
  replace ow0 := ow0.below b9
  replace kxa := kxa.below b9
  replace oxa := oxa.below b9
  replace kxr := kxr.below b9
  replace oxr := oxr.below b9
  replace kg0 := kg0.below b9
  replace og0 := og0.below b9
  clear HB0 KL BBF OXF HBt HBe ot lt
  have z1 := b1.size
  have z2 := b2.size
  have z3 := b3.size
  have z4 := b4.size
  have z5 := b5.size
  have z6 := b6.size
  have z7 := b7.size
  have z8 := b8.size
  have z9 := b9.size
  have AP_xa_xr := Lib.hid (Within.apart lxa lxr (.inl (by omega)))
  have AP_xa_g0 := Lib.hid (Within.apart lxa lg0 (.inl (by omega)))
  have AP_xr_g0 := Lib.hid (Within.apart lxr lg0 (.inl (by omega)))
  have AP_w0_xa := Lib.hid (Within.apart lw0 lxa (.inl (by omega)))
  have AP_w0_xr := Lib.hid (Within.apart lw0 lxr (.inl (by omega)))
  have AP_w0_g0 := Lib.hid (Within.apart lw0 lg0 (.inl (by omega)))
  have F_xa := Lib.hid (Within.from (B := w.heap.size) lxa (by have := bb2.size; omega))
  have N_xa := Lib.hid nxa
  have KX_a_xa := Lib.hid (show ∀ i ∈ [w.heap.size], i ∉ gxa :: Sxa from fun i hi hm => by have h1 := (lxa i hm).1; have h2 := HKa.out; simp at hi; omega)
  have KX_r_xa := Lib.hid (show ∀ i ∈ [w.heap.size + 1], i ∉ gxa :: Sxa from fun i hi hm => by have h1 := (lxa i hm).1; have h2 := HKr.out; simp at hi; omega)
  have F_xr := Lib.hid (Within.from (B := w.heap.size) lxr (by have := bb2.size; omega))
  have N_xr := Lib.hid nxr
  have KX_a_xr := Lib.hid (show ∀ i ∈ [w.heap.size], i ∉ gxr :: Sxr from fun i hi hm => by have h1 := (lxr i hm).1; have h2 := HKa.out; simp at hi; omega)
  have KX_r_xr := Lib.hid (show ∀ i ∈ [w.heap.size + 1], i ∉ gxr :: Sxr from fun i hi hm => by have h1 := (lxr i hm).1; have h2 := HKr.out; simp at hi; omega)
  have F_g0 := Lib.hid (Within.from (B := w.heap.size) lg0 (by have := bb2.size; omega))
  have N_g0 := Lib.hid ng0
  have KX_a_g0 := Lib.hid (show ∀ i ∈ [w.heap.size], i ∉ gg0 :: Sg0 from fun i hi hm => by have h1 := (lg0 i hm).1; have h2 := HKa.out; simp at hi; omega)
  have KX_r_g0 := Lib.hid (show ∀ i ∈ [w.heap.size + 1], i ∉ gg0 :: Sg0 from fun i hi hm => by have h1 := (lg0 i hm).1; have h2 := HKr.out; simp at hi; omega)
  clear z1 z2 z3 z4 z5 z6 z7 z8 z9
  have kxa_c0 := kxa.here.cell 0 _ rfl
  have kxa_c1 := kxa.here.cell 1 _ rfl
  go_wp2_with fail
  clear kxa_c0 kxa_c1
  refine (markT_cal _ a _ (1) _ (by omega) (by omega) oxa).mono ?_
  rintro e w10 ⟨rfl, mkxa, c10⟩
  clear oxa
  have bb10 := below_chg bb9 c10 bb9.size (fun i hi => F_xa.out i (List.mem_cons_of_mem _ hi))
  replace ka := ka.chg c10 (fun i hi hm => KX_a_xa.out i hi (List.mem_cons_of_mem _ hm))
  replace kr := kr.chg c10 (fun i hi hm => KX_r_xa.out i hi (List.mem_cons_of_mem _ hm))
  replace kw0 := kw0.chg c10 (fun i hi hm => AP_w0_xa.out i (by simp at hi; subst hi; exact List.mem_cons_self ..) (List.mem_cons_of_mem _ hm))
  replace ow0 := ow0.chg c10 (fun i hi hm => AP_w0_xa.out i (List.mem_cons_of_mem _ hi) (List.mem_cons_of_mem _ hm))
  replace kxa := kxa.chg c10 (fun i hi hm => by simp at hi; subst hi; exact N_xa.out hm)
  replace kxr := kxr.chg c10 (fun i hi hm => (apart_symm AP_xa_xr.out) i (by simp at hi; subst hi; exact List.mem_cons_self ..) (List.mem_cons_of_mem _ hm))
  replace oxr := oxr.chg c10 (fun i hi hm => (apart_symm AP_xa_xr.out) i (List.mem_cons_of_mem _ hi) (List.mem_cons_of_mem _ hm))
  replace kg0 := kg0.chg c10 (fun i hi hm => (apart_symm AP_xa_g0.out) i (by simp at hi; subst hi; exact List.mem_cons_self ..) (List.mem_cons_of_mem _ hm))
  replace og0 := og0.chg c10 (fun i hi hm => (apart_symm AP_xa_g0.out) i (List.mem_cons_of_mem _ hi) (List.mem_cons_of_mem _ hm))
  have kxr_c0 := kxr.here.cell 0 _ rfl
  have kxr_c1 := kxr.here.cell 1 _ rfl
  have kxr_c2 := kxr.here.cell 2 _ rfl
  have kxr_c3 := kxr.here.cell 3 _ rfl
  have kxr_c4 := kxr.here.cell 4 _ rfl
  go_wp2_with fail
  clear kxr_c0 kxr_c1 kxr_c2 kxr_c3 kxr_c4
  refine (markE_cal _ r _ (1 + mkT a) _ (by omega) (by omega) oxr).mono ?_
  rintro e w11 ⟨rfl, mkxr, c11⟩
  clear oxr
  have bb11 := below_chg bb10 c11 bb10.size (fun i hi => F_xr.out i (List.mem_cons_of_mem _ hi))
  replace ka := ka.chg c11 (fun i hi hm => KX_a_xr.out i hi (List.mem_cons_of_mem _ hm))
  replace kr := kr.chg c11 (fun i hi hm => KX_r_xr.out i hi (List.mem_cons_of_mem _ hm))
  replace kw0 := kw0.chg c11 (fun i hi hm => AP_w0_xr.out i (by simp at hi; subst hi; exact List.mem_cons_self ..) (List.mem_cons_of_mem _ hm))
  replace ow0 := ow0.chg c11 (fun i hi hm => AP_w0_xr.out i (List.mem_cons_of_mem _ hi) (List.mem_cons_of_mem _ hm))
  replace kxa := kxa.chg c11 (fun i hi hm => AP_xa_xr.out i (by simp at hi; subst hi; exact List.mem_cons_self ..) (List.mem_cons_of_mem _ hm))
  replace kxr := kxr.chg c11 (fun i hi hm => by simp at hi; subst hi; exact N_xr.out hm)
  replace kg0 := kg0.chg c11 (fun i hi hm => (apart_symm AP_xr_g0.out) i (by simp at hi; subst hi; exact List.mem_cons_self ..) (List.mem_cons_of_mem _ hm))
  replace og0 := og0.chg c11 (fun i hi hm => (apart_symm AP_xr_g0.out) i (List.mem_cons_of_mem _ hi) (List.mem_cons_of_mem _ hm))
  replace mkxa := mkxa.chg c11 (fun i hi hm => AP_xa_xr.out i (List.mem_cons_of_mem _ hi) (List.mem_cons_of_mem _ hm))
  have hk : decide (((1 + mkT a + mkE r) : Int) < 0) = false := decide_eq_false (by omega)
  have kg0_c0 := kg0.here.cell 0 _ rfl
  have kg0_c1 := kg0.here.cell 1 _ rfl
  have kw0_c0 := kw0.here.cell 0 _ rfl
  have kw0_c1 := kw0.here.cell 1 _ rfl
  go_wp2_with fail
  clear kg0_c0 kg0_c1 kw0_c0 kw0_c1
  refine (eqT_cal _ _ R0 R0 _ (capTS_of (by omega)) (OwnT.rd og0.here) (OwnT.rd ow0.here)).mono ?_
  rintro e w12 ⟨rfl, b12⟩
  rw [decide_refl]
  have bb12 := Below.next bb11 b12
  replace ka := ka.below b12
  replace kr := kr.below b12
  replace kw0 := kw0.below b12
  replace ow0 := ow0.below b12
  replace kxa := kxa.below b12
  replace kxr := kxr.below b12
  replace kg0 := kg0.below b12
  replace og0 := og0.below b12
  replace mkxa := mkxa.below b12
  replace mkxr := mkxr.below b12
  clear hk
  have kg0_c0 := kg0.here.cell 0 _ rfl
  have kg0_c1 := kg0.here.cell 1 _ rfl
  go_wp2_with fail
  clear kg0_c0 kg0_c1
  refine (markT_cal _ R0 _ (1) _ (by omega) (by omega) og0).mono ?_
  rintro e w13 ⟨rfl, mkg0, c13⟩
  clear og0
  have bb13 := below_chg bb12 c13 bb12.size (fun i hi => F_g0.out i (List.mem_cons_of_mem _ hi))
  replace ka := ka.chg c13 (fun i hi hm => KX_a_g0.out i hi (List.mem_cons_of_mem _ hm))
  replace kr := kr.chg c13 (fun i hi hm => KX_r_g0.out i hi (List.mem_cons_of_mem _ hm))
  replace kw0 := kw0.chg c13 (fun i hi hm => AP_w0_g0.out i (by simp at hi; subst hi; exact List.mem_cons_self ..) (List.mem_cons_of_mem _ hm))
  replace ow0 := ow0.chg c13 (fun i hi hm => AP_w0_g0.out i (List.mem_cons_of_mem _ hi) (List.mem_cons_of_mem _ hm))
  replace kxa := kxa.chg c13 (fun i hi hm => AP_xa_g0.out i (by simp at hi; subst hi; exact List.mem_cons_self ..) (List.mem_cons_of_mem _ hm))
  replace kxr := kxr.chg c13 (fun i hi hm => AP_xr_g0.out i (by simp at hi; subst hi; exact List.mem_cons_self ..) (List.mem_cons_of_mem _ hm))
  replace kg0 := kg0.chg c13 (fun i hi hm => by simp at hi; subst hi; exact N_g0.out hm)
  replace mkxa := mkxa.chg c13 (fun i hi hm => AP_xa_g0.out i (List.mem_cons_of_mem _ hi) (List.mem_cons_of_mem _ hm))
  replace mkxr := mkxr.chg c13 (fun i hi hm => AP_xr_g0.out i (List.mem_cons_of_mem _ hi) (List.mem_cons_of_mem _ hm))
  have kg0_c0 := kg0.here.cell 0 _ rfl
  have kg0_c1 := kg0.here.cell 1 _ rfl
  go_wp2_with fail
  clear kg0_c0 kg0_c1
  refine (heldT_cal _ R0 (1) _ (by omega) (by omega) mkg0.here).mono ?_
  rintro e w14 ⟨rfl, b14⟩
  have bb14 := Below.next bb13 b14
  replace ka := ka.below b14
  replace kr := kr.below b14
  replace kw0 := kw0.below b14
  replace ow0 := ow0.below b14
  replace kxa := kxa.below b14
  replace kxr := kxr.below b14
  replace kg0 := kg0.below b14
  replace mkxa := mkxa.below b14
  replace mkxr := mkxr.below b14
  replace mkg0 := mkg0.below b14
  have hq14 : decide ((1 : Int) + mkT R0 < 0) = false := decide_eq_false (by omega)
  have ka_c0 := ka.here.cell 0 _ rfl
  have ka_c1 := ka.here.cell 1 _ rfl
  have kr_c0 := kr.here.cell 0 _ rfl
  have kr_c1 := kr.here.cell 1 _ rfl
  have kr_c2 := kr.here.cell 2 _ rfl
  have kr_c3 := kr.here.cell 3 _ rfl
  have kr_c4 := kr.here.cell 4 _ rfl
  go_upto_region 31 with fail
  go_cut [15, 16] (fun s t1 wx => NewLocV 46 (fun v => OwnT v R0) w14 s wx ∧ t1 = .bool R1)
  case first =>
    have HB0 := Lib.hid (show Below w14.heap.size w14 w14.drew from (Below.refl _ _).drew)
    have KL := Lib.hid (show ∀ W, Below w14.heap.size w14 W → W.cell? ⟨w.heap.size, 0, none⟩ = some (.string a.1) ∧ W.cell? ⟨w.heap.size, 1, none⟩ = some (.slice Aa a.2.length ca) ∧ W.cell? ⟨w.heap.size + 1, 0, none⟩ = some (.string r.1) ∧ W.cell? ⟨w.heap.size + 1, 1, none⟩ = some (.string r.2.1) ∧ W.cell? ⟨w.heap.size + 1, 2, none⟩ = some (.bool r.2.2.1.1) ∧ W.cell? ⟨w.heap.size + 1, 3, none⟩ = some (.slice Ar r.2.2.1.2.length cr) ∧ W.cell? ⟨w.heap.size + 1, 4, none⟩ = some (.int .i64 r.2.2.2) ∧ Hid (Below w14.heap.size w14 W) from
      fun W hb => ⟨(ka.below hb).here.cell 0 _ rfl, (ka.below hb).here.cell 1 _ rfl, (kr.below hb).here.cell 0 _ rfl, (kr.below hb).here.cell 1 _ rfl, (kr.below hb).here.cell 2 _ rfl, (kr.below hb).here.cell 3 _ rfl, (kr.below hb).here.cell 4 _ rfl, Lib.hid hb⟩)
    have BBF := Lib.hid (show ∀ W, Below w14.heap.size w14 W → Below w.heap.size w W from fun W hb => Below.next bb14 hb)
    clear ka_c0 ka_c1 kr_c0 kr_c1 kr_c2 kr_c3 kr_c4
    go_region_held3 (fun W => W.cell? ⟨w.heap.size, 0, none⟩ = some (.string a.1) ∧ W.cell? ⟨w.heap.size, 1, none⟩ = some (.slice Aa a.2.length ca) ∧ W.cell? ⟨w.heap.size + 1, 0, none⟩ = some (.string r.1) ∧ W.cell? ⟨w.heap.size + 1, 1, none⟩ = some (.string r.2.1) ∧ W.cell? ⟨w.heap.size + 1, 2, none⟩ = some (.bool r.2.2.1.1) ∧ W.cell? ⟨w.heap.size + 1, 3, none⟩ = some (.slice Ar r.2.2.1.2.length cr) ∧ W.cell? ⟨w.heap.size + 1, 4, none⟩ = some (.int .i64 r.2.2.2) ∧ Hid (Below w14.heap.size w14 W))
      ((refine KL.out _ ?_; (first | exact HBf.out | exact HBtr.out | exact HBta.out | exact HB0.out | exact below_al HBf.out _ | exact below_al HBtr.out _ | exact below_al HBta.out _ | exact below_al HB0.out _ | exact below_set2 HBf.out (by first | exact HBtr.out.size | exact HBta.out.size | exact HB0.out.size) | fail)))
      (first
        | (go_at_call 14; (have hBB := (‹_ ∧ _ ∧ _ ∧ _ ∧ _ ∧ _ ∧ _ ∧ Hid (Below w14.heap.size w14 _)›).2.2.2.2.2.2.2); (with_reducible refine (toT_new _ a _ hza (RFa.out _ (BBF.out _ hBB.out))).mono ?_); rintro e wta ⟨ta, Sta, rfl, ota, lta, bta⟩; have HBta := Lib.hid (Below.next hBB.out bta); (try have hbxa : At [w14.heap.size] (BoxAt w14.heap.size #[.string ⟨#[]⟩, .slice none 0 0] 46) wta := At.below (box_new w14.drew _ _) bta); clear hBB)
        | (go_at_call 9; (have hBB := (‹_ ∧ _ ∧ _ ∧ _ ∧ _ ∧ _ ∧ _ ∧ Hid (Below w14.heap.size w14 _)›).2.2.2.2.2.2.2); (with_reducible refine (toE_new _ r _ hzr (RFr.out _ (BBF.out _ hBB.out))).mono ?_); rintro e wtr ⟨tr, Str, rfl, otr, ltr, btr⟩; have HBtr := Lib.hid (Below.next hBB.out btr); (have otar := At.below (by first | exact ota | exact At.below ota (below_al (Below.refl _ _) _)) btr); (first | have hbxr := At.below (box_new _ _ _) btr | have hbxr := At.below hbxa btr | skip); clear hBB)
        | (go_at_call 18; (have hBB := (‹_ ∧ _ ∧ _ ∧ _ ∧ _ ∧ _ ∧ _ ∧ Hid (Below w14.heap.size w14 _)›).2.2.2.2.2.2.2); (with_reducible refine (HI.out _ _ _ (At.here (by first | exact otar | exact At.below otar (below_al (Below.refl _ _) _))) (At.here (by first | exact otr | exact At.below otr (below_al (Below.refl _ _) _))) (HT0.out.below (BBF.out _ hBB.out))).mono ?_); rintro e wf ⟨uf, Sf, rfl, of, lf, bf⟩; have HBf := Lib.hid (Below.next hBB.out bf); have HBS := Lib.hid hBB.out.size; (first | have hbxg := At.below_lt (box_new _ _ _) bf | have hbxg := At.below_lt hbxr bf | skip); (try (have hbxf := hbxg.1; have HGB := Lib.hid hbxg.2; clear hbxg)); obtain ⟨Af, cf, rfl⟩ := ownT_form of.here; (try (have cz0 := hbxf.here.cell 0 _ rfl; have cz1 := hbxf.here.cell 1 _ rfl; have fz0 := Lib.frozen_of_heap hbxf.here 0; have fz1 := Lib.frozen_of_heap hbxf.here 1)); clear hBB))
    all_goals (go_wp2_with fail; go_meet; first | exact ⟨newLocV_last of lf HBS.out HBf.out, rfl⟩ | exact ⟨newLocV_early2 hbxf.here of lf (by first | exact HBtr.out.size | exact HBta.out.size | exact HB0.out.size) HGB.out HBf.out, rfl⟩)
  rename World => w15
  clear ka_c0 ka_c1 kr_c0 kr_c1 kr_c2 kr_c3 kr_c4
  obtain ⟨⟨gh0, csh0, Sh0, rfl, kh0, oh0, nh0, lh0, b15⟩, rfl⟩ := hcut
  obtain ⟨Ah0, ch0, eh0⟩ := ownT_form oh0.here
  injection eh0 with eh0
  subst eh0
  have bb15 := Below.next bb14 b15
  replace ka := ka.below b15
  replace kr := kr.below b15
  replace kw0 := kw0.below b15
  replace ow0 := ow0.below b15
  replace kxa := kxa.below b15
  replace kxr := kxr.below b15
  replace kg0 := kg0.below b15
  replace mkxa := mkxa.below b15
  replace mkxr := mkxr.below b15
  replace mkg0 := mkg0.below b15
  have kh0_c0 := kh0.here.cell 0 _ rfl
  have kh0_c1 := kh0.here.cell 1 _ rfl
  have kw0_c0 := kw0.here.cell 0 _ rfl
  have kw0_c1 := kw0.here.cell 1 _ rfl
  go_wp2_with fail
  clear kh0_c0 kh0_c1 kw0_c0 kw0_c1
  refine (eqT_cal _ _ R0 R0 _ (capTS_of (by omega)) (OwnT.rd oh0.here) (OwnT.rd ow0.here)).mono ?_
  rintro e w16 ⟨rfl, b16⟩
  rw [decide_refl]
  have bb16 := Below.next bb15 b16
  replace ka := ka.below b16
  replace kr := kr.below b16
  replace kw0 := kw0.below b16
  replace ow0 := ow0.below b16
  replace kxa := kxa.below b16
  replace kxr := kxr.below b16
  replace kg0 := kg0.below b16
  replace mkxa := mkxa.below b16
  replace mkxr := mkxr.below b16
  replace mkg0 := mkg0.below b16
  replace kh0 := kh0.below b16
  replace oh0 := oh0.below b16
  have kg0_c0 := kg0.here.cell 0 _ rfl
  have kg0_c1 := kg0.here.cell 1 _ rfl
  go_wp2_with fail
  clear kg0_c0 kg0_c1
  refine (heldT_cal _ R0 (1) _ (by omega) (by omega) mkg0.here).mono ?_
  rintro e w17 ⟨rfl, b17⟩
  have bb17 := Below.next bb16 b17
  replace ka := ka.below b17
  replace kr := kr.below b17
  replace kw0 := kw0.below b17
  replace ow0 := ow0.below b17
  replace kxa := kxa.below b17
  replace kxr := kxr.below b17
  replace kg0 := kg0.below b17
  replace mkxa := mkxa.below b17
  replace mkxr := mkxr.below b17
  replace mkg0 := mkg0.below b17
  replace kh0 := kh0.below b17
  replace oh0 := oh0.below b17
  have hq17 : decide ((1 : Int) + mkT R0 < 0) = false := decide_eq_false (by omega)
  go_wp2
  go_ret
  exact ⟨rfl, bb17⟩
end Go.Proofs.YtbpfabicampdkaaDoor

namespace Go.Proofs
open Go.Shelf
def Tryd.lays169_ren : Go.Shelf.Ren := ⟨fun | 169 => 85 | n => n, fun | 70 => 110 | 9 => 9 | 0 => 0 | 72 => 112 | 37 => 109 | 127 => 119 | 3 => 3 | 5 => 5 | n => n, fun | n => n⟩
theorem Tryd.lays169 : Go.Proofs.Lays.n169 Tryd.prog Tryd.lays169_ren := {
  mixed := by kernel_rfl
  f169 := Tryd.func85.trans (congrArg some (by kernel_rfl))
  t0 := Tryd.underlying0
  a0 := Tryd.isAgg0
  z0 := Tryd.sizeOf0
  v0 := Tryd.zeroValue0
  t3 := Tryd.underlying3
  a3 := Tryd.isAgg3
  z3 := Tryd.sizeOf3
  v3 := Tryd.zeroValue3
  t9 := Tryd.underlying9
  a9 := Tryd.isAgg9
  z9 := Tryd.sizeOf9
  v9 := Tryd.zeroValue9
  t37 := Tryd.underlying109
  a37 := Tryd.isAgg109
  z37 := Tryd.sizeOf109
  v37 := Tryd.zeroValue109
  t70 := Tryd.underlying110
  a70 := Tryd.isAgg110
  z70 := Tryd.sizeOf110
  v70 := Tryd.zeroValue110
  t72 := Tryd.underlying112
  a72 := Tryd.isAgg112
  z72 := Tryd.sizeOf112
  v72 := Tryd.zeroValue112
  t127 := Tryd.underlying119
  a127 := Tryd.isAgg119
  z127 := Tryd.sizeOf119
  v127 := Tryd.zeroValue119 }
theorem Tryd.Builder_Extra_169 : Builder.Extra Tryd.prog Tryd.lays169_ren := {
  sizeBuilder := by kernel_rfl
  liesBuilder := by kernel_rfl
  t5 := Tryd.underlying5
  a5 := Tryd.isAgg5
  z5 := Tryd.sizeOf5
  v5 := Tryd.zeroValue5
  infoByte := by kernel_rfl
  cellsByte := by kernel_rfl
  sizeByte := by kernel_rfl
  neB5 := by decide }
open Go.RowKit in
theorem Tryd.Builder_String_any_k (B b : Nat) (l : List UInt8) (w : World) (h : Lib.IsBuilderF 112 5 B b (Lib.byteCells l) w) (hBw : B ≤ w.heap.size) :
    Calls Tryd.prog 85 #[.pointer (some ⟨b, 0, none⟩)] w fun e w' => e = .returned (.string ⟨l.toArray⟩) ∧ (Lib.IsBuilderF 112 5 B b (Lib.byteCells l) w' ∧ Below B w w' ∧ Lib.OthersKept 5 (some b) w w') := Any.Builder_String_any_k Tryd.lays169 Tryd.Builder_Extra_169 B b l w h hBw
def Tryd.laysM171_ren : Go.Shelf.Ren := ⟨fun | 171 => 95 | 243 => 102 | 246 => 104 | 283 => 105 | 284 => 106 | 285 => 107 | 286 => 108 | 129 => 110 | 317 => 109 | 318 => 111 | 319 => 112 | 320 => 113 | 337 => 114 | 338 => 115 | n => n, fun | 3 => 3 | 9 => 9 | 2 => 2 | 4 => 4 | 171 => 137 | 0 => 0 | 53 => 132 | 37 => 109 | 5 => 5 | 173 => 140 | 212 => 144 | 51 => 129 | 20 => 20 | 213 => 145 | 46 => 120 | 232 => 148 | 233 => 149 | n => n, fun | 17 => 2 | 18 => 3 | 19 => 4 | n => n⟩
theorem Tryd.laysM171 : Go.Proofs.LaysM.n171 Tryd.prog Tryd.laysM171_ren := {
  mixed := by kernel_rfl
  f129 := Tryd.func110.trans (congrArg some (by kernel_rfl))
  f171 := Tryd.func95.trans (congrArg some (by kernel_rfl))
  f243 := Tryd.func102.trans (congrArg some (by kernel_rfl))
  f246 := Tryd.func104.trans (congrArg some (by kernel_rfl))
  f283 := Tryd.func105.trans (congrArg some (by kernel_rfl))
  f284 := Tryd.func106.trans (congrArg some (by kernel_rfl))
  f285 := Tryd.func107.trans (congrArg some (by kernel_rfl))
  f286 := Tryd.func108.trans (congrArg some (by kernel_rfl))
  f317 := Tryd.func109.trans (congrArg some (by kernel_rfl))
  f318 := Tryd.func111.trans (congrArg some (by kernel_rfl))
  f319 := Tryd.func112.trans (congrArg some (by kernel_rfl))
  f320 := Tryd.func113.trans (congrArg some (by kernel_rfl))
  f337 := Tryd.func114.trans (congrArg some (by kernel_rfl))
  f338 := Tryd.func115.trans (congrArg some (by kernel_rfl))
  t0 := Tryd.underlying0
  a0 := Tryd.isAgg0
  z0 := Tryd.sizeOf0
  v0 := Tryd.zeroValue0
  t2 := Tryd.underlying2
  a2 := Tryd.isAgg2
  z2 := Tryd.sizeOf2
  v2 := Tryd.zeroValue2
  t3 := Tryd.underlying3
  a3 := Tryd.isAgg3
  z3 := Tryd.sizeOf3
  v3 := Tryd.zeroValue3
  t4 := Tryd.underlying4
  a4 := Tryd.isAgg4
  z4 := Tryd.sizeOf4
  v4 := Tryd.zeroValue4
  t5 := Tryd.underlying5
  a5 := Tryd.isAgg5
  z5 := Tryd.sizeOf5
  v5 := Tryd.zeroValue5
  t9 := Tryd.underlying9
  a9 := Tryd.isAgg9
  z9 := Tryd.sizeOf9
  v9 := Tryd.zeroValue9
  t20 := Tryd.underlying20
  a20 := Tryd.isAgg20
  z20 := Tryd.sizeOf20
  v20 := Tryd.zeroValue20
  t37 := Tryd.underlying109
  a37 := Tryd.isAgg109
  z37 := Tryd.sizeOf109
  v37 := Tryd.zeroValue109
  t46 := Tryd.underlying120
  a46 := Tryd.isAgg120
  z46 := Tryd.sizeOf120
  v46 := Tryd.zeroValue120
  t51 := Tryd.underlying129
  a51 := Tryd.isAgg129
  z51 := Tryd.sizeOf129
  v51 := Tryd.zeroValue129
  t53 := Tryd.underlying132
  a53 := Tryd.isAgg132
  z53 := Tryd.sizeOf132
  v53 := Tryd.zeroValue132
  t171 := Tryd.underlying137
  a171 := Tryd.isAgg137
  z171 := Tryd.sizeOf137
  v171 := Tryd.zeroValue137
  t173 := Tryd.underlying140
  a173 := Tryd.isAgg140
  z173 := Tryd.sizeOf140
  v173 := Tryd.zeroValue140
  t212 := Tryd.underlying144
  a212 := Tryd.isAgg144
  z212 := Tryd.sizeOf144
  v212 := Tryd.zeroValue144
  t213 := Tryd.underlying145
  a213 := Tryd.isAgg145
  z213 := Tryd.sizeOf145
  t232 := Tryd.underlying148
  a232 := Tryd.isAgg148
  z232 := Tryd.sizeOf148
  v232 := Tryd.zeroValue148
  t233 := Tryd.underlying149
  a233 := Tryd.isAgg149
  z233 := Tryd.sizeOf149
  v233 := Tryd.zeroValue149
  g17 := by kernel_rfl
  g18 := by kernel_rfl
  g19 := by kernel_rfl
  i0 := by kernel_rfl
  i2 := by kernel_rfl
  i3 := by kernel_rfl
  i4 := by kernel_rfl
  i5 := by kernel_rfl
  i9 := by kernel_rfl
  i20 := by kernel_rfl
  i37 := by kernel_rfl
  i46 := by kernel_rfl
  i51 := by kernel_rfl
  i53 := by kernel_rfl
  i171 := by kernel_rfl
  i173 := by kernel_rfl
  i212 := by kernel_rfl
  i232 := by kernel_rfl
  i233 := by kernel_rfl
  m17 := by kernel_rfl
  m18 := by kernel_rfl
  m19 := by kernel_rfl }
open Go.RowKit Go.Sort Go.Lib in
theorem Tryd.strconv_Itoa (n : Int) (h0 : -9223372036854775808 ≤ n) (h1 : n ≤ 9223372036854775807) (w : World) (htab : Lib.TabIs Tryd.prog w "internal/strconv.uint64pow10" .u64 Lib.pow10Tab) :
    Calls Tryd.prog 95 #[.int .i64 n] w fun e w' => e = .returned (.string ⟨(Lib.itoa n).toArray⟩) ∧ ∃ k os, w' = grow (w.drewN k) os := Any.strconv_Itoa Tryd.laysM171 n h0 h1 w htab
def Tryd.lays105_ren : Go.Shelf.Ren := ⟨fun | 105 => 86 | 212 => 91 | 99 => 92 | 165 => 93 | 166 => 84 | 170 => 94 | 169 => 85 | 263 => 98 | 264 => 99 | 206 => 100 | 240 => 90 | 241 => 101 | 276 => 97 | 277 => 103 | n => n, fun | 9 => 9 | 3 => 3 | 4 => 4 | 20 => 20 | 0 => 0 | 46 => 120 | 109 => 121 | 5 => 5 | 72 => 112 | 76 => 115 | 51 => 129 | 146 => 130 | 53 => 132 | 148 => 133 | 70 => 110 | 37 => 109 | 75 => 114 | 127 => 119 | 164 => 127 | 80 => 117 | n => n, fun | n => n⟩
theorem Tryd.lays105 : Go.Proofs.Lays.n105 Tryd.prog Tryd.lays105_ren := {
  mixed := by kernel_rfl
  f99 := Tryd.func92.trans (congrArg some (by kernel_rfl))
  f105 := Tryd.func86.trans (congrArg some (by kernel_rfl))
  f165 := Tryd.func93.trans (congrArg some (by kernel_rfl))
  f166 := Tryd.func84.trans (congrArg some (by kernel_rfl))
  f169 := Tryd.func85.trans (congrArg some (by kernel_rfl))
  f170 := Tryd.func94.trans (congrArg some (by kernel_rfl))
  f206 := Tryd.func100.trans (congrArg some (by kernel_rfl))
  f212 := Tryd.func91.trans (congrArg some (by kernel_rfl))
  f240 := Tryd.func90.trans (congrArg some (by kernel_rfl))
  f241 := Tryd.func101.trans (congrArg some (by kernel_rfl))
  f263 := Tryd.func98.trans (congrArg some (by kernel_rfl))
  f264 := Tryd.func99.trans (congrArg some (by kernel_rfl))
  f276 := Tryd.func97.trans (congrArg some (by kernel_rfl))
  f277 := Tryd.func103.trans (congrArg some (by kernel_rfl))
  t0 := Tryd.underlying0
  a0 := Tryd.isAgg0
  z0 := Tryd.sizeOf0
  v0 := Tryd.zeroValue0
  t3 := Tryd.underlying3
  a3 := Tryd.isAgg3
  z3 := Tryd.sizeOf3
  v3 := Tryd.zeroValue3
  t4 := Tryd.underlying4
  a4 := Tryd.isAgg4
  z4 := Tryd.sizeOf4
  v4 := Tryd.zeroValue4
  t5 := Tryd.underlying5
  a5 := Tryd.isAgg5
  z5 := Tryd.sizeOf5
  v5 := Tryd.zeroValue5
  t9 := Tryd.underlying9
  a9 := Tryd.isAgg9
  z9 := Tryd.sizeOf9
  v9 := Tryd.zeroValue9
  t20 := Tryd.underlying20
  a20 := Tryd.isAgg20
  z20 := Tryd.sizeOf20
  v20 := Tryd.zeroValue20
  t37 := Tryd.underlying109
  a37 := Tryd.isAgg109
  z37 := Tryd.sizeOf109
  v37 := Tryd.zeroValue109
  t46 := Tryd.underlying120
  a46 := Tryd.isAgg120
  z46 := Tryd.sizeOf120
  v46 := Tryd.zeroValue120
  t51 := Tryd.underlying129
  a51 := Tryd.isAgg129
  z51 := Tryd.sizeOf129
  v51 := Tryd.zeroValue129
  t53 := Tryd.underlying132
  a53 := Tryd.isAgg132
  z53 := Tryd.sizeOf132
  v53 := Tryd.zeroValue132
  t70 := Tryd.underlying110
  a70 := Tryd.isAgg110
  z70 := Tryd.sizeOf110
  v70 := Tryd.zeroValue110
  t72 := Tryd.underlying112
  a72 := Tryd.isAgg112
  z72 := Tryd.sizeOf112
  v72 := Tryd.zeroValue112
  t75 := Tryd.underlying114
  a75 := Tryd.isAgg114
  z75 := Tryd.sizeOf114
  v75 := Tryd.zeroValue114
  t76 := Tryd.underlying115
  a76 := Tryd.isAgg115
  z76 := Tryd.sizeOf115
  v76 := Tryd.zeroValue115
  t109 := Tryd.underlying121
  a109 := Tryd.isAgg121
  z109 := Tryd.sizeOf121
  v109 := Tryd.zeroValue121
  t127 := Tryd.underlying119
  a127 := Tryd.isAgg119
  z127 := Tryd.sizeOf119
  v127 := Tryd.zeroValue119
  t146 := Tryd.underlying130
  a146 := Tryd.isAgg130
  z146 := Tryd.sizeOf130
  v146 := Tryd.zeroValue130
  t148 := Tryd.underlying133
  a148 := Tryd.isAgg133
  z148 := Tryd.sizeOf133
  v148 := Tryd.zeroValue133
  t164 := Tryd.underlying127
  a164 := Tryd.isAgg127
  z164 := Tryd.sizeOf127
  v164 := Tryd.zeroValue127 }
theorem Tryd.Builder_Extra_105 : Builder.Extra Tryd.prog Tryd.lays105_ren := {
  sizeBuilder := by kernel_rfl
  liesBuilder := by kernel_rfl
  t5 := Tryd.underlying5
  a5 := Tryd.isAgg5
  z5 := Tryd.sizeOf5
  v5 := Tryd.zeroValue5
  infoByte := by kernel_rfl
  cellsByte := by kernel_rfl
  sizeByte := by kernel_rfl
  neB5 := by decide }
open Go.RowKit Go.Lib in
theorem Tryd.strings_Repeat (s : ByteArray) (c : Nat) (w : World) (hc : c ≤ 9223372036854775807) (hlen : s.size * c ≤ 140737488355328) :
    Calls Tryd.prog 86 #[.string s, .int .i64 c] w fun e w' => e = .returned (.string ⟨(Lib.repeatL s.data.toList c).toArray⟩) ∧ Below w.heap.size w w' := Any.strings_Repeat Tryd.lays105 Tryd.Builder_Extra_105 s c w hc hlen
end Go.Proofs

namespace Go.Proofs.YtbpfabicampdkaaDoor
open Go.RowKit

/-- the decimal numeral of an int -/
def numB (n : Int) : ByteArray := ⟨(Lib.itoa n).toArray⟩
/-- one byte as a text -/
def byteB (c : Int) : ByteArray := ⟨#[UInt8.ofNat c.toNat]⟩

/-- string([]byte{c}), the cell known -/
theorem conv_cell (W : World) (b : Nat) (c : Int) (h : W.cell? ⟨b, 0, none⟩ = some (.int .u8 c)) : (convert 109 9 (.slice (some ⟨b, 0, none⟩) 1 1)).run Tryd.prog W = .ok (.string (byteB c)) W := by
  rw [run_convert_bytes_string _ 109 9 5 _ _ _ Tryd.underlying109 Tryd.underlying5 Tryd.underlying9]
  rw [run_bytesToString _ _ 1 1 [c] ?_]
  · rfl
  · simp [loadCells, loadCellsFrom, go_sem, Addr.add, h]

theorem dec_small (u : Nat) (h : u < 10) : Lib.decDigits u = [UInt8.ofNat (48 + u)] := by rw [Lib.decDigits, dif_pos h]
theorem dec_big (u : Nat) (h : ¬ u < 10) : Lib.decDigits u = Lib.decDigits (u / 10) ++ [UInt8.ofNat (48 + u % 10)] := by rw [Lib.decDigits, dif_neg h]
theorem num_neg_small (n : Int) (h : n < 0) (h1 : -10 < n) : (⟨#[45]⟩ : ByteArray) ++ byteB (48 - n) = numB n := by
  unfold numB byteB Lib.itoa
  rw [if_pos h, dec_small _ (by omega), show (48 - n).toNat = 48 + n.natAbs from by omega]
  apply ByteArray.ext
  simp
theorem num_neg_big (n : Int) (h : n ≤ -10) : numB (n.tdiv 10) ++ byteB (48 - n.tmod 10) = numB n := by
  have hq : n.tdiv 10 = -((n.natAbs / 10 : Nat) : Int) := by
    obtain ⟨m, rfl⟩ : ∃ m : Nat, n = -(m : Int) := ⟨n.natAbs, by omega⟩
    rw [Int.neg_tdiv, Int.natAbs_neg, Int.natAbs_natCast]
    rfl
  have hr : n.tmod 10 = -((n.natAbs % 10 : Nat) : Int) := by
    obtain ⟨m, rfl⟩ : ∃ m : Nat, n = -(m : Int) := ⟨n.natAbs, by omega⟩
    rw [Int.neg_tmod, Int.natAbs_neg, Int.natAbs_natCast]
    rfl
  unfold numB byteB Lib.itoa
  rw [hq, hr, if_pos (by omega), if_pos (by omega), dec_big n.natAbs (by omega), show (48 - -((n.natAbs % 10 : Nat) : Int)).toNat = 48 + n.natAbs % 10 from by omega, show (-((n.natAbs / 10 : Nat) : Int)).natAbs = n.natAbs / 10 from by omega]
  apply ByteArray.ext
  simp
theorem numB_size (n : Int) (k : Nat) (h : n.natAbs < 10 ^ (k + 1)) : (numB n).size ≤ k + 2 := by
  have hd : ∀ (k u : Nat), u < 10 ^ (k + 1) → (Lib.decDigits u).length ≤ k + 1 := by
    intro k
    induction k with
    | zero => intro u hu; rw [dec_small u (by simpa using hu)]; simp
    | succ k ih =>
      intro u hu
      by_cases hs : u < 10
      · rw [dec_small u hs]; simp
      · rw [dec_big u hs, List.length_append]
        have := ih (u / 10) (by rw [Nat.pow_succ] at hu; omega)
        simp; omega
  have e : (numB n).size = (Lib.itoa n).length := rfl
  rw [e]
  unfold Lib.itoa
  split
  · have := hd k n.natAbs h; simp; omega
  · have := hd k n.toNat (by omega); omega

theorem quo_small (n : Int) (h : n < 0) (h1 : -10 < n) : (n.tdiv 10 == 0) = true := by
  rw [beq_iff_eq]
  obtain ⟨m, rfl⟩ : ∃ m : Nat, n = -(m : Int) := ⟨n.natAbs, by omega⟩
  rw [Int.neg_tdiv, Int.tdiv_eq_zero_of_lt (by omega) (by omega)]
  rfl
theorem quo_rem (n : Int) (h : n ≤ 0) : n.tdiv 10 * 10 + n.tmod 10 = n ∧ -9 ≤ n.tmod 10 ∧ n.tmod 10 ≤ 0 := by
  obtain ⟨m, rfl⟩ : ∃ m : Nat, n = -(m : Int) := ⟨n.natAbs, by omega⟩
  have hq : (-(m : Int)).tdiv 10 = -((m / 10 : Nat) : Int) := by rw [Int.neg_tdiv]; rfl
  have hr : (-(m : Int)).tmod 10 = -((m % 10 : Nat) : Int) := by rw [Int.neg_tmod]; rfl
  rw [hq, hr]
  omega

set_option maxHeartbeats 400000 in
set_option maxRecDepth 100000 in
theorem specIntText_negSmall (n : Int) (w : World) (hn : n < 0) (hp : -10 < n) :
    Calls Tryd.prog 83 #[.int .i64 n] w fun e w' => e = .returned (.string (numB n)) ∧ Below w.heap.size w w' := by
  have hcv := conv_cell
  have hq := quo_small n hn hp
  go_enter Tryd.func83, Tryd.ntmps83
  go_wp2
  go_ret
  exact ⟨ret_str (num_neg_small n hn hp), (Below.refl _ _).alloc (Nat.le_refl _) _⟩

set_option maxHeartbeats 1000000 in
set_option maxRecDepth 100000 in
theorem specIntText_neg (k : Nat) : ∀ (n : Int) (w : World), k ≤ 18 → n < 0 → n.natAbs < 10 ^ (k + 1) → -9223372036854775808 ≤ n →
    Calls Tryd.prog 83 #[.int .i64 n] w fun e w' => e = .returned (.string (numB n)) ∧ Below w.heap.size w w' := by
  induction k with
  | zero =>
    intro n w hk hn hp hl
    exact specIntText_negSmall n w hn (by simp at hp; omega)
  | succ k ih =>
    intro n w hk hn hp hl
    have IH := Lib.hid ih
    clear ih
    by_cases hs : -10 < n
    · exact specIntText_negSmall n w hn hs
    · have hcv := conv_cell
      have hqr := quo_rem n (by omega)
      have HF := Lib.hid (num_neg_big n (by omega))
      have hq : (n.tdiv 10 == 0) = false := by rw [beq_eq_false_iff_ne]; omega
      have hpq : (n.tdiv 10).natAbs < 10 ^ (k + 1) := by rw [Nat.pow_succ] at hp; omega
      have hsz := numB_size _ k hpq
      have HC := Lib.hid (fun w' : World => IH.out (n.tdiv 10) w' (by omega) (by omega) hpq (by omega))
      have hbs : ∀ c : Int, (byteB c).size = 1 := fun _ => rfl
      have hcat : ¬ 9223372036854775807 < (numB (n.tdiv 10)).size + 1 := by omega
      have hw1 : IntKind.i64.wrap (n.tdiv 10) = n.tdiv 10 := IntWalk.i64_in _ (by omega)
      have hw2 : IntKind.i64.wrap (n.tmod 10) = n.tmod 10 := IntWalk.i64_in _ (by omega)
      have hw3 : IntKind.i64.wrap (48 - n.tmod 10) = 48 - n.tmod 10 := IntWalk.i64_in _ (by omega)
      have hw4 : IntKind.u8.wrap (48 - n.tmod 10) = 48 - n.tmod 10 := by rw [IntKind.wrap_u8]; omega
      clear hp hpq IH
      go_enter Tryd.func83, Tryd.ntmps83
      go_wp2
      go_region_with (go_at_call 83; refine (HC.out _).mono ?_; rintro e w1 ⟨rfl, hb1⟩; obtain ⟨hc1, hf1⟩ := below_rules hb1)
      all_goals go_wp2
      all_goals go_ret
      all_goals refine ⟨ret_str HF.out, ?_⟩
      all_goals first
        | exact (Below.next (Below.refl _ w).drew hb1).alloc hb1.size _
        | exact Below.next ((Below.refl _ w).drew.alloc (Nat.le_refl _) _) hb1
        | exact Below.next ((Below.refl _ w).alloc (Nat.le_refl _) _).drew hb1

/-- the digits of m ahead of what has been written -/
theorem pos_step (m : Nat) (acc : List UInt8) (h : ¬ m < 10) : Lib.decDigits m ++ acc = Lib.decDigits (m / 10) ++ (UInt8.ofNat (48 + m % 10) :: acc) := by
  rw [dec_big m h, List.append_assoc]
  rfl
theorem byte_app (m : Nat) (acc : List UInt8) : byteB (48 + (m : Int) % 10) ++ (⟨acc.toArray⟩ : ByteArray) = ⟨(UInt8.ofNat (48 + m % 10) :: acc).toArray⟩ := by
  unfold byteB
  rw [show (48 + (m : Int) % 10).toNat = 48 + m % 10 from by omega]
  apply ByteArray.ext
  simp
theorem pos_last (n m : Nat) (acc : List UInt8) (h : m < 10) (hd : Lib.decDigits m ++ acc = Lib.decDigits n) : byteB (48 + (m : Int)) ++ (⟨acc.toArray⟩ : ByteArray) = numB n := by
  unfold byteB numB Lib.itoa
  rw [if_neg (by omega), Int.toNat_natCast, ← hd, dec_small m h, show (48 + (m : Int)).toNat = 48 + m from by omega]
  apply ByteArray.ext
  simp

set_option maxHeartbeats 400000 in
set_option maxRecDepth 100000 in
theorem specIntText_pos (n : Nat) (w : World) (hn : n ≤ 9223372036854775807) :
    Calls Tryd.prog 83 #[.int .i64 n] w fun e w' => e = .returned (.string (numB n)) ∧ Below w.heap.size w w' := by
  have hcv := conv_cell
  have hbs : ∀ c : Int, (byteB c).size = 1 := fun _ => rfl
  have hn0 : ¬ (n : Int) < 0 := by omega
  go_enter Tryd.func83, Tryd.ntmps83
  go_wp2
  go_loopw [0, 3] (fun a o wr => ∃ (m f : Nat) (acc : List UInt8), m < 10 ^ f ∧ acc.length + f ≤ 19 ∧ m ≤ 9223372036854775807 ∧ a = .int .i64 m ∧ o = .string ⟨acc.toArray⟩ ∧ Hid (Lib.decDigits m ++ acc = Lib.decDigits n) ∧ Below w.heap.size w wr) (fun a _ _ => (intOf a).toNat)
  case atStart => exact ⟨n, 19, [], by omega, by simp, by omega, rfl, rfl, Lib.hid (List.append_nil _), Below.refl _ _⟩
  case round =>
    obtain ⟨m, f, acc, hf, hl, hm, rfl, rfl, HD, hb⟩ := hrel
    by_cases hs : m < 10
    · go_wp2
      go_ret
      exact ⟨ret_str (pos_last n m acc hs HD.out), hb.alloc hb.size _⟩
    · have HS := Lib.hid ((pos_step m acc hs).symm.trans HD.out)
      obtain ⟨g, rfl⟩ : ∃ g, f = g + 1 := by
        cases f with
        | zero => simp at hf; omega
        | succ g => exact ⟨g, rfl⟩
      have hg : m / 10 < 10 ^ g := by rw [Nat.pow_succ] at hf; omega
      clear hf
      go_wp2
      go_roundw
      case rel => exact ⟨m / 10, g, _, hg, by simp; omega, by omega, by go_num, by rw [byte_app], HS, hb.alloc hb.size _⟩
      case measure => simp [intOf]; omega

theorem specIntText_any (n : Int) (w : World) (h0 : -9223372036854775808 ≤ n) (h1 : n ≤ 9223372036854775807) :
    Calls Tryd.prog 83 #[.int .i64 n] w fun e w' => e = .returned (.string (numB n)) ∧ Below w.heap.size w w' := by
  by_cases h : n < 0
  · exact specIntText_neg 18 n w (by omega) h (by omega) h0
  · obtain ⟨m, rfl⟩ := Int.eq_ofNat_of_zero_le (show 0 ≤ n by omega)
    exact specIntText_pos m w (by omega)

/-- the table that the library reads is at hand -/
def Tab (w : World) : Prop := Lib.TabIs Tryd.prog w "internal/strconv.uint64pow10" .u64 Lib.pow10Tab
theorem powGlobal : Tryd.prog.globalNamed "internal/strconv.uint64pow10" = some 2 := by kernel_rfl
theorem Tab.lt {w : World} (h : Tab w) : 2 < w.heap.size := by
  unfold Tab Lib.TabIs World.var? at h
  rw [powGlobal] at h
  simp only [Option.bind_some] at h
  split at h
  · rename_i hh; exact (Array.getElem?_eq_some_iff.1 hh).1
  · cases h
theorem Tab.below {w w' : World} (h : Tab w) (hb : Below w.heap.size w w') : Tab w' := by
  have hl := h.lt
  unfold Tab Lib.TabIs World.var? at h ⊢
  rw [powGlobal] at h ⊢
  simp only [Option.bind_some] at h ⊢
  rw [hb.block _ hl]
  exact h
theorem Tab.drewN {w : World} (h : Tab w) (n : Nat) : Tab (w.drewN n) := h

theorem below_grow (w : World) (k : Nat) (os : Array Obj) : Below w.heap.size w (Sort.grow (w.drewN k) os) :=
  ⟨rfl, rfl, rfl, by show w.heap.size ≤ (w.heap ++ os).size; simp, fun i hi => by show (w.heap ++ os)[i]? = _; rw [Array.getElem?_append_left hi]⟩

theorem itoa_any (n : Int) (w : World) (h0 : -9223372036854775808 ≤ n) (h1 : n ≤ 9223372036854775807) (ht : Tab w) :
    Calls Tryd.prog 95 #[.int .i64 n] w fun e w' => e = .returned (.string (numB n)) ∧ Below w.heap.size w w' := by
  refine (Tryd.strconv_Itoa n h0 h1 w ht).mono ?_
  rintro e w' ⟨rfl, k, os, rfl⟩
  exact ⟨rfl, below_grow w k os⟩

set_option maxHeartbeats 400000 in
set_option maxRecDepth 100000 in
theorem implIntText_any (n : Int) (w : World) (h0 : -9223372036854775808 ≤ n) (h1 : n ≤ 9223372036854775807) (ht : Tab w) :
    Calls Tryd.prog 87 #[.int .i64 n] w fun e w' => e = .returned (.string (numB n)) ∧ Below w.heap.size w w' := by
  go_enter Tryd.func87, Tryd.ntmps87
  go_wp2_with fail
  refine (itoa_any n _ h0 h1 ht).mono ?_
  rintro e w1 ⟨rfl, hb⟩
  go_wp2
  go_ret
  exact ⟨rfl, hb⟩
end Go.Proofs.YtbpfabicampdkaaDoor

namespace Go.Proofs.YtbpfabicampdkaaDoor
open Go.RowKit

theorem sizeBuilder : (Tryd.prog.info? 112).map (fun i => i.size) = some 2 := by kernel_rfl
theorem liesBuilder : liesAt Tryd.prog Tryd.prog.depth 112 (2 / Tryd.prog.cellsOf 112) 0 112 1 = true := by kernel_rfl
theorem byteInfo : (Tryd.prog.info? 5).map (fun i => (i.zero, i.size, i.bytes)) = some (some (.int .u8 0), 1, 1) := by kernel_rfl

set_option maxHeartbeats 400000 in
set_option maxRecDepth 100000 in
theorem copyCheck_used (b : Nat) (w : World) (h0 : w.cell? ⟨b, 0, none⟩ = some (.pointer (some ⟨b, 0, none⟩))) :
    Calls Tryd.prog 90 #[.pointer (some ⟨b, 0, none⟩)] w fun e w' => e = .returned (.tuple #[]) ∧ w = w' := by
  obtain ⟨j, hj, _⟩ := Option.map_eq_some_iff.1 sizeBuilder
  go_enter Tryd.func90, Tryd.ntmps90
  go_wp2
  rw [Lib.run_neq_ptr_same w _ Tryd.underlying110 hj]
  go_wp2
  go_end0
  exact ⟨rfl, rfl⟩

set_option maxHeartbeats 400000 in
set_option maxRecDepth 100000 in
theorem copyCheck_fresh (b : Nat) (w : World) (h0 : w.cell? ⟨b, 0, none⟩ = some (.pointer none)) (hsh : w.shape? b = some (112, 2)) (hfz : w.frozen? ⟨b, 0, none⟩ = false) :
    Calls Tryd.prog 90 #[.pointer (some ⟨b, 0, none⟩)] w fun e w' => e = .returned (.tuple #[]) ∧ w.setCell ⟨b, 0, none⟩ (.pointer (some ⟨b, 0, none⟩)) = w' := by
  obtain ⟨j, hj, hjs⟩ := Option.map_eq_some_iff.1 sizeBuilder
  go_enter Tryd.func90, Tryd.ntmps90
  go_wp2
  rw [Lib.run_to_unsafe w ⟨b, 0, none⟩ Tryd.underlying110 Tryd.underlying127 hj (by rw [hjs]; decide) hsh (Nat.zero_lt_succ 1)]
  simp only [Result.andThen]
  rw [Oper.upon_value]
  go_wp2
  rw [run_callFunc_extern Tryd.func97 (by kernel_rfl) (by kernel_rfl) (by kernel_rfl) (e := Extern.AbiNoEscape.same) (by kernel_rfl)]
  rw [Lib.run_noEscape]
  simp only [Result.andThen]
  rw [Oper.upon_value]
  go_wp2
  rw [Lib.run_from_unsafe w ⟨b, 0, none⟩ Tryd.underlying127 Tryd.underlying110 hj hsh liesBuilder]
  simp only [Result.andThen]
  rw [Oper.upon_value]
  go_wp2
  go_end0
  exact ⟨rfl, rfl⟩

/-- a builder of the call's own, with what it holds, and the frame above it -/
def Built (B b : Nat) (bs : List Value) (w w' : World) : Prop := Lib.IsBuilderF 112 5 B b bs w' ∧ Below B w w' ∧ Lib.OthersKept 5 (some b) w w'

theorem copyCheck_any (B b : Nat) (bs : List Value) (w : World) (h : Lib.IsBuilderF 112 5 B b bs w) :
    Calls Tryd.prog 90 #[.pointer (some ⟨b, 0, none⟩)] w fun e w' => e = .returned (.tuple #[]) ∧ Lib.BuilderAtF 112 5 B b (.pointer (some ⟨b, 0, none⟩)) bs w' ∧ Below B w w' ∧ Lib.OthersKept 5 (some b) w w' := by
  rcases h with h | h
  · refine (copyCheck_fresh b w h.cell0 h.shape h.frozen0).mono ?_
    rintro e w' ⟨rfl, rfl⟩
    exact ⟨rfl, h.used _, (Below.refl B w).setCell (p := ⟨b, 0, none⟩) h.1 _, (Lib.OthersKept.refl _ _ w).setCell ⟨b, 0, none⟩ rfl _⟩
  · refine (copyCheck_used b w h.cell0).mono ?_
    rintro e w' ⟨rfl, rfl⟩
    exact ⟨rfl, h, Below.refl B _, Lib.OthersKept.refl _ _ _⟩

set_option maxHeartbeats 1000000 in
set_option maxRecDepth 100000 in
theorem writeString_any (B b : Nat) (bs : List Value) (s : ByteArray) (w : World) (h : Lib.IsBuilderF 112 5 B b bs w) (hlen : bs.length + s.size ≤ 140737488355328) (hBw : B ≤ w.heap.size) :
    Calls Tryd.prog 84 #[.pointer (some ⟨b, 0, none⟩), .string s] w fun e w' => e = .returned (.tuple #[.int .i64 s.size, .nilIface]) ∧ Built B b (bs ++ Lib.strCells s) w w' := by
  obtain ⟨i0, hi, hz0, hz1, hz2⟩ := info_parts byteInfo
  go_enter Tryd.func84, Tryd.ntmps84
  go_wp2_with fail
  refine (copyCheck_any B b bs _ h).mono ?_
  rintro e w1 ⟨rfl, h1, hb1, hk1⟩
  obtain ⟨hB, v, hbk, hown, hne⟩ := h1
  have c1 : w1.cell? ⟨b, 1, none⟩ = some v := by rw [Lib.cell_of_heap hbk]; rfl
  go_wp2_with (at_builtin; refine Lib.wpList_append_own_stringF _ rfl _ _ 109 9 rfl B 5 i0 Tryd.underlying109 Tryd.underlying9 hi hz0 hz1 hz2 _ _ _ rfl hown s rfl ?c3 ?c4 ?c5 ?_)
  case c3 => unfold maxLen; omega
  case c4 => omega
  case c5 => have := hb1.size; omega
  intro v' w2 hown' hgrow _
  have hlt : b < w1.heap.size := (Array.getElem?_eq_some_iff.1 hbk).1
  have hb2 : w2.heap[b]? = some (.cells #[.pointer (some ⟨b, 0, none⟩), v] 112 (0, 0)) := by
    rw [hgrow.block b hlt (fun e => hne e.symm)]
    exact hbk
  have d1 : w2.cell? ⟨b, 1, none⟩ = some v := by rw [Lib.cell_of_heap hb2]; rfl
  have f1 : w2.frozen? ⟨b, 1, none⟩ = false := Lib.frozen_of_heap hb2 1
  obtain ⟨ao, n', cap, rfl⟩ : ∃ ao n' cap, v' = .slice ao n' cap := by
    rcases hown'.2 with ⟨hv, _⟩ | ⟨g, cap, cur, fz, hv, _⟩
    · exact ⟨_, _, _, hv⟩
    · exact ⟨_, _, _, hv⟩
  go_wp2
  go_ret2
  refine ⟨rfl, .inr ?_, ?_, (hk1.grown hgrow (Lib.ownsRowF_kind hown)).setCell ⟨b, 1, none⟩ rfl _⟩
  · exact Lib.BuilderAtF.put hB hb2 (bs' := bs ++ Lib.strCells s) (by simpa [Lib.strCells_length] using hown') (by decide)
  · exact (hb1.grown hgrow (by have := hb1.size; omega) (fun k hk => (hown.lt k hk).1)).setCell (p := ⟨b, 1, none⟩) hB _
end Go.Proofs.YtbpfabicampdkaaDoor

namespace Go.Proofs.YtbpfabicampdkaaDoor
open Go.RowKit

/-- the first k parts with by between them -/
def joinTo (by_ : ByteArray) (ss : List ByteArray) : Nat → List UInt8
  | 0 => []
  | k + 1 => joinTo by_ ss k ++ (if 0 < k then by_.data.toList else []) ++ (ss.getD k ByteArray.empty).data.toList
def joinB (by_ : ByteArray) (ss : List ByteArray) : ByteArray := ⟨(joinTo by_ ss ss.length).toArray⟩

theorem joinTo_length (by_ : ByteArray) (ss : List ByteArray) (hy : by_.size ≤ 1048576) (hs : ∀ s ∈ ss, s.size ≤ 1048576) (k : Nat) : (joinTo by_ ss k).length ≤ k * 2097152 := by
  induction k with
  | zero => simp [joinTo]
  | succ k ih =>
    have h1 : (ss.getD k ByteArray.empty).data.toList.length ≤ 1048576 := by
      rw [List.getD_eq_getElem?_getD]
      by_cases hk : k < ss.length
      · rw [List.getElem?_eq_getElem hk]
        exact hs _ (List.getElem_mem hk)
      · rw [List.getElem?_eq_none (by omega)]
        exact Nat.zero_le _
    have h2 : (if 0 < k then by_.data.toList else []).length ≤ 1048576 := by
      split
      · exact hy
      · exact Nat.zero_le _
    unfold joinTo
    rw [List.length_append, List.length_append]
    omega

theorem joinTo_more (by_ : ByteArray) (ss : List ByteArray) (k : Nat) (h0 : 0 < k) (h : k < ss.length) : joinTo by_ ss (k + 1) = joinTo by_ ss k ++ by_.data.toList ++ ss[k].data.toList := by
  rw [joinTo, if_pos h0, List.getD_eq_getElem?_getD, List.getElem?_eq_getElem h]
  rfl
theorem joinTo_first (by_ : ByteArray) (ss : List ByteArray) (k : Nat) (h0 : ¬ 0 < k) (h : k < ss.length) : joinTo by_ ss (k + 1) = joinTo by_ ss k ++ ss[k].data.toList := by
  rw [joinTo, if_neg h0, List.getD_eq_getElem?_getD, List.getElem?_eq_getElem h, List.append_nil]
  rfl

set_option maxHeartbeats 1000000 in
set_option maxRecDepth 100000 in
theorem joinAll_any (by_ : ByteArray) (v : Value) (ss : List ByteArray) (lo hi : Nat) (w : World) (hhi : hi ≤ w.heap.size) (hn : ss.length ≤ 1048576) (hy : by_.size ≤ 1048576) (hs : ∀ s ∈ ss, s.size ≤ 1048576)
    (hr : Row w lo hi v (ss.map Value.string)) :
    Calls Tryd.prog 70 #[.string by_, v] w fun e w' => e = .returned (.string (joinB by_ ss)) ∧ Below w.heap.size w w' := by
  obtain ⟨A, c, rfl, hA⟩ := hr
  rw [List.length_map]
  have HA := Lib.hid hA
  have HS := Lib.hid hs
  clear hA hs
  go_enter Tryd.func70, Tryd.ntmps70
  go_wp2
  go_loopw [10] (fun i wr => ∃ k : Nat, k ≤ ss.length ∧ i = .int .i64 k ∧ Lib.IsBuilderF 112 5 w.heap.size w.heap.size (Lib.byteCells (joinTo by_ ss k)) wr ∧ Below w.heap.size w wr) (fun i _ => ss.length - (intOf i).toNat)
  case atStart => exact ⟨0, Nat.zero_le _, rfl, .inl ⟨Nat.le_refl _, .slice none 0 0, heap_alloc_new w _, ⟨rfl, .inl ⟨rfl, rfl⟩⟩, by simp [Value.ownBlock]⟩, (Below.refl _ _).alloc (Nat.le_refl _) _⟩
  case round =>
    obtain ⟨k, hk, rfl, hB, hb⟩ := hrel
    have hjl := joinTo_length by_ ss hy HS.out k
    by_cases hlt : k < ss.length
    · obtain ⟨a, rfl, _, hab, hca⟩ := HA.out k (.string ss[k]) (by simp [hlt])
      have hca' : wr.cell? (a.add k) = some (.string ss[k]) := (hb.cell (by rw [block_add]; omega)).trans hca
      clear hca
      have hsk : ss[k].size ≤ 1048576 := HS.out _ (List.getElem_mem hlt)
      by_cases h0 : 0 < k
      · have HJ := Lib.hid (joinTo_more by_ ss k h0 hlt)
        go_wp2_with fail
        refine (writeString_any w.heap.size w.heap.size _ by_ _ hB (by rw [Lib.byteCells_length]; omega) hb.size).mono ?_
        rintro e w1 ⟨rfl, hB1, hb1, _⟩
        go_wp2_with fail
        refine (writeString_any w.heap.size w.heap.size _ ss[k] _ hB1 (by rw [List.length_append, Lib.byteCells_length, Lib.strCells_length]; omega) (by have := hb.size; have := hb1.size; omega)).mono ?_
        rintro e w2 ⟨rfl, hB2, hb2, _⟩
        rw [Lib.strCells_eq, Lib.strCells_eq, ← Lib.byteCells_append, ← Lib.byteCells_append] at hB2
        go_wp2
        go_roundw
        case rel => exact ⟨k + 1, by omega, by go_num, by rw [HJ.out]; exact hB2, (hb.trans hb1).trans hb2⟩
        case measure => simp [intOf]; omega
      · have HJ := Lib.hid (joinTo_first by_ ss k h0 hlt)
        go_wp2_with fail
        refine (writeString_any w.heap.size w.heap.size _ ss[k] _ hB (by rw [Lib.byteCells_length]; omega) hb.size).mono ?_
        rintro e w1 ⟨rfl, hB1, hb1, _⟩
        rw [Lib.strCells_eq, ← Lib.byteCells_append] at hB1
        go_wp2
        go_roundw
        case rel => exact ⟨k + 1, by omega, by go_num, by rw [HJ.out]; exact hB1, hb.trans hb1⟩
        case measure => simp [intOf]; omega
    · obtain rfl : k = ss.length := by omega
      go_wp2_with fail
      refine (Tryd.Builder_String_any_k w.heap.size w.heap.size _ _ hB hb.size).mono ?_
      rintro e w1 ⟨rfl, _, hb1, _⟩
      go_wp2
      go_ret
      exact ⟨rfl, hb.trans hb1⟩

theorem app_one (acc : List UInt8) (b : ByteArray) : (⟨acc.toArray⟩ : ByteArray) ++ b = ⟨(acc ++ b.data.toList).toArray⟩ := by
  apply ByteArray.ext
  simp
theorem app_two (acc : List UInt8) (a b : ByteArray) : (⟨acc.toArray⟩ : ByteArray) ++ a ++ b = ⟨(acc ++ a.data.toList ++ b.data.toList).toArray⟩ := by
  rw [app_one, app_one]

set_option maxHeartbeats 400000 in
set_option maxRecDepth 100000 in
theorem implJoin_any (v : Value) (by_ : ByteArray) (ss : List ByteArray) (lo hi : Nat) (w : World) (hhi : hi ≤ w.heap.size) (hn : ss.length ≤ 1048576) (hy : by_.size ≤ 1048576) (hs : ∀ s ∈ ss, s.size ≤ 1048576)
    (hr : Row w lo hi v (ss.map Value.string)) :
    Calls Tryd.prog 48 #[v, .string by_] w fun e w' => e = .returned (.string (joinB by_ ss)) ∧ Below w.heap.size w w' := by
  have HS := Lib.hid hs
  clear hs
  go_enter Tryd.func48, Tryd.ntmps48
  go_wp2_with fail
  refine (joinAll_any by_ v ss lo hi _ hhi hn hy HS.out hr).mono ?_
  rintro e w1 ⟨rfl, hb⟩
  go_wp2
  go_ret
  exact ⟨rfl, hb⟩

end Go.Proofs.YtbpfabicampdkaaDoor

namespace Go.Proofs.YtbpfabicampdkaaDoor
open Go.RowKit

/-- zeros ahead of a text -/
def padB (s : ByteArray) (n : Int) : ByteArray := ⟨(List.replicate (n.toNat - s.size) (48 : UInt8) ++ s.data.toList).toArray⟩

theorem padB_same (s : ByteArray) (n : Int) (h : n ≤ s.size) : padB s n = s := by
  unfold padB
  rw [show n.toNat - s.size = 0 from by omega]
  apply ByteArray.ext
  simp
theorem padB_step (s : ByteArray) (n : Int) (h : (s.size : Int) < n) : padB ((⟨#[48]⟩ : ByteArray) ++ s) n = padB s n := by
  have e : n.toNat - s.size = (n.toNat - (s.size + 1)) + 1 := by omega
  have hsz : ((⟨#[48]⟩ : ByteArray) ++ s).size = s.size + 1 := by rw [ByteArray.size_append]; show 1 + s.size = _; omega
  unfold padB
  rw [hsz, e, List.replicate_succ']
  apply ByteArray.ext
  simp
theorem repeat_zero (c : Nat) : Lib.repeatL [48] c = List.replicate c 48 := by
  induction c with
  | zero => rfl
  | succ c ih => rw [Lib.repeatL, ih, List.replicate_succ]; rfl
/-- so many zeros -/
def zerosB (m : Int) : ByteArray := ⟨(List.replicate m.toNat (48 : UInt8)).toArray⟩
theorem zerosB_size (m : Int) : (zerosB m).size = m.toNat := by
  unfold zerosB
  show (List.replicate m.toNat (48 : UInt8)).toArray.size = _
  simp
def strSize : Value → Nat
  | .string t => t.size
  | _ => 0
theorem size_zero_app (t : ByteArray) : ((⟨#[48]⟩ : ByteArray) ++ t).size = t.size + 1 := by
  rw [ByteArray.size_append]
  show 1 + t.size = _
  omega
theorem repeat_any (m : Int) (w : World) (h0 : 0 ≤ m) (h1 : m ≤ 2000) :
    Calls Tryd.prog 86 #[.string ⟨#[48]⟩, .int .i64 m] w fun e w' => e = .returned (.string (zerosB m)) ∧ Below w.heap.size w w' := by
  obtain ⟨c, rfl⟩ := Int.eq_ofNat_of_zero_le h0
  refine (Tryd.strings_Repeat ⟨#[48]⟩ c w (by omega) (by show 1 * c ≤ _; omega)).mono fun e w' ⟨he, hb⟩ => ⟨?_, hb⟩
  rw [he]
  exact ret_str (by rw [zerosB, Int.toNat_natCast, ← repeat_zero])
theorem join_pad (s : ByteArray) (n : Int) (h : (s.size : Int) < n) : joinB ⟨#[]⟩ [zerosB (n - s.size), s] = padB s n := by
  unfold joinB padB zerosB
  rw [show (n - s.size).toNat = n.toNat - s.size from by omega]
  simp [joinTo]

set_option maxHeartbeats 400000 in
set_option maxRecDepth 100000 in
theorem specPad_any (s : ByteArray) (n : Int) (w : World) (hs : s.size ≤ 1048576) (hn : n ≤ 2000) :
    Calls Tryd.prog 68 #[.string s, .int .i64 n] w fun e w' => e = .returned (.string (padB s n)) ∧ w = w' := by
  go_enter Tryd.func68, Tryd.ntmps68
  go_wp2
  go_loop [0] (fun a => ∃ t : ByteArray, t.size ≤ 1048576 ∧ a = .string t ∧ Hid (padB t n = padB s n)) (fun a => n.toNat - strSize a)
  case atStart => exact ⟨s, hs, rfl, Lib.hid rfl⟩
  case round =>
    obtain ⟨t, ht, rfl, HP⟩ := hrel
    by_cases hlt : (t.size : Int) < n
    · have HS := Lib.hid (padB_step t n hlt)
      have HZ := Lib.hid (size_zero_app t)
      go_wp2
      go_round
      case rel => exact ⟨_, by rw [HZ.out]; omega, rfl, Lib.hid (HS.out.trans HP.out)⟩
      case measure => simp only [strSize, HZ.out]; omega
    · go_wp2
      go_ret
      exact ⟨ret_str (by rw [← HP.out, padB_same t n (by omega)]), rfl⟩

set_option maxHeartbeats 400000 in
set_option maxRecDepth 100000 in
theorem implPad_any (s : ByteArray) (n : Int) (w : World) (hs : s.size ≤ 1048576) (hn : n ≤ 2000) (h63 : -9223372036854775808 ≤ n) :
    Calls Tryd.prog 72 #[.string s, .int .i64 n] w fun e w' => e = .returned (.string (padB s n)) ∧ Below w.heap.size w w' := by
  by_cases hlt : (s.size : Int) < n
  · go_enter Tryd.func72, Tryd.ntmps72
    go_wp2_with fail
    refine (repeat_any _ _ (by omega) (by omega)).mono ?_
    rintro e w1 ⟨rfl, hb1⟩
    have hz1 := hb1.size
    have hzs := Lib.hid (zerosB_size (n - s.size))
    go_wp2_with fail
    refine (joinAll_any ⟨#[]⟩ _ [zerosB (n - s.size), s] w1.heap.size (w1.heap.size + 1) _ (by simp) (by simp) (by decide) ?_ (Row.lit2 _ _ _ _)).mono ?_
    · intro x hx
      rcases List.mem_cons.1 hx with rfl | hx
      · rw [hzs.out]; omega
      · rw [List.mem_singleton.1 hx]; exact hs
    rintro e w2 ⟨rfl, hb2⟩
    go_wp2
    go_ret
    exact ⟨ret_str (join_pad s n hlt), Below.next (hb1.alloc (by omega) _) hb2⟩
  · go_enter Tryd.func72, Tryd.ntmps72
    go_wp2
    go_ret
    exact ⟨ret_str (padB_same s n (by omega)).symm, Below.refl _ _⟩

set_option maxHeartbeats 400000 in
set_option maxRecDepth 100000 in
theorem specPad_big (s : ByteArray) (n : Int) (w : World) (hn : 2000 < n) :
    Calls Tryd.prog 68 #[.string s, .int .i64 n] w fun e w' => e = .returned (.string s) ∧ w = w' := by
  go_enter Tryd.func68, Tryd.ntmps68
  go_wp2
  go_ret
  exact ⟨rfl, rfl⟩
set_option maxHeartbeats 400000 in
set_option maxRecDepth 100000 in
theorem implPad_big (s : ByteArray) (n : Int) (w : World) (_hs : s.size ≤ 1048576) (hn : 2000 < n) :
    Calls Tryd.prog 72 #[.string s, .int .i64 n] w fun e w' => e = .returned (.string s) ∧ w = w' := by
  by_cases hlt : (s.size : Int) < n
  · go_enter Tryd.func72, Tryd.ntmps72
    go_wp2
    go_ret
    exact ⟨rfl, rfl⟩
  · go_enter Tryd.func72, Tryd.ntmps72
    go_wp2
    go_ret
    exact ⟨rfl, rfl⟩

end Go.Proofs.YtbpfabicampdkaaDoor

namespace Go.Proofs.YtbpfabicampdkaaDoor
open Go.RowKit

/-- the decimal text of limbs, the least first -/
def natT : List Int → ByteArray
  | [] => ⟨#[48]⟩
  | [d] => numB d
  | d :: e :: r => natT (e :: r) ++ padB (numB d) 9
/-- what NatText answers -/
def natTextB (a : List Int) : ByteArray := if natOkB a = true then natT a else ⟨#[]⟩
theorem padB_size (s : ByteArray) (n : Nat) (h : s.size ≤ n) (n9 : (9 : Int) ≤ n) : (padB s 9).size ≤ n := by
  unfold padB
  show (List.toArray _).size ≤ n
  rw [List.size_toArray, List.length_append, List.length_replicate]
  have : s.data.toList.length = s.size := rfl
  omega
theorem limb_size {d : Int} (h : 0 ≤ d ∧ d ≤ 999999999) : (numB d).size ≤ 10 := numB_size d 8 (by omega)
theorem natT_size (a : List Int) (h : DigN a) : (natT a).size ≤ 10 * a.length + 1 := by
  induction a with
  | nil => unfold natT; decide
  | cons d r ih =>
    have hd := limb_size (h d (by simp))
    cases r with
    | nil => unfold natT; simp; omega
    | cons e r =>
      have hp := padB_size _ 10 hd (by omega)
      have := ih (fun x hx => h x (by simp at hx ⊢; exact .inr hx))
      unfold natT
      rw [ByteArray.size_append]
      simp only [List.length_cons] at *
      omega
theorem natT_step (a : List Int) (i : Nat) (h : i + 1 < a.length) : natT (a.drop i) = natT (a.drop (i + 1)) ++ padB (numB a[i]) 9 := by
  rw [List.drop_eq_getElem_cons (show i < a.length by omega), List.drop_eq_getElem_cons h]
  rfl
theorem natT_last (a : List Int) (h : 0 < a.length) : natT (a.drop (a.length - 1)) = numB (a[a.length - 1]) := by
  rw [List.drop_eq_getElem_cons (show a.length - 1 < a.length by omega), List.drop_eq_nil_of_le (by omega)]
  rfl

set_option maxHeartbeats 1000000 in
set_option maxRecDepth 100000 in
theorem specNatText_any (v : Value) (a : List Int) (lo hi : Nat) (w : World) (hl : a.length ≤ 1048576) (hhi : hi ≤ w.heap.size) (hr : Row w lo hi v (intsV a)) :
    Calls Tryd.prog 69 #[v] w fun e w' => e = .returned (.string (natTextB a)) ∧ Below w.heap.size w w' := by
  by_cases ok : natOkB a = true
  · have HV := Lib.hid (show natTextB a = natT a by unfold natTextB; rw [if_pos ok])
    have pa := natOk_parts ok
    by_cases h0 : a.length = 0
    · have HA := Lib.hid (show a = [] from List.length_eq_zero_iff.1 h0)
      have H0 := Lib.hid h0
      clear h0
      have hr0 := hr
      obtain ⟨A, c, rfl, _⟩ := hr
      rw [intsV_length] at hr0 ⊢
      go_enter Tryd.func69, Tryd.ntmps69
      go_wp2_with fail
      refine (specNatOk_any _ a lo hi _ hl hr0).mono ?_
      rintro e w' ⟨rfl, rfl⟩
      rw [ok]
      have h0 := H0.out
      go_wp2
      go_ret
      exact ⟨by rw [HV.out, HA.out]; rfl, Below.refl _ _⟩
    · have hr0 := hr
      obtain ⟨A, c, rfl, hA⟩ := hr
      obtain ⟨ad, rfl, hlo, hbh, _⟩ := hA 0 _ (intsV_at a 0 (by omega))
      have HA := Lib.hid hA
      have PA := Lib.hid pa.1
      have h50 := pa.2.1
      have hlim := pa.1 a[a.length - 1] (List.getElem_mem _)
      have hc1 : w.cell? (ad.add (a.length - 1)) = some (.int .i64 a[a.length - 1]) := by
        obtain ⟨_, e, _, _, h⟩ := hA (a.length - 1) _ (intsV_at a (a.length - 1) (by omega))
        cases e
        exact h
      have hix : ((a.length : Int) - 1).toNat = a.length - 1 := by omega
      clear hA
      rw [intsV_length] at hr0 ⊢
      go_enter Tryd.func69, Tryd.ntmps69
      go_wp2_with fail
      refine (specNatOk_any _ a lo hi _ hl hr0).mono ?_
      rintro e w' ⟨rfl, rfl⟩
      rw [ok]
      go_wp2_with fail
      refine (specIntText_any _ _ (by omega) (by omega)).mono ?_
      rintro e w1 ⟨rfl, b1⟩
      have HL := Lib.hid (natT_last a (by omega))
      go_wp2
      go_loopw [3, 4] (fun s i wr => ∃ k : Nat, k < a.length ∧ i = .int .i64 ((k : Int) - 1) ∧ s = .string (natT (a.drop k)) ∧ Below w.heap.size w wr) (fun _ i _ => (intOf i + 1).toNat)
      case atStart => exact ⟨a.length - 1, by omega, by congr 1; omega, by rw [HL.out], b1⟩
      case round =>
        obtain ⟨k, hk, rfl, rfl, hb⟩ := hrel
        by_cases hk0 : 0 < k
        · obtain ⟨j, rfl⟩ : ∃ j, k = j + 1 := ⟨k - 1, by omega⟩
          have hcj : wr.cell? (ad.add j) = some (.int .i64 a[j]) := by
            obtain ⟨_, e, _, _, h⟩ := HA.out j _ (intsV_at a j (by omega))
            cases e
            exact (hb.cell (by rw [block_add]; omega)).trans h
          have hj := PA.out a[j] (List.getElem_mem _)
          have hsz := natT_size (a.drop (j + 1)) (fun x hx => PA.out x (List.mem_of_mem_drop hx))
          have hps := padB_size _ 10 (limb_size hj) (by omega)
          have hls := limb_size hj
          rw [List.length_drop] at hsz
          have HSt := Lib.hid (natT_step a j hk)
          have e1 : (((j + 1 : Nat) : Int) - 1) = (j : Int) := by omega
          rw [e1]
          go_wp2_with fail
          refine (specIntText_any _ _ (by omega) (by omega)).mono ?_
          rintro e w2 ⟨rfl, b2⟩
          go_wp2_with fail
          refine (specPad_any _ _ _ (by omega) (by omega)).mono ?_
          rintro e w' ⟨rfl, rfl⟩
          go_wp2
          exact ⟨⟨j, by omega, rfl, by rw [HSt.out], Below.next hb b2⟩, by simp [intOf]⟩
        · go_wp2
          go_ret
          exact ⟨ret_str (by rw [HV.out, show k = 0 by omega]; rfl), hb⟩
  · have HV := Lib.hid (show natTextB a = ⟨#[]⟩ by unfold natTextB; rw [if_neg ok])
    have okf : natOkB a = false := by simpa using ok
    have hr0 := hr
    obtain ⟨A, c, rfl, _⟩ := hr
    rw [intsV_length] at hr0 ⊢
    go_enter Tryd.func69, Tryd.ntmps69
    go_wp2_with fail
    refine (specNatOk_any _ a lo hi _ hl hr0).mono ?_
    rintro e w' ⟨rfl, rfl⟩
    rw [okf]
    go_wp2
    go_ret
    exact ⟨ret_str HV.out.symm, Below.refl _ _⟩

/-- what NatDigits answers -/
def natDigB (a : List Int) : Int := if natOkB a = true ∧ a.length ≠ 0 then (natTextB a).size else 0
theorem natTextB_size (a : List Int) : (natTextB a).size ≤ 501 := by
  unfold natTextB
  split
  · rename_i h
    have hp := natOk_parts h
    have := natT_size a hp.1
    omega
  · show 0 ≤ 501
    omega
end Go.Proofs.YtbpfabicampdkaaDoor

namespace Go.Proofs.YtbpfabicampdkaaDoor
open Go.RowKit

/-- one byte in one of two ranges -/
def inTwo (lo hi low high : Nat) (c : UInt8) : Bool := decide ((lo ≤ c.toNat ∧ c.toNat ≤ hi) ∨ (low ≤ c.toNat ∧ c.toNat ≤ high))
/-- every byte from place k on is in one of two ranges -/
def allFrom (s : ByteArray) (lo hi low high k : Nat) : Bool := (s.data.toList.drop k).all (inTwo lo hi low high)

theorem allFrom_step (s : ByteArray) (lo hi low high k : Nat) (h : k < s.size) : allFrom s lo hi low high k = (inTwo lo hi low high s[k] && allFrom s lo hi low high (k + 1)) := by
  unfold allFrom
  rw [List.drop_eq_getElem_cons (by simpa using h)]
  rfl
theorem allFrom_end (s : ByteArray) (lo hi low high k : Nat) (h : ¬ k < s.size) : allFrom s lo hi low high k = true := by
  unfold allFrom
  rw [List.drop_eq_nil_of_le (by simp; omega)]
  rfl

theorem allFrom_yes (s : ByteArray) (lo hi low high k : Nat) (h : k < s.size) (hb : (lo ≤ s[k].toNat ∧ s[k].toNat ≤ hi) ∨ (low ≤ s[k].toNat ∧ s[k].toNat ≤ high)) : allFrom s lo hi low high (k + 1) = allFrom s lo hi low high k := by
  rw [allFrom_step s lo hi low high k h]
  simp [inTwo, hb]
theorem allFrom_no (s : ByteArray) (lo hi low high k : Nat) (h : k < s.size) (hb : ¬ ((lo ≤ s[k].toNat ∧ s[k].toNat ≤ hi) ∨ (low ≤ s[k].toNat ∧ s[k].toNat ≤ high))) : allFrom s lo hi low high k = false := by
  rw [allFrom_step s lo hi low high k h]
  simp [inTwo, hb]


/-- what IsDigits, IsWord and IsCode of the document ask -/
def digitsB (s : ByteArray) : Bool := allFrom s 48 57 48 57 0 && decide (0 < s.size)
def wordB (s : ByteArray) : Bool := allFrom s 97 122 48 57 0 && decide (0 < s.size) && decide (s.size ≤ 12) && decide (97 ≤ (s.data.toList.headD 0).toNat)
def codeB (s : ByteArray) : Bool := allFrom s 65 90 65 90 0 && decide (s.size = 3)


/-- a rune in a range -/
def bet (lo hi r : Int) : Bool := decide (lo ≤ r ∧ r ≤ hi)
theorem bet_yes {lo hi r : Int} (h1 : lo ≤ r) (h2 : r ≤ hi) : bet lo hi r = true := by simp [bet, h1, h2]
theorem bet_no {lo hi r : Int} (h : ¬ (lo ≤ r ∧ r ≤ hi)) : bet lo hi r = false := by simpa [bet] using h


/-- a byte that is no ASCII is in no range below 128 -/
theorem allFrom_high (s : ByteArray) (lo hi low high k : Nat) (h : k < s.size) (hh : 128 ≤ s[k].toNat) (h1 : hi < 128) (h2 : high < 128) : allFrom s lo hi low high k = false :=
  allFrom_no s lo hi low high k h (by omega)

theorem isEmpty_size (s : ByteArray) : s.toList.isEmpty = decide (s.size = 0) := by
  rw [ByteArray.toList_eq]
  obtain ⟨⟨l⟩⟩ := s
  cases l with
  | nil => rfl
  | cons a r => simp [ByteArray.size]


theorem fin_digits (s : ByteArray) (h : allFrom s 48 57 48 57 0 = true) : (!s.toList.isEmpty) = digitsB s := by
  rw [isEmpty_size, digitsB, h, Bool.true_and, ← decide_not]
  exact decide_eq_decide.2 (by omega)
theorem no_digits (s : ByteArray) (h : allFrom s 48 57 48 57 0 = false) : false = digitsB s := by rw [digitsB, h]; rfl
theorem int_beq (n k : Nat) : ((n : Int) == (k : Int)) = decide (n = k) := by
  by_cases h : n = k
  · subst h; simp
  · rw [decide_eq_false h, beq_eq_false_iff_ne]; omega
theorem fin_code (s : ByteArray) (h : allFrom s 65 90 65 90 0 = true) : ((s.size : Int) == 3) = codeB s := by
  rw [codeB, h, Bool.true_and]
  exact int_beq s.size 3
theorem no_code (s : ByteArray) (h : allFrom s 65 90 65 90 0 = false) : false = codeB s := by rw [codeB, h]; rfl



theorem no_code2 (s : ByteArray) (h : (allFrom s 65 90 65 90 0 && decide (0 < s.size)) = false) : false = codeB s := by
  rcases Bool.and_eq_false_iff.1 h with h | h
  · exact no_code s h
  · have h' := of_decide_eq_false h
    rw [codeB, decide_eq_false (show ¬ s.size = 3 by omega), Bool.and_false]
theorem yes_code2 (s : ByteArray) (h : (allFrom s 65 90 65 90 0 && decide (0 < s.size)) = true) : allFrom s 65 90 65 90 0 = true := (Bool.and_eq_true_iff.1 h).1


theorem head_get (s : ByteArray) (h : 0 < s.size) : s.data.toList.headD 0 = s[0] := by
  obtain ⟨⟨l⟩⟩ := s
  cases l with
  | nil => simp [ByteArray.size] at h
  | cons a r => rfl
theorem no_word_all (s : ByteArray) (h : allFrom s 97 122 48 57 0 = false) : false = wordB s := by simp [wordB, h]
theorem no_word_two (s : ByteArray) (h : (allFrom s 97 122 48 57 0 && decide (0 < s.size)) = false) : false = wordB s := by simp only [wordB, h, Bool.false_and]
theorem no_word_len (s : ByteArray) (h : ¬ s.size ≤ 12) : false = wordB s := by simp [wordB, h]
theorem no_word_nil (s : ByteArray) (h : ¬ 0 < s.size) : false = wordB s := by simp [wordB, h]
theorem no_word_head (s : ByteArray) (h0 : 0 < s.size) (h : ¬ 97 ≤ s[0].toNat) : false = wordB s := by
  rw [wordB, head_get s h0, decide_eq_false h, Bool.and_false]
theorem word_head (s : ByteArray) (h0 : 0 < s.size) (h1 : s.size ≤ 12) (h : allFrom s 97 122 48 57 0 = true) : decide (97 ≤ s[0].toNat) = wordB s := by
  rw [wordB, head_get s h0, h, decide_eq_true h0, decide_eq_true h1]
  simp
theorem word_head' (s : ByteArray) (h0 : 0 < s.size) (h1 : s.size ≤ 12) (h : allFrom s 97 122 48 57 0 = true) : decide ((97 : Int) ≤ (s[0].toNat : Int)) = wordB s := by
  rw [← word_head s h0 h1 h]
  exact decide_eq_decide.2 (by omega)
theorem yes_word (s : ByteArray) (h0 : 0 < s.size) (h1 : s.size ≤ 12) (h : allFrom s 97 122 48 57 0 = true) (hh : 97 ≤ s[0].toNat) : true = wordB s := by
  rw [← word_head s h0 h1 h, decide_eq_true hh]


end Go.Proofs.YtbpfabicampdkaaDoor

namespace Go.Proofs.YtbpfabicampdkaaDoor
open Go.RowKit

/-- the number that digits spell -/
def valL : List UInt8 → Int := List.foldl (fun a c => a * 10 + ((c.toNat : Int) - 48)) 0
theorem valL_snoc (l : List UInt8) (c : UInt8) : valL (l ++ [c]) = valL l * 10 + ((c.toNat : Int) - 48) := by
  unfold valL
  rw [List.foldl_append]
  rfl
/-- all are digits -/
def DigL (l : List UInt8) : Prop := ∀ c ∈ l, 48 ≤ c.toNat ∧ c.toNat ≤ 57
theorem fold_ge (l : List UInt8) : ∀ a : Int, DigL l → 0 ≤ a → a ≤ List.foldl (fun a c => a * 10 + ((c.toNat : Int) - 48)) a l := by
  induction l with
  | nil => intro a _ _; exact Int.le_refl _
  | cons c l ih =>
    intro a h h0
    have hc := h c (by simp)
    have h1 := ih (a * 10 + ((c.toNat : Int) - 48)) (fun x hx => h x (by simp [hx])) (by omega)
    rw [List.foldl_cons]
    omega
theorem valL_nonneg (l : List UInt8) (h : DigL l) : 0 ≤ valL l := fold_ge l 0 h (Int.le_refl _)
theorem valL_mono (l r : List UInt8) (h : DigL (l ++ r)) : valL l ≤ valL (l ++ r) := by
  have h0 := valL_nonneg l (fun x hx => h x (by simp [hx]))
  have h1 := fold_ge r (valL l) (fun x hx => h x (by simp [hx])) h0
  unfold valL at h1 ⊢
  rw [List.foldl_append]
  exact h1
theorem allFrom_dig (s : ByteArray) : allFrom s 48 57 48 57 0 = true ↔ DigL s.data.toList := by
  unfold allFrom DigL
  rw [List.drop_zero, List.all_eq_true]
  constructor
  · intro h c hc
    have := h c hc
    simp [inTwo] at this
    omega
  · intro h c hc
    have := h c hc
    simp [inTwo]
    omega
theorem digitsB_iff (s : ByteArray) : digitsB s = true ↔ DigL s.data.toList ∧ s.data.toList ≠ [] := by
  unfold digitsB
  rw [Bool.and_eq_true, allFrom_dig, decide_eq_true_eq]
  constructor
  · intro ⟨h1, h2⟩
    exact ⟨h1, fun e => by have : s.data.toList.length = s.size := rfl; rw [e] at this; simp at this; omega⟩
  · intro ⟨h1, h2⟩
    refine ⟨h1, ?_⟩
    have : s.data.toList.length = s.size := rfl
    have := List.length_pos_iff.2 h2
    omega

theorem take_val (s : ByteArray) (k : Nat) (h : k < s.size) : valL (s.data.toList.take (k + 1)) = valL (s.data.toList.take k) * 10 + ((s[k].toNat : Int) - 48) := by
  rw [List.take_succ_eq_append_getElem (by simpa using h), valL_snoc]
  rfl
theorem dig_at (s : ByteArray) (k : Nat) (h : k < s.size) (hd : DigL s.data.toList) : 48 ≤ s[k].toNat ∧ s[k].toNat ≤ 57 := hd _ (by simp [ByteArray.getElem_eq_getElem_data])
end Go.Proofs.YtbpfabicampdkaaDoor

namespace Go.Proofs.YtbpfabicampdkaaDoor
open Go.RowKit

theorem fold_lt (l : List UInt8) : ∀ a : Int, DigL l → 0 ≤ a → List.foldl (fun a c => a * 10 + ((c.toNat : Int) - 48)) a l + 1 ≤ (a + 1) * 10 ^ l.length := by
  induction l with
  | nil => intro a _ _; simp
  | cons c l ih =>
    intro a h h0
    have hc := h c (by simp)
    have h1 := ih (a * 10 + ((c.toNat : Int) - 48)) (fun x hx => h x (by simp [hx])) (by omega)
    have hp : (0 : Int) ≤ 10 ^ l.length := Int.le_of_lt (Int.pow_pos (by omega))
    have h2 : (a * 10 + ((c.toNat : Int) - 48) + 1) * 10 ^ l.length ≤ ((a + 1) * 10) * 10 ^ l.length := Int.mul_le_mul_of_nonneg_right (by omega) hp
    rw [List.foldl_cons, List.length_cons, Int.pow_succ, Int.mul_comm (10 ^ l.length) 10, ← Int.mul_assoc]
    omega
theorem valL_nine (l : List UInt8) (h : DigL l) (hl : l.length ≤ 9) : valL l ≤ 999999999 := by
  have h1 := fold_lt l 0 h (by omega)
  have h2 : (10 : Int) ^ l.length ≤ 10 ^ 9 := by
    have : (10 : Nat) ^ l.length ≤ 10 ^ 9 := Nat.pow_le_pow_right (by omega) hl
    exact_mod_cast this
  unfold valL
  omega
theorem fold_app (l : List UInt8) : ∀ a : Int, List.foldl (fun a c => a * 10 + ((c.toNat : Int) - 48)) a l = a * 10 ^ l.length + valL l := by
  induction l with
  | nil => intro a; simp [valL]
  | cons c l ih =>
    intro a
    have e : valL (c :: l) = ((c.toNat : Int) - 48) * 10 ^ l.length + valL l := by
      show List.foldl _ (0 * 10 + ((c.toNat : Int) - 48)) l = _
      rw [ih, Int.zero_mul, Int.zero_add]
    rw [List.foldl_cons, ih, e, Int.add_mul, List.length_cons, Int.pow_succ, Int.mul_comm (10 ^ l.length) 10, Int.mul_assoc]
    omega
theorem valL_app (x g : List UInt8) : valL (x ++ g) = valL x * 10 ^ g.length + valL g := by
  show List.foldl _ 0 (x ++ g) = _
  rw [List.foldl_append, fold_app]
  rfl
/-- nine digits at once, from the end -/
def groups (l : List UInt8) (e : Nat) : List Int := if h : e = 0 then [] else valL ((l.take e).drop (e - 9)) :: groups l (e - 9)
termination_by e
decreasing_by omega
theorem groups_zero (l : List UInt8) : groups l 0 = [] := by rw [groups, dif_pos rfl]
theorem groups_pos (l : List UInt8) (e : Nat) (h : e ≠ 0) : groups l e = valL ((l.take e).drop (e - 9)) :: groups l (e - 9) := by rw [groups, dif_neg h]
theorem dig_part (l : List UInt8) (h : DigL l) (a b : Nat) : DigL ((l.take a).drop b) := fun c hc => h c (List.mem_of_mem_take (List.mem_of_mem_drop hc))
theorem groups_val (l : List UInt8) (h : DigL l) (e : Nat) : e ≤ l.length → nval (groups l e) = valL (l.take e) ∧ DigN (groups l e) ∧ (groups l e).length ≤ e := by
  induction e using Nat.strongRecOn with
  | _ e ih =>
    intro he
    by_cases h0 : e = 0
    · subst h0
      rw [groups_zero]
      exact ⟨by simp [nval, valL], (fun x hx => by cases hx), Nat.le_refl _⟩
    · rw [groups_pos l e h0]
      obtain ⟨i1, i2, i3⟩ := ih (e - 9) (by omega) (by omega)
      have hlen : ((l.take e).drop (e - 9)).length = e - (e - 9) := by rw [List.length_drop, List.length_take]; omega
      have hd := dig_part l h e (e - 9)
      have hv := valL_nine _ hd (by omega)
      have hn := valL_nonneg _ hd
      refine ⟨?_, DigN.cons hn hv i2, by simp; omega⟩
      show valL _ + 1000000000 * nval (groups l (e - 9)) = _
      rw [i1]
      have hsplit : l.take e = l.take (e - 9) ++ (l.take e).drop (e - 9) := by
        have h1 := (List.take_append_drop (e - 9) (l.take e)).symm
        rwa [List.take_take, show min (e - 9) e = e - 9 from by omega] at h1
      by_cases h9 : 9 ≤ e
      · conv => rhs; rw [hsplit, valL_app, hlen, show e - (e - 9) = 9 from by omega]
        omega
      · rw [show e - 9 = 0 from by omega]
        simp [valL]
theorem part_step (s : ByteArray) (i from_ : Nat) (h : i < s.size) (hf : from_ ≤ i) : valL ((s.data.toList.take (i + 1)).drop from_) = valL ((s.data.toList.take i).drop from_) * 10 + (s[i].toNat : Int) - 48 := by
  rw [List.take_succ_eq_append_getElem (by simpa using h), List.drop_append_of_le_length (by rw [List.length_take]; simp; omega), valL_snoc]
  show _ * 10 + ((s[i].toNat : Int) - 48) = _
  omega

/-- is s the decimal notation of a nat -/
def decOk (s : ByteArray) : Bool := digitsB s && decide (s.size ≤ 450) && !(decide (1 < s.size) && decide (s.data.toList.headD 0 = 48))
def TNPost (s : ByteArray) (w : World) (e : Ending) (w' : World) : Prop :=
  Below w.heap.size w w' ∧ ((decOk s = true ∧ ∃ v, e = .returned (.tuple #[v, .bool true]) ∧ w'.ownsRow w.heap.size 3 1 v (limbs (valL s.data.toList).toNat).length (intsV (limbs (valL s.data.toList).toNat))) ∨
    (decOk s = false ∧ e = .returned (.tuple #[.slice none 0 0, .bool false])))

/-- what the outer loop of TextNat knows at its head -/
def TextRel (s : ByteArray) (w : World) (v e : Value) (wr : World) : Prop :=
  ∃ (en : Int) (out : List Int), -9 ≤ en ∧ en ≤ s.size ∧ e = .int .i64 en ∧ out ++ groups s.data.toList en.toNat = groups s.data.toList s.size ∧
    wr.ownsRow w.heap.size 3 1 v out.length (intsV out) ∧ Below w.heap.size w wr
theorem text_step {s : ByteArray} {w w1 : World} {v1 : Value} {out : List Int} {m : Int} {k : Nat} (hk : k ≤ s.size) (h0 : 0 < k) (e : out ++ [m] ++ groups s.data.toList (k - 9) = groups s.data.toList s.size)
    (ho : w1.ownsRow w.heap.size 3 1 v1 (out.length + 1) (intsV out ++ [.int .i64 m])) (hb : Below w.heap.size w w1) : TextRel s w v1 (.int .i64 ((k : Int) - 9)) w1 := by
  refine ⟨(k : Int) - 9, out ++ [m], by omega, by omega, rfl, ?_, by simpa [intsV] using ho, hb⟩
  rw [show ((k : Int) - 9).toNat = k - 9 from by omega]
  exact e
theorem take_full (t : ByteArray) : t.data.toList.take t.size = t.data.toList := List.take_of_length_le (Nat.le_refl _)


theorem decOk_long (s : ByteArray) (h : ¬ s.size ≤ 450) : decOk s = false := by unfold decOk; rw [decide_eq_false h, Bool.and_false, Bool.false_and]
theorem decOk_dig (s : ByteArray) (h : digitsB s = false) : decOk s = false := by unfold decOk; rw [h, Bool.false_and, Bool.false_and]
theorem decOk_lead (s : ByteArray) (h1 : 1 < s.size) (h : s[0].toNat = 48) : decOk s = false := by
  have e : s.data.toList.headD 0 = 48 := by rw [head_get s (by omega)]; exact UInt8.toNat_inj.1 h
  unfold decOk
  rw [decide_eq_true h1, decide_eq_true e]
  simp
theorem decOk_yes (s : ByteArray) (hd : digitsB s = true) (h4 : s.size ≤ 450) (hl : ∀ h0 : 0 < s.size, ¬ (1 < s.size ∧ s[0].toNat = 48)) (h0 : 0 < s.size) : decOk s = true := by
  unfold decOk
  rw [hd, decide_eq_true h4]
  by_cases h1 : 1 < s.size
  · have e : ¬ s.data.toList.headD 0 = 48 := by
      rw [head_get s h0]
      intro e
      exact hl h0 ⟨h1, by rw [e]; rfl⟩
    rw [decide_eq_false e, Bool.and_false]
    rfl
  · rw [decide_eq_false h1]
    rfl


theorem limbs_len (k : Nat) : ∀ n : Nat, n < 1000000000 ^ k → (limbs n).length ≤ k := by
  induction k with
  | zero => intro n h; rw [show n = 0 by simp at h; exact h, limbs_none]; simp
  | succ k ih =>
    intro n h
    by_cases h0 : n = 0
    · rw [h0, limbs_none]; simp
    · rw [limbs_pos n h0, List.length_cons]
      have := ih (n / 1000000000) (by rw [Nat.pow_succ] at h; exact Nat.div_lt_of_lt_mul (by rw [Nat.mul_comm]; exact h))
      omega
theorem limbs_of_len (n : Int) (h : n ≤ 9223372036854775807) : (limbs n.toNat).length ≤ 3 := limbs_len 3 _ (by
  have : n.toNat ≤ 9223372036854775807 := by omega
  exact Nat.lt_of_le_of_lt this (by decide))
theorem trimL_le (xs : List Int) : (trimL xs).length ≤ xs.length := by
  induction xs with
  | nil => simp [trimL]
  | cons d r ih => unfold trimL; split <;> simp <;> omega
/-- what TextNat answers -/
def tnR (s : ByteArray) : List Int := if decOk s = true then limbs (valL s.data.toList).toNat else []
theorem tnR_len (s : ByteArray) : (tnR s).length ≤ 450 := by
  unfold tnR
  split
  · rename_i h
    have hd : digitsB s = true := by
      by_cases hd : digitsB s = true
      · exact hd
      · rw [decOk_dig s (by simpa using hd)] at h; exact absurd h (by decide)
    have h4 : s.size ≤ 450 := by
      by_cases h4 : s.size ≤ 450
      · exact h4
      · rw [decOk_long s h4] at h; exact absurd h (by decide)
    have hv := groups_val s.data.toList ((digitsB_iff s).1 hd).1 s.size (Nat.le_refl _)
    rw [take_full] at hv
    rw [← hv.1, ← trim_limbs _ hv.2.1]
    exact Nat.le_trans (trimL_le _) (Nat.le_trans hv.2.2 h4)
  · simp
/-- how TextNat ends: a new row, and whether the text is a number -/
def TNNew (s : ByteArray) (w : World) (e : Ending) (w' : World) : Prop :=
  ∃ v, e = .returned (.tuple #[v, .bool (decOk s)]) ∧ w'.ownsRow w.heap.size 3 1 v (tnR s).length (intsV (tnR s)) ∧ Below w.heap.size w w'
theorem TNPost.new {s : ByteArray} {w w' : World} {e : Ending} (h : TNPost s w e w') : TNNew s w e w' := by
  obtain ⟨hb, ⟨ho, v, rfl, hv⟩ | ⟨ho, rfl⟩⟩ := h
  · refine ⟨v, by rw [ho], ?_, hb⟩
    rw [show tnR s = limbs (valL s.data.toList).toNat by unfold tnR; rw [if_pos ho]]
    exact hv
  · refine ⟨_, by rw [ho], ?_, hb⟩
    rw [show tnR s = [] by unfold tnR; rw [ho]; rfl]
    exact nil_own
end Go.Proofs.YtbpfabicampdkaaDoor
