/-
  SignImpl4, TaxOkI, RatImplPlain, Div64, Guess, Divide, DivDoorImpl, RatImpl
-/
import Derived.Deep.DeepCutAuto
import Derived.Deep.LoopGhost
import Derived.Deep.Cut
import Derived.Deep.CutBlock
import Derived.Laws.Bits64b
import Derived.Lib.BitFns
import Derived.Laws.Externs
import Derived.Test.YtofehcpapdlcnaaGreatDoorJQ7
namespace Go.Proofs.YtofehcpapdlcnaaGreatDoor
open Go.RowKit

theorem int_step {m n : Int} {out : List Int} {f : Nat} (hz : ¬ m = 0) (hol : out.length + f ≤ 3) (hmf : m.natAbs < 1000000000 ^ f) (he : out ++ limbs m.natAbs = limbs n.natAbs) (hq : (m.tdiv 1000000000).natAbs = m.natAbs / 1000000000) :
    ∃ g : Nat, (out ++ [((m.natAbs % 1000000000 : Nat) : Int)]).length + g ≤ 3 ∧ (m.tdiv 1000000000).natAbs < 1000000000 ^ g ∧ out ++ [((m.natAbs % 1000000000 : Nat) : Int)] ++ limbs (m.tdiv 1000000000).natAbs = limbs n.natAbs := by
  cases f with
  | zero => simp at hmf; omega
  | succ g =>
    refine ⟨g, by simp; omega, ?_, ?_⟩
    · rw [hq]
      rw [Nat.pow_succ, Nat.mul_comm] at hmf
      exact Nat.div_lt_of_lt_mul hmf
    · rw [hq, ← he, limbs_pos m.natAbs (by omega), List.append_assoc]
      rfl
theorem intOf_mk (n : Int) {s : Bool} (h : decide (n < 0) = s) : mkS s (limbs n.natAbs) = ofZ n := by
  rw [mkS_limbs]
  congr 1
  subst h
  by_cases hn : n < 0
  · rw [if_pos (by simpa using hn)]; omega
  · rw [if_neg (by simpa using hn)]; omega
set_option maxHeartbeats 1000000 in
set_option maxRecDepth 100000 in
theorem implIntOf_any (n : Int) (w : World) (h0 : -9223372036854775808 ≤ n) (h1 : n ≤ 9223372036854775807) :
    Calls Tryz.prog 60 #[.int .i64 n] w (NewS (ofZ n) w) := by
  obtain ⟨i0, hi, hz0, hz1, hz2⟩ := info_parts intInfo
  have hbb : Below w.heap.size w (w.alloc (.cells #[.bool false, .slice none 0 0] 31)) := below_al (Below.refl _ _) _
  have kr := box_new w #[.bool false, .slice none 0 0] 31
  obtain ⟨W0, hW0⟩ : ∃ W0, W0 = w.alloc (.cells #[.bool false, .slice none 0 0] 31) := ⟨_, rfl⟩
  rw [← hW0] at hbb kr
  have hW0s : W0.heap.size = w.heap.size + 1 := by rw [hW0]; simp
  have HW := Lib.hid hW0
  clear hW0
  obtain ⟨s, hs, hs2⟩ : ∃ s, decide (n < 0) = s ∧ Hid (decide (n < 0) = s) := ⟨_, rfl, Lib.hid rfl⟩
  go_enter Tryz.func60, Tryz.ntmps60
  go_wp2_with fail
  obtain ⟨W1, hW1⟩ : ∃ W1, W1 = W0.alloc (.cells #[.slice none 0 0, .bool s] 104) := ⟨_, rfl⟩
  have hx0 : NatX (intK s) (w.heap.size + 1) W0.heap.size [] W1 := by rw [hW1]; exact NatX.late (n := s) (W := W0) (B0 := w.heap.size + 1) (xs := []) (World.ownsRow_nil W0 (w.heap.size + 1) 3 1) (Nat.le_refl _) (by omega)
  have hb0 : Below W0.heap.size W0 W1 := by rw [hW1]; exact below_al (Below.refl _ _) _
  rw [hW0s] at hx0
  go_loopw [0] (fun a wr => ∃ (m : Int) (out : List Int) (f : Nat), -9223372036854775808 ≤ m ∧ m ≤ 9223372036854775807 ∧ out.length + f ≤ 3 ∧ m.natAbs < 1000000000 ^ f ∧ a = .int .i64 m ∧ Hid (out ++ limbs m.natAbs = limbs n.natAbs) ∧ Hid (NatX (intK s) (w.heap.size + 1) (w.heap.size + 1) out wr) ∧ Hid (Below (w.heap.size + 1) W0 wr)) (fun a _ => (intOf a).natAbs)
  case atStart =>
    rw [← HW.out, ← hW1]
    exact ⟨n, [], 3, h0, h1, by simp, by omega, rfl, Lib.hid rfl, Lib.hid hx0, Lib.hid (by rw [hW0s] at hb0; exact hb0)⟩
  case round =>
    obtain ⟨m, out, f, hm0, hm1, hol, hmf, rfl, HE, HX, HB⟩ := hrel
    by_cases hz : m = 0
    · subst hz
      have hout : out = limbs n.natAbs := by
        have e := HE.out
        rwa [show (0 : Int).natAbs = 0 from rfl, limbs_none, List.append_nil] at e
      subst hout
      have bb1 : Below w.heap.size w wr := below_low hbb HB.out (by omega)
      have kr1 := kr.belowB HB.out (fun g hg => by simp at hg; omega)
      go_wp2_with fail
      refine (signed_any _ _ _ _ _ (by omega) HX.out).mono ?_
      rw [intOf_mk n hs2.out]
      rintro e w4 ⟨u4', rfl, o4, b4⟩
      generalize ofZ n = z at *
      obtain ⟨A4, c4, rfl⟩ := own_len o4
      have bb4 := Below.next bb1 b4
      have kr4 := kr1.below b4
      have cz0 := kr4.here.cell 0 _ rfl
      have cz1 := kr4.here.cell 1 _ rfl
      have fz0 := Lib.frozen_of_heap kr4.here 0
      have fz1 := Lib.frozen_of_heap kr4.here 1
      have HO := Lib.hid o4
      have HK := Lib.hid kr4
      clear o4 kr1 kr4 kr HX HB HE
      go_wp2
      refine bodyPost_ret (v := .agg #[.bool _, .slice A4 _ c4]) (by simp [results, Tryz.results60, go_sem, cz0, cz1]; exact ⟨rfl, rfl⟩) rfl ?_
      exact newS_ret HK.out.here HO.out (by omega) (Nat.le_refl _) bb4
    · have hzb : (m == 0) = false := by rw [beq_eq_false_iff_ne]; exact hz
      have hzb2 : (m != 0) = true := by rw [bne_iff_ne]; exact hz
      obtain ⟨hB, u, hbk, hown, hne⟩ := HX.out
      have hlt := HX.out.lt
      obtain ⟨A, c, rfl⟩ := own_len hown
      have c1 : wr.cell? ⟨w.heap.size + 1, 0, none⟩ = some (.slice A out.length c) := NatX.cell hbk
      have hra : (m.tmod 1000000000).natAbs = m.natAbs % 1000000000 := Int.natAbs_tmod m 1000000000
      have hqa : (m.tdiv 1000000000).natAbs = m.natAbs / 1000000000 := Int.natAbs_tdiv m 1000000000
      have hr0 : -999999999 ≤ m.tmod 1000000000 := by omega
      have hr1 : m.tmod 1000000000 ≤ 999999999 := by omega
      have HR := Lib.hid hra
      have HQ := Lib.hid hqa
      have HBK := Lib.hid hbk
      have HNE := Lib.hid hne
      clear hra hqa hbk hne
      go_wp2_with (at_builtin; refine wpList_append_own _ rfl (.tmp 16) (.tmp 21) 22 rfl (w.heap.size + 1) 3 i0 (.int .i64 0) 1 8 Tryz.underlying22 hi hz0 hz1 hz2 rfl (by decide) _ _ _ rfl (own_alloc hown _) ⟨wr.heap.size, 0, none⟩ 1 1 [.int .i64 _] rfl rfl (one_new _ _ _) ?c2 ?c3 ?c4 ?c5 ?_)
      any_goals (first | rfl | (unfold maxLen; omega) | omega)
      all_goals
        intro v1 w1 hown1 hg1 _
        have hdig : Hid (w1.ownsRow (w.heap.size + 1) 3 1 v1 (out ++ [((m.natAbs % 1000000000 : Nat) : Int)]).length (intsV (out ++ [((m.natAbs % 1000000000 : Nat) : Int)]))) := Lib.hid (by
          have hra := HR.out
          first
            | (have e : max (m.tmod 1000000000) (-m.tmod 1000000000) = ((m.natAbs % 1000000000 : Nat) : Int) := by omega
               rw [e] at hown1
               simpa [intsV] using hown1)
            | (have e : -m.tmod 1000000000 = ((m.natAbs % 1000000000 : Nat) : Int) := by omega
               rw [e] at hown1
               simpa [intsV] using hown1)
            | (have e : m.tmod 1000000000 = ((m.natAbs % 1000000000 : Nat) : Int) := by omega
               rw [e] at hown1
               simpa [intsV] using hown1))
        have hb2 : w1.heap[w.heap.size + 1]? = some (.cells (.slice A out.length c :: (intK s).rest).toArray (intK s).ty (0, 0)) := by
          rw [hg1.block _ (by simp; omega) (fun e => HNE.out e.symm), Below.heap_alloc _ _ _ hlt]
          exact HBK.out
        have d1 : w1.cell? ⟨w.heap.size + 1, 0, none⟩ = some (.slice A out.length c) := NatX.cell hb2
        have f1 : w1.frozen? ⟨w.heap.size + 1, 0, none⟩ = false := Lib.frozen_of_heap hb2 0
        have hb3 : Below (w.heap.size + 1) W0 w1 := (HB.out.alloc (by omega) _).grown hg1 (by simp; omega) (fun k hk => (own_lt hown hk).1)
        obtain ⟨A1, cc1, rfl⟩ := own_len hdig.out
        have HP := Lib.hid (NatX.put (K := intK s) hB hb2 hdig.out)
        have HB3 := Lib.hid (hb3.setCell (p := ⟨w.heap.size + 1, 0, none⟩) (Nat.le_refl _) (.slice A1 (out ++ [((m.natAbs % 1000000000 : Nat) : Int)]).length cc1))
        have hlen : (out ++ [((m.natAbs % 1000000000 : Nat) : Int)]).length = out.length + 1 := by simp
        rw [hlen] at HP HB3
        have hqb : -9223372036854775808 ≤ m.tdiv 1000000000 ∧ m.tdiv 1000000000 ≤ 9223372036854775807 ∧ (m.tdiv 1000000000).natAbs < m.natAbs := by have := HQ.out; omega
        have HQB := Lib.hid hqb
        have HN := Lib.hid (int_step hz hol hmf HE.out HQ.out)
        clear hb2 hb3 hown hown1 hg1 hdig c1
        clear hr0 hr1 HR hmf hqb hlen
        go_wp2_with fail
        obtain ⟨g, h1, h2, h3⟩ := HN.out
        exact ⟨⟨_, _, g, HQB.out.1, HQB.out.2.1, h1, h2, rfl, Lib.hid h3, Lib.hid HP.out, HB3⟩, by simpa [intOf] using HQB.out.2.2⟩
end Go.Proofs.YtofehcpapdlcnaaGreatDoor

namespace Go.Proofs.YtofehcpapdlcnaaGreatDoor
open Go.RowKit

set_option maxHeartbeats 4000000 in
set_option maxRecDepth 100000 in
theorem implTaxRateOk_any (vd : Value) (d : DI) (w : World) (hl : d.1.2.length ≤ 1048576) (hd : OwnD vd d w) :
    Calls Tryz.prog 58 #[vd] w (Postb (taxB d) w) := by
  have Hd := Lib.hid hd
  obtain ⟨Ad, cd, rfl⟩ := ownD_form hd
  have ODd := Lib.hid (show ∀ W, Below w.heap.size w W → OwnD (.agg #[.bool d.1.1, .slice Ad d.1.2.length cd, .int .i64 d.2]) d W from fun W hb => OwnD.below Hd.out hb)
  have OId := Lib.hid (show ∀ W, Below w.heap.size w W → OwnI (.slice Ad d.1.2.length cd) d.1.2 W from fun W hb => ownD_open (ODd.out W hb))
  have OSd := Lib.hid (show ∀ W, Below w.heap.size w W → OwnS (.agg #[.bool d.1.1, .slice Ad d.1.2.length cd]) d.1 W from fun W hb => OwnS.mk (OId.out W hb))
  clear hd
  have bb0 : Below w.heap.size w (w.alloc (.cells #[.bool d.1.1, .slice Ad d.1.2.length cd, .int .i64 d.2] 40)) := below_al (Below.refl _ _) _
  have kd := (box_new w #[.bool d.1.1, .slice Ad d.1.2.length cd, .int .i64 d.2] 40)
  obtain ⟨O, hO⟩ : ∃ O, ofZ 1 = O := ⟨_, rfl⟩
  have HOL := Lib.hid (show O.2.length ≤ 1048576 by have := ofZ_len 1; rw [hO] at this; omega)
  obtain ⟨c, hc⟩ : ∃ c, cmpD d oneD = c := ⟨_, rfl⟩
  have EC0 := Lib.hid hc
  have EC := Lib.hid (show cmpD d (O, 0) = c by rw [← hO]; exact hc)
  have EO := Lib.hid hO
  clear hO hc
  go_enter Tryz.func58, Tryz.ntmps58
  go_wp2_with fail
  refine ((implIntOf_any 1 _ (by omega) (by omega)).mono fun _ _ h => newS_is EO.out h).mono ?_
  rintro e w1 ⟨ui, Si, rfl, oi, li, b1⟩
  obtain ⟨Ai, ci, rfl⟩ := ownS_form oi.here
  have bb1 := Below.next bb0 b1
  replace kd := kd.below b1
  have ke := box_new (w1) #[.bool O.1, .slice Ai O.2.length ci, .int .i64 0] 40
  have ale := below_al (Below.refl (w1).heap.size (w1)) (.cells #[.bool O.1, .slice Ai O.2.length ci, .int .i64 0] 40)
  have bbe := Below.next bb1 ale
  replace kd := kd.below ale
  replace oi := oi.below ale
  have kd_c0 := kd.here.cell 0 _ rfl
  have kd_c1 := kd.here.cell 1 _ rfl
  have kd_c2 := kd.here.cell 2 _ rfl
  go_wp2_with fail
  clear kd_c0 kd_c1 kd_c2
  refine (implDecOk_any _ d _ hl (ODd.out _ bbe)).mono ?_
  rintro e w2 ⟨rfl, b2⟩
  have bb2 := Below.next bbe b2
  replace kd := kd.below b2
  replace oi := oi.below b2
  replace ke := ke.below b2
  by_cases ok : okD d = true
  · rw [ok]
    have HO := Lib.hid ok
    have hso := (partsD ok).ok
    have HSO := Lib.hid hso
    clear ok hso
    by_cases hs : d.1.2.length ≤ 1
    · have hs1 : (d.1.2.length : Int) ≤ 1 := by omega
      have HS1 := Lib.hid hs
      clear hs
      have kd_c0 := kd.here.cell 0 _ rfl
      have kd_c1 := kd.here.cell 1 _ rfl
      have kd_c2 := kd.here.cell 2 _ rfl
      go_wp2_with fail
      clear kd_c0 kd_c1 kd_c2
      refine (implIntSign_any _ d.1 _ hl (OSd.out _ bb2)).mono ?_
      rintro e w3 ⟨rfl, b3⟩
      have bb3 := Below.next bb2 b3
      replace kd := kd.below b3
      replace oi := oi.below b3
      replace ke := ke.below b3
      have hsg := sign_neg HSO.out
      generalize cmpS d.1 zeroS = s at *
      by_cases hn : s < 0
      · have HV := Lib.hid (show taxB d = false from taxB_neg (by rw [← hsg]; exact decide_eq_true hn))
        have hn1 : ¬ 0 ≤ s := by omega
        clear hsg
        go_wp2
        go_ret
        exact ⟨ret_bool HV.out.symm, bb3⟩
      · have HV := Lib.hid (show taxB d = decide (c ≤ 0) by rw [← EC0.out]; exact taxB_is HO.out (by rw [← hsg]; exact decide_eq_false hn) HS1.out)
        have hn1 : 0 ≤ s := by omega
        clear hsg
        have kd_c0 := kd.here.cell 0 _ rfl
        have kd_c1 := kd.here.cell 1 _ rfl
        have kd_c2 := kd.here.cell 2 _ rfl
        have ke_c0 := ke.here.cell 0 _ rfl
        have ke_c1 := ke.here.cell 1 _ rfl
        have ke_c2 := ke.here.cell 2 _ rfl
        go_wp2_with fail
        clear kd_c0 kd_c1 kd_c2 ke_c0 ke_c1 ke_c2
        refine ((implDecCmp_any _ _ d (O, 0) _ hl HOL.out (ODd.out _ bb3) (OwnD.mk (q := (O, 0)) (ownS_openD oi.here))).mono fun _ _ h => postn_eqD EC.out h).mono ?_
        rintro e w4 ⟨rfl, b4⟩
        have bb4 := Below.next bb3 b4
        replace kd := kd.below b4
        replace oi := oi.below b4
        replace ke := ke.below b4
        clear oi kd ke
        go_wp2
        go_ret
        exact ⟨ret_bool HV.out.symm, bb4⟩
    · have HV := Lib.hid (show taxB d = false from taxB_long hs)
      have hs1 : ¬ (d.1.2.length : Int) ≤ 1 := by omega
      have hs2 : (1 : Int) < (d.1.2.length : Int) := by omega
      clear hs
      have kd_c0 := kd.here.cell 0 _ rfl
      have kd_c1 := kd.here.cell 1 _ rfl
      have kd_c2 := kd.here.cell 2 _ rfl
      go_wp2
      go_ret
      exact ⟨ret_bool HV.out.symm, bb2⟩
  · have ok' : okD d = false := by simpa using ok
    rw [ok']
    have HV := Lib.hid (show taxB d = false from taxB_bad ok')
    clear ok ok'
    go_wp2
    go_ret
    exact ⟨ret_bool HV.out.symm, bb2⟩
end Go.Proofs.YtofehcpapdlcnaaGreatDoor

namespace Go.Proofs.YtofehcpapdlcnaaGreatDoor
open Go.RowKit

theorem cmpS_zero {b : SI} (h : okS b = true) : (cmpS b zeroS = 0) ↔ nval b.2 = 0 := by
  have n := nval_ok (okS_parts h).1
  unfold cmpS
  rw [if_pos ⟨h, zeroS_ok⟩, zeroS_val]
  have e : valS b = 0 ↔ nval b.2 = 0 := by
    unfold valS
    split <;> omega
  rw [← e]
  unfold cmpI
  split
  · omega
  · split <;> omega
theorem makeQ_none {a b : SI} (h : ¬ (okS a = true ∧ cmpS b zeroS ≠ 0)) : makeQ a b = (zeroQ, false) := by
  unfold makeQ
  split
  · rename_i hk
    have hz : nval b.2 = 0 := (cmpS_zero hk.2).1 (Classical.byContradiction fun e => h ⟨hk.1, e⟩)
    unfold lowQ
    rw [if_neg (fun k => k.1 (by rw [hz]; rfl))]
  · rfl
theorem cmpS_ok {b : SI} (h : cmpS b zeroS ≠ 0) : okS b = true := by
  unfold cmpS at h
  rcases Classical.em (okS b = true ∧ okS zeroS = true) with k | k
  · exact k.1
  · rw [if_neg k] at h
    exact absurd rfl h
/-- the parts that RatMake divides out -/
theorem makeQ_parts {a b : SI} (ha : okS a = true) (hb : cmpS b zeroS ≠ 0) : ∃ X Y : Nat,
    gcdN a.2 b.2 = limbs (Nat.gcd (nval a.2).toNat (nval b.2).toNat) ∧ (divN a.2 (gcdN a.2 b.2)).1 = limbs X ∧ (divN b.2 (gcdN a.2 b.2)).1 = limbs Y ∧ (limbs X).length ≤ 50 ∧ (limbs Y).length ≤ 50 ∧ 0 < (limbs Y).length ∧
    makeQ a b = if (limbs X).length ≤ 18 ∧ (limbs Y).length ≤ 18 then ((mkS (!(a.1 == b.1)) (limbs X), limbs Y), true) else (zeroQ, false) := by
  have hkb := cmpS_ok hb
  have pa := okS_parts ha
  have pb := okS_parts hkb
  have na := nval_ok pa.1
  have nb := nval_ok pb.1
  have hz : nval b.2 ≠ 0 := fun e => hb ((cmpS_zero hkb).2 e)
  have hg := gcdN_small a.2 b.2
  have eg : gcdN a.2 b.2 = limbs (Nat.gcd (nval a.2).toNat (nval b.2).toNat) := by unfold gcdN; rw [if_pos ⟨pa.1, pb.1⟩]
  have g0 := Nat.gcd_pos_of_pos_right (nval a.2).toNat (show 0 < (nval b.2).toNat by omega)
  have okg : natOkB (gcdN a.2 b.2) = true := by rw [eg] at hg ⊢; exact limbs_okL _ hg
  have lg : 0 < (gcdN a.2 b.2).length := by
    rw [eg]
    rcases Nat.eq_zero_or_pos (limbs (Nat.gcd (nval a.2).toNat (nval b.2).toNat)).length with h | h
    · have := (limbs_zero_iff _).1 h
      omega
    · exact h
  have dv : ∀ c : List Int, natOkB c = true → (divN c (gcdN a.2 b.2)).1 = limbs ((nval c).toNat / Nat.gcd (nval a.2).toNat (nval b.2).toNat) ∧ (limbs ((nval c).toNat / Nat.gcd (nval a.2).toNat (nval b.2).toNat)).length ≤ 50 := by
    intro c hc
    have nc := nval_ok hc
    unfold divN
    rw [if_pos ⟨hc, okg, lg⟩, eg, limbs_val]
    have e : (nval c / ((Nat.gcd (nval a.2).toNat (nval b.2).toNat : Nat) : Int)).toNat = (nval c).toNat / Nat.gcd (nval a.2).toNat (nval b.2).toNat := by
      rw [← div_toNat]
      congr 2
      omega
    simp only
    rw [e]
    refine ⟨rfl, ?_⟩
    have hm := limbs_mono (m := (((nval c).toNat / Nat.gcd (nval a.2).toNat (nval b.2).toNat : Nat) : Int)) (n := nval c) (by omega) (by have := Nat.div_le_self (nval c).toNat (Nat.gcd (nval a.2).toNat (nval b.2).toNat); omega)
    rw [Int.toNat_natCast, ← natOk_limbs hc] at hm
    have := (natOk_parts hc).2.1
    omega
  have hy : 0 < (limbs ((nval b.2).toNat / Nat.gcd (nval a.2).toNat (nval b.2).toNat)).length := by
    have h1 := Nat.div_pos (Nat.le_of_dvd (show 0 < (nval b.2).toNat by omega) (Nat.gcd_dvd_right (nval a.2).toNat (nval b.2).toNat)) g0
    rcases Nat.eq_zero_or_pos (limbs ((nval b.2).toNat / Nat.gcd (nval a.2).toNat (nval b.2).toNat)).length with h | h
    · have := (limbs_zero_iff _).1 h
      omega
    · exact h
  refine ⟨(nval a.2).toNat / Nat.gcd (nval a.2).toNat (nval b.2).toNat, (nval b.2).toNat / Nat.gcd (nval a.2).toNat (nval b.2).toNat, eg, (dv _ pa.1).1, (dv _ pb.1).1, (dv _ pa.1).2, (dv _ pb.1).2, hy, ?_⟩
  unfold makeQ
  rw [if_pos ⟨ha, hkb⟩]
  unfold lowQ
  have h0 : (nval b.2).toNat ≠ 0 := by omega
  have e : (a.1 != b.1) = !(a.1 == b.1) := rfl
  simp only [h0, ne_eq, not_false_eq_true, true_and, e]

theorem mulS_cross {x : SI} {d : List Int} {n : Nat} (hx : okS x = true) (hd : natOkB d = true) (hn : n = (nval d).toNat) : mulS x (false, d) = ofZ (valS x * n) ∧ okS (false, d) = true := by
  have h0 := nval_ok hd
  have hk : okS (false, d) = true := by unfold okS; rw [hd]; rfl
  refine ⟨?_, hk⟩
  unfold mulS
  rw [if_pos ⟨hx, hk⟩]
  have : valS (false, d) = n := by unfold valS; simp; omega
  rw [this]
theorem cross_abs {q : QI} {n : Nat} (h : Parts q) (hn : (n : Int) < bp 18) : ((numQ q * n).natAbs : Int) < bp 36 := by
  rw [h.top]
  have := prod_lt h.nlt hn
  split
  · rw [Int.neg_mul, Int.natAbs_neg, ← Int.natCast_mul]; omega
  · rw [← Int.natCast_mul]; omega
theorem ofZ_short {z : Int} {k : Nat} (h : (z.natAbs : Int) < bp k) (hk : k ≤ 50) : okS (ofZ z) = true ∧ valS (ofZ z) = z ∧ ofZ z = (decide (z < 0), limbs z.natAbs) := by
  have hl := limbs_length_le z.natAbs k h
  refine ⟨ofZ_ok z, ofZ_val (by omega), ?_⟩
  unfold ofZ
  rw [if_pos (by omega)]
/-- what RatMake makes of integers -/
theorem makeQ_ofZ {z : Int} {k m : Nat} {n : Bool} {d : List Int} (h : (z.natAbs : Int) < bp k) (hk : k ≤ 50) (hd : d = limbs m) (_ : (limbs m).length ≤ 50) (hn : okS (n, d) = true) : makeQ (ofZ z) (n, d) = lowQ (decide (z < 0) != n) z.natAbs m := by
  obtain ⟨h1, _, h3⟩ := ofZ_short h hk
  unfold makeQ
  rw [if_pos ⟨h1, hn⟩, h3]
  simp only
  rw [limbs_val, hd, limbs_val, Int.toNat_natCast, Int.toNat_natCast]
theorem nil_ok {d : List Int} (hd : natOkB d = true) : okS (false, d) = true := by unfold okS; rw [hd]; rfl
theorem numQ_val (q : QI) : valS q.1 = numQ q := rfl
def leftS (r s : QI) : SI := mulS r.1 (false, s.2)
def denS (r s : QI) : SI := (false, mulN r.2 s.2)
def topS (r s : QI) : SI := mulS r.1 s.1
theorem leftS_eq {r s : QI} (hr : Parts r) (hs : Parts s) : leftS r s = ofZ (numQ r * denQ s) ∧ okS (leftS r s) = true ∧ valS (leftS r s) = numQ r * denQ s := by
  have h := (mulS_cross hr.okn hs.okd (show denQ s = _ from rfl)).1
  rw [numQ_val] at h
  have hz := ofZ_short (cross_abs hr hs.dlt) (by decide)
  unfold leftS
  rw [h]
  exact ⟨rfl, hz.1, hz.2.1⟩
theorem denS_eq {r s : QI} (hr : Parts r) (hs : Parts s) : denS r s = (false, limbs (denQ r * denQ s)) ∧ okS (denS r s) = true ∧ (limbs (denQ r * denQ s)).length ≤ 50 := by
  have hl := Nat.le_trans (prod_len hr.dlt hs.dlt) (show 36 ≤ 50 by decide)
  have e : mulN r.2 s.2 = limbs (denQ r * denQ s) := by
    unfold mulN natRes capL
    rw [if_pos ⟨hr.okd, hs.okd⟩, mul_toNat hr.okd hs.okd]
    show (if 50 < (limbs (denQ r * denQ s)).length then [] else limbs (denQ r * denQ s)) = _
    rw [if_neg (by omega)]
  unfold denS
  rw [e]
  exact ⟨rfl, nil_ok (limbs_okL _ hl), hl⟩
theorem topS_eq {r s : QI} (hr : Parts r) (hs : Parts s) : topS r s = ofZ (numQ r * numQ s) ∧ ((numQ r * numQ s).natAbs : Int) < bp 36 ∧ (numQ r * numQ s).natAbs = topN r * topN s := by
  have e : (numQ r * numQ s).natAbs = topN r * topN s := by
    rw [Int.natAbs_mul, hr.top, hs.top]
    congr 1 <;> split <;> omega
  unfold topS mulS
  rw [if_pos ⟨hr.okn, hs.okn⟩]
  exact ⟨rfl, by rw [e]; exact prod_lt hr.nlt hs.nlt, e⟩
theorem sum_abs {x y : Int} (hx : (x.natAbs : Int) < bp 36) (hy : (y.natAbs : Int) < bp 36) : ((x + y).natAbs : Int) < bp 37 ∧ ((x - y).natAbs : Int) < bp 37 := by
  have := bp37
  omega
theorem numQ_neg {s : QI} (oks : okQ s = true) : (negQ s).2 = true ∧ okQ (negQ s).1 = true ∧ numQ (negQ s).1 = -(numQ s) ∧ denQ (negQ s).1 = denQ s := by
  have h := parts_of oks
  have e : negQ s = ((negS s.1, s.2), true) := by unfold negQ; rw [if_pos oks]
  rw [e]
  have hv := negS_val h.okn
  have hp := okQ_parts oks
  have habs : nval (negS s.1).2 = nval s.1.2 ∧ (negS s.1).2.length = s.1.2.length := by
    have e2 : (negS s.1).2 = limbs (valS s.1).natAbs := by
      unfold negS
      rw [if_pos h.okn]
      have := ofZ_short (z := -(valS s.1)) (k := 18) (by rw [Int.natAbs_neg, valS_abs _ (okS_parts h.okn).1]; exact h.nlt) (by decide)
      rw [this.2.2, Int.natAbs_neg]
    have e3 : s.1.2 = limbs (valS s.1).natAbs := by
      rw [valS_abs _ (okS_parts h.okn).1]
      exact natOk_limbs (okS_parts h.okn).1
    rw [e2, ← e3]
    exact ⟨rfl, rfl⟩
  refine ⟨rfl, ?_, hv, rfl⟩
  unfold okQ
  rw [negS_ok, h.okd]
  simp only [Bool.true_and, decide_eq_true_eq]
  rw [habs.1, habs.2]
  exact ⟨hp.2.2.1, hp.2.2.2.1, hp.2.2.2.2.1, hp.2.2.2.2.2⟩
theorem subQ_make {r s : QI} (hr : Parts r) (hs : Parts s) (okr : okQ r = true) (oks : okQ s = true) : makeQ (subS (leftS r s) (leftS s r)) (denS r s) = subQ r s := by
  have l := leftS_eq hr hs
  have m := leftS_eq hs hr
  have d := denS_eq hr hs
  have e : subS (leftS r s) (leftS s r) = ofZ (numQ r * denQ s - numQ s * denQ r) := by
    unfold subS
    rw [if_pos ⟨l.2.1, m.2.1⟩, l.2.2, m.2.2]
  have n := numQ_neg oks
  rw [e, d.1, makeQ_ofZ (sum_abs (cross_abs hr hs.dlt) (cross_abs hs hr.dlt)).2 (by decide) rfl d.2.2 (by rw [← d.1]; exact d.2.1)]
  unfold subQ addQ
  rw [if_pos n.1, if_pos ⟨okr, n.2.1⟩, n.2.2.1, n.2.2.2, Int.neg_mul, ← Int.sub_eq_add_neg]
  simp
theorem lowQ_sign {n m : Bool} {a b : Nat} (h : a ≠ 0 → n = m) : lowQ n a b = lowQ m a b := by
  by_cases ha : a = 0
  · subst ha
    unfold lowQ
    have e : ∀ k : Bool, mkS k (limbs (0 / Nat.gcd 0 b)) = zeroS := fun k => by
      rw [Nat.zero_div, mkS_limbs]
      cases k <;> exact ofZ_zero
    rw [e, e]
  · rw [h ha]
theorem mulQ_make {r s : QI} (hr : Parts r) (hs : Parts s) (okr : okQ r = true) (oks : okQ s = true) : makeQ (topS r s) (denS r s) = mulQ r s := by
  have t := topS_eq hr hs
  have d := denS_eq hr hs
  rw [t.1, d.1, makeQ_ofZ t.2.1 (by decide) rfl d.2.2 (by rw [← d.1]; exact d.2.1), t.2.2]
  unfold mulQ
  rw [if_pos ⟨okr, oks⟩]
  refine lowQ_sign fun h => ?_
  have hr0 : topN r ≠ 0 := fun e => h (by rw [e, Nat.zero_mul])
  have hs0 : topN s ≠ 0 := fun e => h (by rw [e, Nat.mul_zero])
  rw [hr.top, hs.top]
  have p : 0 < (topN r : Int) * (topN s : Int) := Int.mul_pos (by omega) (by omega)
  have e : decide ((if r.1.1 = true then -(topN r : Int) else topN r) * (if s.1.1 = true then -(topN s : Int) else topN s) < 0) = (r.1.1 != s.1.1) := by
    cases r.1.1 <;> cases s.1.1 <;> simp [Int.neg_mul, Int.mul_neg] <;> omega
  rw [e]
  cases (r.1.1 != s.1.1) <;> rfl
end Go.Proofs.YtofehcpapdlcnaaGreatDoor

namespace Go.Proofs.YtofehcpapdlcnaaGreatDoor
open Go.RowKit

/-! ### how many bits -/
theorem lenAux_lt : ∀ (f x : Nat), x < 2 ^ f → x < 2 ^ Lib.bitLenAux f x
  | 0, x, h => h
  | f + 1, x, h => by
    unfold Lib.bitLenAux
    by_cases h0 : x = 0
    · rw [if_pos h0, h0]; decide
    · rw [if_neg h0, Nat.add_comm, Nat.pow_succ]
      have := lenAux_lt f (x / 2) (by rw [Nat.pow_succ] at h; omega)
      omega
theorem lenAux_ge : ∀ (f x : Nat), 0 < x → 2 ^ Lib.bitLenAux f x ≤ 2 * x
  | 0, x, h => by show 1 ≤ _; omega
  | f + 1, x, h => by
    unfold Lib.bitLenAux
    rw [if_neg (by omega), Nat.add_comm, Nat.pow_succ]
    by_cases h1 : x / 2 = 0
    · have e : Lib.bitLenAux f (x / 2) = 0 := by
        cases f with
        | zero => rfl
        | succ f => unfold Lib.bitLenAux; rw [if_pos h1]
      rw [e]
      omega
    · have := lenAux_ge f (x / 2) (by omega)
      omega
theorem lenAux_le : ∀ (f x : Nat), Lib.bitLenAux f x ≤ f
  | 0, _ => Nat.le_refl _
  | f + 1, x => by
    unfold Lib.bitLenAux
    split
    · omega
    · have := lenAux_le f (x / 2)
      omega
/-- shifted so far that the highest bit is set -/
theorem shifted {y : Nat} (h0 : 0 < y) (h : y < 18446744073709551616) : Lib.bitLen y ≤ 64 ∧ 64 - Lib.bitLen y < 64 ∧ 9223372036854775808 ≤ y * 2 ^ (64 - Lib.bitLen y) ∧ y * 2 ^ (64 - Lib.bitLen y) < 18446744073709551616 := by
  have h1 := lenAux_lt 64 y h
  have h2 := lenAux_ge 64 y h0
  have h3 := lenAux_le 64 y
  change y < 2 ^ Lib.bitLen y at h1
  change 2 ^ Lib.bitLen y ≤ 2 * y at h2
  change Lib.bitLen y ≤ 64 at h3
  have h4 : Lib.bitLen y ≠ 0 := by
    intro e
    rw [e] at h1
    omega
  have e : 2 ^ Lib.bitLen y * 2 ^ (64 - Lib.bitLen y) = 18446744073709551616 := by
    rw [← Nat.pow_add, show Lib.bitLen y + (64 - Lib.bitLen y) = 64 by omega]
  have hp : 0 < 2 ^ (64 - Lib.bitLen y) := Nat.pow_pos (by omega)
  refine ⟨h3, by omega, ?_, ?_⟩
  · have := Nat.mul_le_mul_right (2 ^ (64 - Lib.bitLen y)) h2
    rw [e, Nat.mul_assoc] at this
    omega
  · have := (Nat.mul_lt_mul_right hp).2 h1
    rw [e] at this
    exact this

/-! ### one digit -/
/-- the guess q with its rest r, for the digit of (u, n) over (A, B) -/
def DigQ (A B u n q r : Nat) : Prop := q * A + r = u ∧ (u * 4294967296 + n) / (A * 4294967296 + B) ≤ q ∧ q ≤ 4294967297
theorem digQ_mul (A B u q r : Nat) (h : q * A + r = u) : q * (A * 4294967296 + B) + r * 4294967296 = u * 4294967296 + q * B := by
  rw [← h, Nat.mul_add, Nat.add_mul, ← Nat.mul_assoc]
  omega
theorem DigQ.start {A B u n : Nat} (hA : 2147483648 ≤ A) (hB : B < 4294967296) (hn : n < 4294967296) (hu : u < A * 4294967296 + B) : DigQ A B u n (u / A) (u % A) := by
  refine ⟨by rw [Nat.mul_comm]; exact Nat.div_add_mod u A, ?_, ?_⟩
  · apply Nat.le_of_lt_succ
    rw [Nat.div_lt_iff_lt_mul (by omega)]
    have h1 := Nat.div_add_mod u A
    have h2 := Nat.mod_lt u (show 0 < A by omega)
    have h3 : (u / A).succ * (A * 4294967296 + B) = A * (u / A) * 4294967296 + A * 4294967296 + (u / A).succ * B := by
      rw [Nat.mul_add, Nat.succ_mul, ← Nat.mul_assoc, Nat.mul_comm (u / A) A]
    rw [h3]
    omega
  · apply Nat.le_of_lt_succ
    rw [Nat.div_lt_iff_lt_mul (by omega)]
    omega
theorem lt_shift {z r u x n : Nat} (e : z + r = u + x) (h : r + n < x) : u + n < z := by omega
/-- too great a guess -/
theorem DigQ.down {A B u n q r : Nat} (h : DigQ A B u n q r) (hu : u < A * 4294967296 + B) (hn : n < 4294967296) (ht : 4294967296 ≤ q ∨ r * 4294967296 + n < q * B) : 0 < q ∧ DigQ A B u n (q - 1) (r + A) := by
  obtain ⟨h1, h2, h3⟩ := h
  have hq : 0 < q := by
    rcases Nat.eq_zero_or_pos q with h0 | h0
    · subst h0
      rcases ht with ht | ht
      · omega
      · rw [Nat.zero_mul] at ht; omega
    · exact h0
  have e := digQ_mul A B u q r h1
  have hlt : (u * 4294967296 + n) / (A * 4294967296 + B) < q := by
    rw [Nat.div_lt_iff_lt_mul (by omega)]
    rcases ht with ht | ht
    · have h5 := Nat.mul_le_mul_right (A * 4294967296 + B) ht
      generalize q * (A * 4294967296 + B) = z at *
      omega
    · exact lt_shift e ht
  refine ⟨hq, ?_, by omega, by omega⟩
  obtain ⟨p, rfl⟩ : ∃ p, q = p + 1 := ⟨q - 1, by omega⟩
  rw [Nat.add_sub_cancel]
  rw [Nat.succ_mul] at h1
  omega
/-- no longer too great -/
theorem DigQ.done {A B u n q r : Nat} (h : DigQ A B u n q r) (hA : 2147483648 ≤ A) (ht : q * B ≤ r * 4294967296 + n) : q = (u * 4294967296 + n) / (A * 4294967296 + B) := by
  obtain ⟨h1, h2, _⟩ := h
  apply Nat.le_antisymm _ h2
  rw [Nat.le_div_iff_mul_le (by omega)]
  have e := digQ_mul A B u q r h1
  omega
theorem DigQ.past {B n q r : Nat} (hB : B < 4294967296) (hq : q ≤ 4294967296) (hr : 4294967296 ≤ r) : q * B ≤ r * 4294967296 + n := by
  have h1 : q * B ≤ 4294967296 * 4294967295 := Nat.mul_le_mul hq (by omega)
  omega
theorem DigQ.rest {A B u n q r : Nat} (h : DigQ A B u n q r) : r = u - q * A := by have := h.1; omega

/-- two digits, one behind the other -/
theorem two_digits (U m1 m0 Y : Nat) (hY : 0 < Y) :
    ((U * 4294967296 + m1) * 4294967296 + m0) / Y = (U * 4294967296 + m1) / Y * 4294967296 + ((U * 4294967296 + m1) % Y * 4294967296 + m0) / Y := by
  have e := Nat.div_add_mod (U * 4294967296 + m1) Y
  have e2 : (U * 4294967296 + m1) * 4294967296 + m0 = (U * 4294967296 + m1) % Y * 4294967296 + m0 + Y * ((U * 4294967296 + m1) / Y * 4294967296) := by
    have : Y * ((U * 4294967296 + m1) / Y * 4294967296) = Y * ((U * 4294967296 + m1) / Y) * 4294967296 := (Nat.mul_assoc _ _ _).symm
    rw [this]
    generalize Y * ((U * 4294967296 + m1) / Y) = z at *
    omega
  rw [e2, Nat.add_mul_div_left _ _ hY, Nat.add_comm]
theorem digit_lt {U n Y : Nat} (hU : U < Y) (hn : n < 4294967296) : (U * 4294967296 + n) / Y < 4294967296 := by
  rw [Nat.div_lt_iff_lt_mul (by omega)]
  have : 4294967296 * (U + 1) ≤ 4294967296 * Y := Nat.mul_le_mul_left _ hU
  omega
/-- the shifted dividend, in three parts -/
theorem shift_parts {hi lo s Y : Nat} (hs : s < 64) (hl : lo < 18446744073709551616) (y : Nat) (hY : Y = y * 2 ^ s) (hh : hi < y) :
    (hi * 18446744073709551616 + lo) / y = ((hi * 2 ^ s + lo / 2 ^ (64 - s)) * 18446744073709551616 + lo * 2 ^ s % 18446744073709551616) / Y ∧ lo / 2 ^ (64 - s) < 2 ^ s ∧ hi * 2 ^ s + lo / 2 ^ (64 - s) < Y := by
  have hp : 0 < 2 ^ s := Nat.pow_pos (by omega)
  have hp2 : 0 < 2 ^ (64 - s) := Nat.pow_pos (by omega)
  have e64 : 2 ^ s * 2 ^ (64 - s) = 18446744073709551616 := by rw [← Nat.pow_add, show s + (64 - s) = 64 by omega]
  have hlt : lo / 2 ^ (64 - s) < 2 ^ s := by rw [Nat.div_lt_iff_lt_mul hp2, e64]; exact hl
  refine ⟨?_, hlt, ?_⟩
  · have e : (hi * 2 ^ s + lo / 2 ^ (64 - s)) * 18446744073709551616 + lo * 2 ^ s % 18446744073709551616 = (hi * 18446744073709551616 + lo) * 2 ^ s := by
      have e1 : lo * 2 ^ s / 18446744073709551616 = lo / 2 ^ (64 - s) := by
        rw [← e64, Nat.mul_comm (2 ^ s) (2 ^ (64 - s)), Nat.mul_div_mul_right _ _ hp]
      have e2 := Nat.div_add_mod (lo * 2 ^ s) 18446744073709551616
      rw [e1] at e2
      have e3 : (hi * 18446744073709551616 + lo) * 2 ^ s = hi * 2 ^ s * 18446744073709551616 + lo * 2 ^ s := by rw [Nat.add_mul, Nat.mul_right_comm]
      rw [e3]
      omega
    rw [e, hY, Nat.mul_div_mul_right _ _ hp]
  · rw [hY]
    have : (hi + 1) * 2 ^ s ≤ y * 2 ^ s := Nat.mul_le_mul_right _ hh
    rw [Nat.add_mul] at this
    omega
theorem or_add {a b s : Nat} (h : b < 2 ^ s) (ha : a * 2 ^ s < 18446744073709551616) (hb : b < 18446744073709551616) : bits .or .u64 ((a * 2 ^ s : Nat) : Int) (b : Int) = ((a * 2 ^ s + b : Nat) : Int) := by
  rw [bits_or_u64_nat _ _ ha hb]
  congr 1
  rw [Nat.mul_comm, ← Nat.two_pow_add_eq_or_of_lt h]
theorem and_low {a : Nat} (h : a < 18446744073709551616) : bits .and .u64 (a : Int) 4294967295 = ((a % 4294967296 : Nat) : Int) := by
  have h1 := bits_and_u64_nat a 4294967295 h (by omega)
  rw [show a &&& 4294967295 = a % 4294967296 from Nat.and_two_pow_sub_one_eq_mod a 32] at h1
  exact h1
theorem wrapU (a : Nat) : IntKind.u64.wrap (a : Int) = ((a % 18446744073709551616 : Nat) : Int) := by rw [IntKind.wrap_u64]; omega
theorem wrapL (a : Nat) (h : a < 18446744073709551616) : IntKind.u64.wrap (a : Int) = (a : Int) := by rw [IntKind.wrap_u64]; omega
theorem wrapD {a b c : Nat} (hc : c ≤ a) (h : a - c < 18446744073709551616) (hb : b = a - c) : IntKind.u64.wrap (IntKind.u64.wrap (a : Int) - IntKind.u64.wrap (c : Int)) = (b : Int) := by
  rw [IntKind.wrap_u64, IntKind.wrap_u64, IntKind.wrap_u64]
  omega
theorem wrapT {U m z v : Nat} (h : z + v = U * 4294967296 + m) (hv : v < 18446744073709551616) :
    IntKind.u64.wrap (IntKind.u64.wrap (IntKind.u64.wrap ((U : Int) * 4294967296) + (m : Int)) - IntKind.u64.wrap (z : Int)) = (v : Int) := by
  rw [IntKind.wrap_u64, IntKind.wrap_u64, IntKind.wrap_u64, IntKind.wrap_u64]
  omega

/-- the quotient, and whatever rest -/
def QuoPost (q : Nat) (w : World) (e : Ending) (w' : World) : Prop := (∃ r, e = .returned (.tuple #[.int .u64 q, .int .u64 r])) ∧ ∃ n, w.drewN n = w'
set_option maxHeartbeats 400000 in
set_option maxRecDepth 100000 in
theorem div64_small (lo y : Nat) (h0 : 0 < y) (hl : lo < 18446744073709551616) (hy : y < 18446744073709551616) (w : World) :
    Calls Tryz.prog 261 #[.int .u64 0, .int .u64 lo, .int .u64 y] w (QuoPost (lo / y) w) := by
  have hq := Nat.div_le_self lo y
  have e1 : IntKind.u64.wrap ((lo : Int) / (y : Int)) = ((lo / y : Nat) : Int) := by
    rw [← Int.natCast_ediv, wrapL _ (by omega)]
  have hy0 : ¬ ((y : Int) = 0) := by omega
  have hy1 : ¬ (y = 0) := by omega
  go_enter Tryz.func261, Tryz.ntmps261
  go_wp2
  go_quiet (fail)
  go_wp2
  go_ret2
  exact ⟨⟨_, rfl⟩, _, rfl⟩

/-- what stands in the guess's two slots -/
def DigS (A B u n : Nat) (q r : Value) : Prop := ∃ qn rn : Nat, q = .int .u64 qn ∧ r = .int .u64 rn ∧ rn < 4294967296 ∧ Hid (DigQ A B u n qn rn)
set_option maxHeartbeats 2000000 in
set_option maxRecDepth 100000 in
theorem div64_big (hi lo y : Nat) (hh : hi < y) (h0 : 0 < hi) (hl : lo < 18446744073709551616) (hy : y < 18446744073709551616) (w : World) :
    Calls Tryz.prog 261 #[.int .u64 hi, .int .u64 lo, .int .u64 y] w (QuoPost ((hi * 18446744073709551616 + lo) / y) w) := by
  obtain ⟨hb1, hs, hY0, hY1⟩ := shifted (y := y) (by omega) hy
  have hsn : (64 : Int) - (Lib.bitLen y : Int) = ((64 - Lib.bitLen y : Nat) : Int) := by omega
  have HSN := Lib.hid hsn
  clear hsn
  generalize 64 - Lib.bitLen y = s at *
  obtain ⟨hp1, hp2, hp3⟩ := shift_parts hs hl y rfl hh
  have hor : bits .or .u64 ((hi * 2 ^ s : Nat) : Int) ((lo / 2 ^ (64 - s) : Nat) : Int) = ((hi * 2 ^ s + lo / 2 ^ (64 - s) : Nat) : Int) := or_add hp2 (by have := Nat.zero_le (lo / 2 ^ (64 - s)); have := Nat.le_add_right (hi * 2 ^ s) (lo / 2 ^ (64 - s)); exact Nat.lt_of_le_of_lt this (Nat.lt_trans hp3 hY1)) (by have := Nat.div_le_self lo (2 ^ (64 - s)); omega)
  have e1 : IntKind.u64.wrap ((y : Int) * 2 ^ s) = ((y * 2 ^ s : Nat) : Int) := by
    rw [show (y : Int) * 2 ^ s = ((y * 2 ^ s : Nat) : Int) by push_cast; rfl, wrapL _ hY1]
  have e3 : IntKind.u64.wrap ((hi : Int) * 2 ^ s) = ((hi * 2 ^ s : Nat) : Int) := by
    rw [show (hi : Int) * 2 ^ s = ((hi * 2 ^ s : Nat) : Int) by push_cast; rfl, wrapL _ (Nat.lt_of_le_of_lt (Nat.le_add_right (hi * 2 ^ s) (lo / 2 ^ (64 - s))) (Nat.lt_trans hp3 hY1))]
  have e4 : (lo : Int) / 2 ^ (64 - s) = ((lo / 2 ^ (64 - s) : Nat) : Int) := by push_cast; rfl
  have e5 : IntKind.u64.wrap ((lo : Int) * 2 ^ s) = ((lo * 2 ^ s % 18446744073709551616 : Nat) : Int) := by
    rw [show (lo : Int) * 2 ^ s = ((lo * 2 ^ s : Nat) : Int) by push_cast; rfl, wrapU]
  have hm : lo * 2 ^ s % 18446744073709551616 < 18446744073709551616 := Nat.mod_lt _ (by omega)
  rw [← e4] at hor
  have HP := Lib.hid hp1
  clear hp1 hp2 e4
  generalize hi * 2 ^ s + lo / 2 ^ (64 - s) = U at *
  generalize lo * 2 ^ s % 18446744073709551616 = M at *
  generalize y * 2 ^ s = Y at *
  generalize hi * 2 ^ s = H at *
  -- the halves
  have a1 := and_low hY1
  have a2 := and_low hm
  obtain ⟨A, hA⟩ : ∃ A, A = Y / 4294967296 := ⟨_, rfl⟩
  obtain ⟨B, hB⟩ : ∃ B, B = Y % 4294967296 := ⟨_, rfl⟩
  obtain ⟨m1, hm1⟩ : ∃ A, A = M / 4294967296 := ⟨_, rfl⟩
  obtain ⟨m0, hm0⟩ : ∃ A, A = M % 4294967296 := ⟨_, rfl⟩
  have hAB : Y = A * 4294967296 + B := by omega
  have hMM : M = m1 * 4294967296 + m0 := by omega
  have hA0 : 2147483648 ≤ A := by omega
  have hA1 : A < 4294967296 := by omega
  have hB1 : B < 4294967296 := by omega
  have hm11 : m1 < 4294967296 := by omega
  have hm01 : m0 < 4294967296 := by omega
  have a3 : (Y : Int) / 4294967296 = (A : Int) := by omega
  have a4 : (M : Int) / 4294967296 = (m1 : Int) := by omega
  rw [← hB] at a1
  rw [← hm0] at a2
  have HY := Lib.hid hAB
  have HM := Lib.hid hMM
  clear hA hB hm1 hm0 hAB hMM hY0
  have hU64 : U < 18446744073709551616 := by omega
  have hq1 : U / A < 18446744073709551616 := Nat.lt_of_le_of_lt (Nat.div_le_self _ _) hU64
  have hq2 : U % A < 4294967296 := by have := Nat.mod_lt U (show 0 < A by omega); omega
  have e6 : IntKind.u64.wrap ((U : Int) / (A : Int)) = ((U / A : Nat) : Int) := by
    rw [← Int.natCast_ediv, wrapL _ hq1]
  have e7 : IntKind.u64.wrap ((U : Int) - IntKind.u64.wrap (((U / A : Nat) : Int) * (A : Int))) = ((U % A : Nat) : Int) := by
    have h1 := Nat.div_add_mod U A
    rw [show ((U / A : Nat) : Int) * (A : Int) = ((A * (U / A) : Nat) : Int) by push_cast; rw [Int.mul_comm], ← wrapL U hU64]
    exact wrapD (by omega) (by omega) (by omega)
  have HD1 : Hid (DigQ A B U m1 (U / A) (U % A)) := Lib.hid (DigQ.start hA0 hB1 hm11 (by rw [← HY.out]; exact hp3))
  have HUY := Lib.hid hp3
  clear hp3 hq1
  generalize U / A = q1 at *
  generalize U % A = r1 at *
  have hd1 := digit_lt HUY.out hm11
  have HT := Lib.hid (show (hi * 18446744073709551616 + lo) / y = (U * 4294967296 + m1) / Y * 4294967296 + ((U * 4294967296 + m1) % Y * 4294967296 + m0) / Y by
    rw [HP.out, HM.out, show U * 18446744073709551616 + (m1 * 4294967296 + m0) = (U * 4294967296 + m1) * 4294967296 + m0 by omega]
    exact two_digits U m1 m0 Y (by omega))
  have hvY := Nat.mod_lt (U * 4294967296 + m1) (show 0 < Y by omega)
  have f1 : IntKind.u64.wrap (IntKind.u64.wrap (IntKind.u64.wrap ((U : Int) * 4294967296) + (m1 : Int)) - IntKind.u64.wrap ((((U * 4294967296 + m1) / Y : Nat) : Int) * (Y : Int))) = (((U * 4294967296 + m1) % Y : Nat) : Int) := by
    have h1 := Nat.div_add_mod (U * 4294967296 + m1) Y
    rw [show (((U * 4294967296 + m1) / Y : Nat) : Int) * (Y : Int) = ((Y * ((U * 4294967296 + m1) / Y) : Nat) : Int) by rw [Int.mul_comm, ← Int.natCast_mul]]
    exact wrapT h1 (by omega)
  have hvD : (U * 4294967296 + m1) / Y = (U * 4294967296 + m1) / (A * 4294967296 + B) := by rw [← HY.out]
  obtain ⟨D1, hD1⟩ : ∃ D1, D1 = (U * 4294967296 + m1) / Y := ⟨_, rfl⟩
  obtain ⟨V, hV⟩ : ∃ V, V = (U * 4294967296 + m1) % Y := ⟨_, rfl⟩
  rw [← hD1] at hd1 HT f1 hvD
  rw [← hV] at HT hvY f1
  have HV1 := Lib.hid hvD
  clear hvD hD1 hV
  have hA2 : ¬ ((A : Int) = 0) := by omega
  go_enter Tryz.func261, Tryz.ntmps261
  go_wp2_with fail
  refine (Tryz.bits_LeadingZeros64 (y : Int) _ (by omega) (by omega)).mono ?_
  rintro e w1 ⟨rfl, rfl⟩
  rw [Int.toNat_natCast, HSN.out]
  go_upto_block 0 with fail
  go_cut [15] from 67 to 85 (fun q wx => q = .int .u64 (D1 : Int) ∧ wx = w1)
  case first =>
    go_wp2_with fail
    go_loop [15, 16] (DigS A B U m1) (fun q _ => (intOf q).toNat)
    case atStart => exact ⟨q1, r1, rfl, rfl, hq2, HD1⟩
    case round =>
      clear e1 e3 hor a1 a2 a3 a4 e5 e6 e7 hY1 hh h0 hl hs hb1 hm hU64 hq2 f1 hvY hd1
      obtain ⟨q, r, rfl, rfl, hr, HD⟩ := hrel
      have hqm : (q : Int) ≤ 4294967297 := by have := HD.out.2.2; omega
      have hr' : (r : Int) < 4294967296 := by omega
      clear hr
      by_cases hbig : 4294967296 ≤ q
      · have HN := Lib.hid (HD.out.down (by rw [← HY.out]; exact HUY.out) hm11 (.inl hbig))
        have hbig' : (4294967296 : Int) ≤ (q : Int) := by omega
        clear hbig
        have hq0 : (1 : Int) ≤ (q : Int) := by have := HN.out.1; omega
        by_cases hr2 : 4294967296 ≤ r + A
        · have HF : Hid (Value.int IntKind.u64 ((q : Int) - 1) = Value.int IntKind.u64 (D1 : Int)) := Lib.hid (by
            have h1 := HN.out.2.done hA0 (DigQ.past hB1 (by omega) hr2)
            rw [← HV1.out] at h1
            rw [← h1]
            congr 1
            omega)
          obtain ⟨R2, hR2⟩ : ∃ R2 : Nat, (r : Int) + (A : Int) = (R2 : Int) := ⟨r + A, by omega⟩
          have hr3 : (4294967296 : Int) ≤ (R2 : Int) := by omega
          clear hr2
          go_wp2_with fail
          go_meet
          exact ⟨HF.out, rfl⟩
        · have HM2 : Hid (DigS A B U m1 (.int .u64 ((q : Int) - 1)) (.int .u64 ((r + A : Nat) : Int))) := Lib.hid ⟨q - 1, r + A, by congr 1; omega, rfl, by omega, Lib.hid HN.out.2⟩
          obtain ⟨R2, hR2⟩ : ∃ R2 : Nat, (r : Int) + (A : Int) = (R2 : Int) := ⟨r + A, by omega⟩
          have hr3 : decide ((4294967296 : Int) ≤ (R2 : Int)) = false := decide_eq_false (by omega)
          clear hr2
          go_wp2_with fail
          go_round
          case rel => rw [show (r + A : Nat) = R2 by omega] at HM2; exact HM2.out
          case measure => simp [intOf]; omega
      · have hP : q * B ≤ 4294967295 * 4294967295 := Nat.mul_le_mul (by omega) (by omega)
        have e8 : IntKind.u64.wrap ((q : Int) * (B : Int)) = ((q * B : Nat) : Int) := by rw [← Int.natCast_mul, wrapL _ (by omega)]
        have hbig' : (q : Int) < 4294967296 := by omega
        by_cases hgt : r * 4294967296 + m1 < q * B
        · have HN := Lib.hid (HD.out.down (by rw [← HY.out]; exact HUY.out) hm11 (.inr hgt))
          have hgt' : 4294967296 * (r : Int) + (m1 : Int) < ((q * B : Nat) : Int) := by omega
          clear hgt hbig hP
          generalize q * B = P at *
          have hq0 : (1 : Int) ≤ (q : Int) := by have := HN.out.1; omega
          by_cases hr2 : 4294967296 ≤ r + A
          · have HF : Hid (Value.int IntKind.u64 ((q : Int) - 1) = Value.int IntKind.u64 (D1 : Int)) := Lib.hid (by
              have h1 := HN.out.2.done hA0 (DigQ.past hB1 (by omega) hr2)
              rw [← HV1.out] at h1
              rw [← h1]
              congr 1
              omega)
            obtain ⟨R2, hR2⟩ : ∃ R2 : Nat, (r : Int) + (A : Int) = (R2 : Int) := ⟨r + A, by omega⟩
            have hr3 : (4294967296 : Int) ≤ (R2 : Int) := by omega
            clear hr2
            go_wp2_with fail
            go_meet
            exact ⟨HF.out, rfl⟩
          · have HM2 : Hid (DigS A B U m1 (.int .u64 ((q : Int) - 1)) (.int .u64 ((r + A : Nat) : Int))) := Lib.hid ⟨q - 1, r + A, by congr 1; omega, rfl, by omega, Lib.hid HN.out.2⟩
            obtain ⟨R2, hR2⟩ : ∃ R2 : Nat, (r : Int) + (A : Int) = (R2 : Int) := ⟨r + A, by omega⟩
            have hr3 : decide ((4294967296 : Int) ≤ (R2 : Int)) = false := decide_eq_false (by omega)
            clear hr2
            go_wp2_with fail
            go_round
            case rel => rw [show (r + A : Nat) = R2 by omega] at HM2; exact HM2.out
            case measure => simp [intOf]; omega
        · have HF : Hid (q = D1) := Lib.hid (by rw [HV1.out]; exact HD.out.done hA0 (by omega))
          obtain ⟨T, hT⟩ : ∃ T : Nat, 4294967296 * (r : Int) + (m1 : Int) = (T : Int) := ⟨r * 4294967296 + m1, by omega⟩
          have hgt' : decide (T < q * B) = false := decide_eq_false (by omega)
          have hbig2 : decide ((4294967296 : Int) ≤ (q : Int)) = false := decide_eq_false (by omega)
          clear hgt hbig hP hbig'
          generalize q * B = P at *
          go_wp2_with fail
          go_meet
          exact ⟨by rw [← HF.out], rfl⟩
  case rest =>
    obtain ⟨hq, hw⟩ := hcut
    subst hq
    subst hw
    have HVY := Lib.hid hvY
    obtain ⟨D0, hD0⟩ : ∃ D0, D0 = (V * 4294967296 + m0) / Y := ⟨_, rfl⟩
    have hd0 := digit_lt HVY.out hm01
    have hvE : (V * 4294967296 + m0) / Y = (V * 4294967296 + m0) / (A * 4294967296 + B) := by rw [← HY.out]
    rw [← hD0] at hd0 HT hvE
    have HV0 := Lib.hid hvE
    clear hvE hD0
    have hV64 : V < 18446744073709551616 := by omega
    clear e6 e7 hq2 hU64
    have hq1 : V / A < 18446744073709551616 := Nat.lt_of_le_of_lt (Nat.div_le_self _ _) hV64
    have hq3 : V % A < 4294967296 := by have := Nat.mod_lt V (show 0 < A by omega); omega
    have e6 : IntKind.u64.wrap ((V : Int) / (A : Int)) = ((V / A : Nat) : Int) := by
      rw [← Int.natCast_ediv, wrapL _ hq1]
    have e7 : IntKind.u64.wrap ((V : Int) - IntKind.u64.wrap (((V / A : Nat) : Int) * (A : Int))) = ((V % A : Nat) : Int) := by
      have h1 := Nat.div_add_mod V A
      rw [show ((V / A : Nat) : Int) * (A : Int) = ((A * (V / A) : Nat) : Int) by push_cast; rw [Int.mul_comm], ← wrapL V hV64]
      exact wrapD (by omega) (by omega) (by omega)
    have HD2 : Hid (DigQ A B V m0 (V / A) (V % A)) := Lib.hid (DigQ.start hA0 hB1 hm01 (by rw [← HY.out]; exact hvY))
    clear hvY hq1
    generalize V / A = q2 at *
    generalize V % A = r2 at *
    have HTI := Lib.hid (show (((hi * 18446744073709551616 + lo) / y : Nat) : Int) = (D1 : Int) * 4294967296 + (D0 : Int) by rw [HT.out, Int.natCast_add, Int.natCast_mul]; rfl)
    go_upto_block 2 with fail
    go_cut [18] from 102 to 120 (fun q wx => q = .int .u64 (D0 : Int) ∧ wx = wc)
    case first =>
      go_wp2_with fail
      go_loop [18, 16] (DigS A B V m0) (fun q _ => (intOf q).toNat)
      case atStart => exact ⟨q2, r2, rfl, rfl, hq3, HD2⟩
      case round =>
        clear e6 e7 hY1 hh h0 hl hm hq3 hd1 hd0
        obtain ⟨q, r, rfl, rfl, hr, HD⟩ := hrel
        have hqm : (q : Int) ≤ 4294967297 := by have := HD.out.2.2; omega
        have hr' : (r : Int) < 4294967296 := by omega
        clear hr
        by_cases hbig : 4294967296 ≤ q
        · have HN := Lib.hid (HD.out.down (by rw [← HY.out]; exact HVY.out) hm01 (.inl hbig))
          have hbig' : (4294967296 : Int) ≤ (q : Int) := by omega
          clear hbig
          have hq0 : (1 : Int) ≤ (q : Int) := by have := HN.out.1; omega
          by_cases hr2 : 4294967296 ≤ r + A
          · have HF : Hid (Value.int IntKind.u64 ((q : Int) - 1) = Value.int IntKind.u64 (D0 : Int)) := Lib.hid (by
              have h1 := HN.out.2.done hA0 (DigQ.past hB1 (by omega) hr2)
              rw [← HV0.out] at h1
              rw [← h1]
              congr 1
              omega)
            obtain ⟨R2, hR2⟩ : ∃ R2 : Nat, (r : Int) + (A : Int) = (R2 : Int) := ⟨r + A, by omega⟩
            have hr3 : (4294967296 : Int) ≤ (R2 : Int) := by omega
            clear hr2
            go_wp2_with fail
            go_meet
            exact ⟨HF.out, rfl⟩
          · have HM2 : Hid (DigS A B V m0 (.int .u64 ((q : Int) - 1)) (.int .u64 ((r + A : Nat) : Int))) := Lib.hid ⟨q - 1, r + A, by congr 1; omega, rfl, by omega, Lib.hid HN.out.2⟩
            obtain ⟨R2, hR2⟩ : ∃ R2 : Nat, (r : Int) + (A : Int) = (R2 : Int) := ⟨r + A, by omega⟩
            have hr3 : decide ((4294967296 : Int) ≤ (R2 : Int)) = false := decide_eq_false (by omega)
            clear hr2
            go_wp2_with fail
            go_round
            case rel => rw [show (r + A : Nat) = R2 by omega] at HM2; exact HM2.out
            case measure => simp [intOf]; omega
        · have hP : q * B ≤ 4294967295 * 4294967295 := Nat.mul_le_mul (by omega) (by omega)
          have e8 : IntKind.u64.wrap ((q : Int) * (B : Int)) = ((q * B : Nat) : Int) := by rw [← Int.natCast_mul, wrapL _ (by omega)]
          have hbig' : (q : Int) < 4294967296 := by omega
          by_cases hgt : r * 4294967296 + m0 < q * B
          · have HN := Lib.hid (HD.out.down (by rw [← HY.out]; exact HVY.out) hm01 (.inr hgt))
            have hgt' : 4294967296 * (r : Int) + (m0 : Int) < ((q * B : Nat) : Int) := by omega
            clear hgt hbig hP
            generalize q * B = P at *
            have hq0 : (1 : Int) ≤ (q : Int) := by have := HN.out.1; omega
            by_cases hr2 : 4294967296 ≤ r + A
            · have HF : Hid (Value.int IntKind.u64 ((q : Int) - 1) = Value.int IntKind.u64 (D0 : Int)) := Lib.hid (by
                have h1 := HN.out.2.done hA0 (DigQ.past hB1 (by omega) hr2)
                rw [← HV0.out] at h1
                rw [← h1]
                congr 1
                omega)
              obtain ⟨R2, hR2⟩ : ∃ R2 : Nat, (r : Int) + (A : Int) = (R2 : Int) := ⟨r + A, by omega⟩
              have hr3 : (4294967296 : Int) ≤ (R2 : Int) := by omega
              clear hr2
              go_wp2_with fail
              go_meet
              exact ⟨HF.out, rfl⟩
            · have HM2 : Hid (DigS A B V m0 (.int .u64 ((q : Int) - 1)) (.int .u64 ((r + A : Nat) : Int))) := Lib.hid ⟨q - 1, r + A, by congr 1; omega, rfl, by omega, Lib.hid HN.out.2⟩
              obtain ⟨R2, hR2⟩ : ∃ R2 : Nat, (r : Int) + (A : Int) = (R2 : Int) := ⟨r + A, by omega⟩
              have hr3 : decide ((4294967296 : Int) ≤ (R2 : Int)) = false := decide_eq_false (by omega)
              clear hr2
              go_wp2_with fail
              go_round
              case rel => rw [show (r + A : Nat) = R2 by omega] at HM2; exact HM2.out
              case measure => simp [intOf]; omega
          · have HF : Hid (q = D0) := Lib.hid (by rw [HV0.out]; exact HD.out.done hA0 (by omega))
            obtain ⟨T, hT⟩ : ∃ T : Nat, 4294967296 * (r : Int) + (m0 : Int) = (T : Int) := ⟨r * 4294967296 + m0, by omega⟩
            have hgt' : decide (T < q * B) = false := decide_eq_false (by omega)
            have hbig2 : decide ((4294967296 : Int) ≤ (q : Int)) = false := decide_eq_false (by omega)
            clear hgt hbig hP hbig'
            generalize q * B = P at *
            go_wp2_with fail
            go_meet
            exact ⟨by rw [← HF.out], rfl⟩
    case rest =>
      obtain ⟨hq, hw⟩ := hcut
      subst hq
      subst hw
      go_wp2_with fail
      go_ret2
      unfold QuoPost
      rw [HTI.out]
      exact ⟨⟨_, rfl⟩, 0, rfl⟩
theorem div64_any (hi lo y : Nat) (hh : hi < y) (hl : lo < 18446744073709551616) (hy : y < 18446744073709551616) (w : World) :
    Calls Tryz.prog 261 #[.int .u64 hi, .int .u64 lo, .int .u64 y] w (QuoPost ((hi * 18446744073709551616 + lo) / y) w) := by
  rcases Nat.eq_zero_or_pos hi with h0 | h0
  · subst h0
    rw [Nat.zero_mul, Nat.zero_add]
    exact div64_small lo y hh hl hy w
  · exact div64_big hi lo y hh h0 hl hy w

end Go.Proofs.YtofehcpapdlcnaaGreatDoor

namespace Go.Proofs.YtofehcpapdlcnaaGreatDoor
open Go.RowKit

/-- a limb, zeros above the last one and below the first one -/
def limbA (xs : List Int) (p : Int) : Int := if p < 0 then 0 else xs.getD p.toNat 0
theorem limbA_dig {xs : List Int} (h : DigN xs) (p : Int) : 0 ≤ limbA xs p ∧ limbA xs p ≤ 999999999 := by
  unfold limbA
  split
  · omega
  · exact getD_dig h _
theorem limbA_nat (xs : List Int) (p : Nat) : limbA xs p = xs.getD p 0 := by unfold limbA; rw [if_neg (by omega), Int.toNat_natCast]
theorem nval_down (xs : List Int) (k : Nat) : nval (xs.drop k) = xs.getD k 0 + 1000000000 * nval (xs.drop (k + 1)) := by
  rcases Nat.lt_or_ge k xs.length with h | h
  · rw [nval_drop xs k h, List.getD_eq_getElem?_getD, List.getElem?_eq_getElem h, Option.getD_some]
  · rw [List.drop_of_length_le h, List.drop_of_length_le (by omega), List.getD_eq_getElem?_getD, List.getElem?_eq_none h]
    rfl
theorem nval_split (xs : List Int) (k : Nat) : nval xs = nval (xs.take k) + bp k * nval (xs.drop k) := by
  rcases Nat.lt_or_ge k xs.length with h | h
  · conv => lhs; rw [← List.take_append_drop k xs]
    rw [nval_append, List.length_take, show min k xs.length = k by omega]
  · rw [List.drop_of_length_le h, List.take_of_length_le h]
    show _ = _ + bp k * 0
    rw [Int.mul_zero, Int.add_zero]
theorem nval_low {xs : List Int} (h : DigN xs) (k : Nat) : bp k * nval (xs.drop k) ≤ nval xs := by
  have h1 := nval_split xs k
  have h2 := nval_nonneg _ (h.take k)
  omega
theorem bp_succ (k : Nat) : bp (k + 1) = 1000000000 * bp k := rfl
/-- three limbs of a number, times the place of the middle one -/
theorem three_le {xs : List Int} (h : DigN xs) (p : Nat) : ((limbA xs (p + 1) * 1000000000 + limbA xs p) * 1000000000 + limbA xs ((p : Int) - 1)) * bp p ≤ nval xs * 1000000000 := by
  have e1 : limbA xs ((p : Int) + 1) = xs.getD (p + 1) 0 := limbA_nat xs (p + 1)
  rw [e1, limbA_nat]
  have n2 := nval_nonneg _ (h.drop (p + 1 + 1))
  have d0 := nval_down xs p
  have d1 := nval_down xs (p + 1)
  cases p with
  | zero =>
    have e2 : limbA xs ((0 : Nat) - 1 : Int) = 0 := by unfold limbA; rw [if_pos (by decide)]
    rw [e2]
    rw [List.drop_zero] at d0
    show _ * 1 ≤ _
    omega
  | succ p =>
    have e2 : limbA xs (((p + 1 : Nat) : Int) - 1) = xs.getD p 0 := by
      rw [show ((p + 1 : Nat) : Int) - 1 = (p : Int) by omega, limbA_nat]
    rw [e2]
    have dm := nval_down xs p
    have hlow := nval_low h p
    have hp := bp_pos p
    have hmul : bp p * ((xs.getD (p + 1 + 1) 0 * 1000000000 + xs.getD (p + 1) 0) * 1000000000 + xs.getD p 0) ≤ bp p * nval (xs.drop p) := Int.mul_le_mul_of_nonneg_left (by omega) (by omega)
    rw [bp_succ, Int.mul_comm _ (1000000000 * bp p), Int.mul_assoc]
    omega
/-- two limbs of a number and one more, times the place of the upper one -/
theorem two_ge {ys : List Int} (h : DigN ys) (h0 : 0 < ys.length) : nval ys * 1000000000 ≤ (limbA ys ((ys.length : Int) - 1) * 1000000000 + limbA ys ((ys.length : Int) - 1 - 1) + 1) * bp (ys.length - 1) := by
  obtain ⟨n, hn⟩ : ∃ n, ys.length = n + 1 := ⟨ys.length - 1, by omega⟩
  have e1 : limbA ys ((ys.length : Int) - 1) = ys.getD n 0 := by rw [hn, show ((n + 1 : Nat) : Int) - 1 = (n : Int) by omega, limbA_nat]
  have hz : nval (ys.drop (n + 1)) = 0 := by rw [List.drop_of_length_le (by omega)]; rfl
  have d0 := nval_down ys n
  rw [hz] at d0
  rw [e1, hn, Nat.add_sub_cancel, show ((n + 1 : Nat) : Int) - 1 - 1 = (n : Int) - 1 by omega]
  cases n with
  | zero =>
    have e2 : limbA ys ((0 : Nat) - 1 : Int) = 0 := by unfold limbA; rw [if_pos (by decide)]
    rw [e2]
    rw [List.drop_zero] at d0
    show _ ≤ _ * 1
    omega
  | succ n =>
    have e2 : limbA ys (((n + 1 : Nat) : Int) - 1) = ys.getD n 0 := by
      rw [show ((n + 1 : Nat) : Int) - 1 = (n : Int) by omega, limbA_nat]
    rw [e2]
    have dm := nval_down ys n
    have hs := nval_split ys n
    have ht := nval_lt _ (h.take n)
    have hp := bp_pos n
    rw [List.length_take, show min n ys.length = n by omega] at ht
    have hmul : bp n * nval (ys.drop n) = bp n * (ys.getD (n + 1) 0 * 1000000000 + ys.getD n 0) := by congr 1; omega
    rw [bp_succ, Int.mul_comm _ (1000000000 * bp n), Int.mul_assoc, Int.mul_add]
    omega
/-- the guess -/
def guessN (cur ys : List Int) (sh : Nat) : Int :=
  ((limbA cur ((sh : Int) + ((ys.length : Int) - 1) + 1) * 1000000000 + limbA cur ((sh : Int) + ((ys.length : Int) - 1))) * 1000000000 + limbA cur ((sh : Int) + ((ys.length : Int) - 1) - 1)) /
    (limbA ys ((ys.length : Int) - 1) * 1000000000 + limbA ys ((ys.length : Int) - 1 - 1) + 1)
theorem guess_nonneg {cur ys : List Int} (hc : DigN cur) (hy : DigN ys) (sh : Nat) : 0 ≤ guessN cur ys sh := by
  have a := limbA_dig hc ((sh : Int) + ((ys.length : Int) - 1) + 1)
  have b := limbA_dig hc ((sh : Int) + ((ys.length : Int) - 1))
  have c := limbA_dig hc ((sh : Int) + ((ys.length : Int) - 1) - 1)
  have d := limbA_dig hy ((ys.length : Int) - 1)
  have e := limbA_dig hy ((ys.length : Int) - 1 - 1)
  exact Int.ediv_nonneg (by omega) (by omega)
theorem guess_le {cur ys : List Int} (hc : DigN cur) (hy : DigN ys) (h0 : 0 < ys.length) (sh : Nat) : guessN cur ys sh * (nval ys * bp sh) ≤ nval cur := by
  obtain ⟨n, hn⟩ : ∃ n, ys.length = n + 1 := ⟨ys.length - 1, by omega⟩
  have hA := three_le hc (sh + n)
  have hB := two_ge hy h0
  have hg0 := guess_nonneg hc hy sh
  have d := limbA_dig hy ((ys.length : Int) - 1)
  have e := limbA_dig hy ((ys.length : Int) - 1 - 1)
  unfold guessN at hg0 ⊢
  rw [hn, Nat.add_sub_cancel] at hB
  rw [hn] at hg0 d e ⊢
  rw [show (((n + 1 : Nat) : Int) - 1) = (n : Int) by omega] at hB hg0 d e ⊢
  rw [show ((sh + n : Nat) : Int) = (sh : Int) + (n : Int) by omega] at hA
  generalize hU : limbA ys (n : Int) * 1000000000 + limbA ys ((n : Int) - 1) + 1 = U at *
  generalize (limbA cur ((sh : Int) + (n : Int) + 1) * 1000000000 + limbA cur ((sh : Int) + (n : Int))) * 1000000000 + limbA cur ((sh : Int) + (n : Int) - 1) = N3 at *
  have hU0 : 0 < U := by omega
  have hq : N3 / U * U ≤ N3 := Int.ediv_mul_le N3 (by omega)
  generalize N3 / U = q at *
  have hps := bp_pos sh
  have hpn := bp_pos n
  have h1 : q * bp sh * (nval ys * 1000000000) ≤ q * bp sh * (U * bp n) := Int.mul_le_mul_of_nonneg_left hB (Int.mul_nonneg hg0 (by omega))
  have h2 : q * U * bp (sh + n) ≤ N3 * bp (sh + n) := Int.mul_le_mul_of_nonneg_right hq (by have := bp_pos (sh + n); omega)
  have e1 : q * bp sh * (U * bp n) = q * U * bp (sh + n) := by rw [bp_add]; simp only [Int.mul_assoc, Int.mul_comm, Int.mul_left_comm]
  have e2 : q * bp sh * (nval ys * 1000000000) = q * (nval ys * bp sh) * 1000000000 := by simp only [Int.mul_assoc, Int.mul_comm, Int.mul_left_comm]
  rw [e1, e2] at h1
  omega
/-- below a limb, where the number is below the divisor one place up -/
theorem factor_lt {g N D : Int} (hD : 0 < D) (h1 : g * D ≤ N) (h2 : N < 1000000000 * D) : g < 1000000000 := by
  by_cases h : g < 1000000000
  · exact h
  · have := Int.mul_le_mul_of_nonneg_right (show 1000000000 ≤ g by omega) (show 0 ≤ D by omega)
    omega

theorem add64_run (x y : Nat) (w : World) : (callFunc 260 #[.int .u64 x, .int .u64 y, .int .u64 0]).run Tryz.prog w =
    .ok (.value (.tuple #[.int .u64 (((x + y) % 18446744073709551616 : Nat) : Int), .int .u64 (((x + y) / 18446744073709551616 : Nat) : Int)])) w := by
  rw [run_callFunc_extern Tryz.func260 (by kernel_rfl) (by kernel_rfl) (by kernel_rfl) (e := add64Entry) (by kernel_rfl), run_add64 x y 0 (by omega) (by omega) (by omega) (by omega)]
  simp only [Result.andThen]
  congr 5 <;> omega

theorem limbAt_A (v : Value) (xs : List Int) (p : Int) (lo hi : Nat) (w : World) (hl : xs.length ≤ 1048576) (hr : Row w lo hi v (intsV xs)) :
    Calls Tryz.prog 254 #[v, .int .i64 p] w fun e w' => e = .returned (.int .i64 (limbA xs p)) ∧ w = w' := limbAt_any v xs p lo hi w hl hr
/-- the words of the division in guess -/
theorem guess_words {F l3 U : Int} (hF0 : 0 ≤ F) (hF1 : F ≤ 999999999999999999) (hl0 : 0 ≤ l3) (hl1 : l3 ≤ 999999999) (hU0 : 1000000001 ≤ U) (hU1 : U ≤ 1000000000000000000) :
    F.toNat * 1000000000 / 18446744073709551616 + (F.toNat * 1000000000 % 18446744073709551616 + l3.toNat) / 18446744073709551616 < U.toNat ∧
    ((((F.toNat * 1000000000 / 18446744073709551616 + (F.toNat * 1000000000 % 18446744073709551616 + l3.toNat) / 18446744073709551616) * 18446744073709551616 + (F.toNat * 1000000000 % 18446744073709551616 + l3.toNat) % 18446744073709551616) / U.toNat : Nat) : Int) = (F * 1000000000 + l3) / U := by
  refine ⟨by omega, ?_⟩
  have e : (F.toNat * 1000000000 / 18446744073709551616 + (F.toNat * 1000000000 % 18446744073709551616 + l3.toNat) / 18446744073709551616) * 18446744073709551616 + (F.toNat * 1000000000 % 18446744073709551616 + l3.toNat) % 18446744073709551616 = F.toNat * 1000000000 + l3.toNat := by omega
  rw [e, Int.natCast_ediv]
  congr 1 <;> omega
set_option maxHeartbeats 1000000 in
set_option maxRecDepth 100000 in
theorem guess_any (b : Nat) (v : Value) (cur : List Int) (vy : Value) (ys : List Int) (lo hi lo2 hi2 : Nat) (sh : Nat) (w : World) (hcl : cur.length ≤ 1048576) (hyl : ys.length ≤ 1048576) (hsh : sh ≤ 1048576)
    (hdc : DigN cur) (hdy : DigN ys) (hy0 : 0 < ys.length) (hyt : ys.getLastD 1 ≠ 0) (hN : nval cur < 1000000000 * (nval ys * bp sh))
    (hv : w.cell? ⟨b, 0, none⟩ = some v) (hrc : Row w lo2 hi2 v (intsV cur)) (hry : Row w lo hi vy (intsV ys)) :
    Calls Tryz.prog 253 #[.pointer (some ⟨b, 0, none⟩), vy, .int .i64 sh] w fun e w' => e = .returned (.int .i64 (guessN cur ys sh)) ∧ ∃ q, w.drewN q = w' := by
  have hg0 := guess_nonneg hdc hdy sh
  have hgl := guess_le hdc hdy hy0 sh
  have hy1 := nval_ge ys hdy hyt hy0
  have hD : 0 < nval ys * bp sh := Int.mul_pos (by have := bp_pos (ys.length - 1); omega) (bp_pos sh)
  have hg1 := factor_lt hD hgl hN
  have hd1 := limbA_dig hdy ((ys.length : Int) - 1)
  have hd2 := limbA_dig hdy ((ys.length : Int) - 1 - 1)
  have hc1 := limbA_dig hdc ((sh : Int) + ((ys.length : Int) - 1) + 1)
  have hc2 := limbA_dig hdc ((sh : Int) + ((ys.length : Int) - 1))
  have hc3 := limbA_dig hdc ((sh : Int) + ((ys.length : Int) - 1) - 1)
  have hlast : limbA ys ((ys.length : Int) - 1) ≠ 0 ∧ ys[ys.length - 1]'(by omega) = limbA ys ((ys.length : Int) - 1) := by
    have e : limbA ys ((ys.length : Int) - 1) = ys[ys.length - 1]'(by omega) := by
      rw [show ((ys.length : Int) - 1) = ((ys.length - 1 : Nat) : Int) by omega, limbA_nat, List.getD_eq_getElem?_getD, List.getElem?_eq_getElem (by omega), Option.getD_some]
    refine ⟨?_, e.symm⟩
    rw [e]
    intro h
    apply hyt
    rw [List.getLastD_eq_getLast?, List.getLast?_eq_getElem?, List.getElem?_eq_getElem (by omega), Option.getD_some, h]
  have hcell := hry
  obtain ⟨A, c, rfl, hA⟩ := hcell
  rw [intsV_length] at hry ⊢
  obtain ⟨a, rfl, _, _, hca⟩ := hA (ys.length - 1) _ (intsV_at ys (ys.length - 1) (by omega))
  rw [hlast.2] at hca
  have hU0 : 1000000001 ≤ limbA ys ((ys.length : Int) - 1) * 1000000000 + limbA ys ((ys.length : Int) - 1 - 1) + 1 := by have := hlast.1; omega
  have hU1 : limbA ys ((ys.length : Int) - 1) * 1000000000 + limbA ys ((ys.length : Int) - 1 - 1) + 1 ≤ 1000000000000000000 := by omega
  have hF0 : 0 ≤ limbA cur ((sh : Int) + ((ys.length : Int) - 1) + 1) * 1000000000 + limbA cur ((sh : Int) + ((ys.length : Int) - 1)) := by omega
  have hF1 : limbA cur ((sh : Int) + ((ys.length : Int) - 1) + 1) * 1000000000 + limbA cur ((sh : Int) + ((ys.length : Int) - 1)) ≤ 999999999999999999 := by omega
  have HW := Lib.hid (guess_words hF0 hF1 hc3.1 hc3.2 hU0 hU1)
  have HG : Hid (guessN cur ys sh = ((limbA cur ((sh : Int) + ((ys.length : Int) - 1) + 1) * 1000000000 + limbA cur ((sh : Int) + ((ys.length : Int) - 1))) * 1000000000 + limbA cur ((sh : Int) + ((ys.length : Int) - 1) - 1)) /
    (limbA ys ((ys.length : Int) - 1) * 1000000000 + limbA ys ((ys.length : Int) - 1 - 1) + 1)) := Lib.hid rfl
  unfold guessN at hg0 hg1
  clear hN hgl hy1 hD hlast hyt hA
  have hadd := add64_run
  go_enter Tryz.func253, Tryz.ntmps253
  go_wp2
  go_quiet ((go_at_call 254; exact quiet_at rfl (limbAt_A _ ys _ lo hi _ hyl (hry.drewN _))))
  go_wp2
  go_quiet ((go_at_call 254; exact quiet_at rfl (limbAt_A _ cur _ lo2 hi2 _ hcl (hrc.drewN _))))
  generalize limbA cur ((sh : Int) + ((ys.length : Int) - 1) + 1) = C1 at *
  generalize limbA cur ((sh : Int) + ((ys.length : Int) - 1)) = C2 at *
  obtain ⟨F, hF⟩ : ∃ F : Nat, C1 * 1000000000 + C2 = (F : Int) := ⟨_, (Int.toNat_of_nonneg hF0).symm⟩
  rw [hF, Int.toNat_natCast] at HW
  rw [hF] at hg0 hg1 hF1 HG ⊢
  have hc11 := hc1.1
  have hc12 := hc1.2
  have hc21 := hc2.1
  have hc22 := hc2.2
  have hd11 := hd1.1
  have hd12 := hd1.2
  have hd21 := hd2.1
  have hd22 := hd2.2
  obtain ⟨U, hU⟩ : ∃ U : Nat, limbA ys ((ys.length : Int) - 1) * 1000000000 + limbA ys ((ys.length : Int) - 1 - 1) + 1 = (U : Int) := ⟨_, (Int.toNat_of_nonneg (by omega)).symm⟩
  rw [hU, Int.toNat_natCast] at HW
  rw [hU] at hg0 hg1 hU1 hU0 HG ⊢
  clear hc1 hc2 hd1 hd2
  obtain ⟨l3, hl3⟩ : ∃ l3 : Nat, limbA cur ((sh : Int) + ((ys.length : Int) - 1) - 1) = (l3 : Int) := ⟨_, (Int.toNat_of_nonneg hc3.1).symm⟩
  rw [hl3, Int.toNat_natCast] at HW
  rw [hl3] at hg0 hg1 hc3 HG
  have hl31 := hc3.2
  have hF2 : F * 1000000000 / 18446744073709551616 ≤ 1000000000 := by omega
  clear hc3 hd11 hd12 hd21 hd22 hc11 hc12 hc21 hc22
  go_wp2_with fail
  refine (Tryz.bits_Mul64 F 1000000000 (by omega) (by omega) _).mono ?_
  rintro e w1 ⟨rfl, rfl⟩
  have hm := Nat.mod_lt (F * 1000000000) (show 0 < 18446744073709551616 by omega)
  obtain ⟨h1, hh1⟩ : ∃ h1, F * 1000000000 / 18446744073709551616 = h1 := ⟨_, rfl⟩
  obtain ⟨m1, hm1⟩ : ∃ m1, F * 1000000000 % 18446744073709551616 = m1 := ⟨_, rfl⟩
  rw [hh1] at HW hF2 ⊢
  rw [hm1] at HW hm ⊢
  clear hh1 hm1
  go_wp2_with fail
  refine (limbAt_A v cur _ lo2 hi2 _ hcl (hrc.drewN _)).mono ?_
  rintro e w1 ⟨rfl, rfl⟩
  rw [hl3]
  have hHW := HW.out
  have hm2 := Nat.mod_lt (m1 + l3) (show 0 < 18446744073709551616 by omega)
  have hh2 : (m1 + l3) / 18446744073709551616 ≤ 1 := by omega
  rw [hHW.2.symm] at hg0 hg1
  have hHW1 := hHW.1
  have HQ := Lib.hid (HG.out.trans hHW.2.symm)
  clear hHW HW HG
  obtain ⟨c1, hc1⟩ : ∃ c1, (m1 + l3) / 18446744073709551616 = c1 := ⟨_, rfl⟩
  obtain ⟨m2, hc2⟩ : ∃ m2, (m1 + l3) % 18446744073709551616 = m2 := ⟨_, rfl⟩
  rw [hc1] at HQ hg0 hg1 hHW1 hh2
  rw [hc2] at HQ hg0 hg1 hm2
  have hc1i : ((m1 : Int) + (l3 : Int)) / 18446744073709551616 = (c1 : Int) := by omega
  have hc2i : ((m1 : Int) + (l3 : Int)) % 18446744073709551616 = (m2 : Int) := by omega
  obtain ⟨h2, hh3⟩ : ∃ h2 : Nat, (h1 : Int) + (c1 : Int) = (h2 : Int) := ⟨h1 + c1, by omega⟩
  rw [show h1 + c1 = h2 by omega] at HQ hg0 hg1 hHW1
  go_wp2_with fail
  refine (div64_any h2 m2 U hHW1 hm2 (by omega) _).mono ?_
  rintro e w1 ⟨⟨r, rfl⟩, n2, rfl⟩
  generalize (h2 * 18446744073709551616 + m2) / U = q at *
  go_wp2_with fail
  go_ret
  exact ⟨ret_int HQ.out.symm, _, rfl⟩
end Go.Proofs.YtofehcpapdlcnaaGreatDoor

namespace Go.Proofs.YtofehcpapdlcnaaGreatDoor
open Go.RowKit

/-- a number without zeros at its end -/
def Trim (xs : List Int) : Prop := DigN xs ∧ xs.getLastD 1 ≠ 0
theorem limbs_trim (n : Nat) : Trim (limbs n) := ⟨limbs_digN n, limbs_lastN n⟩
theorem Trim.drop {xs : List Int} (h : Trim xs) (k : Nat) : Trim (xs.drop k) := by
  refine ⟨h.1.drop k, ?_⟩
  rcases Nat.lt_or_ge k xs.length with hk | hk
  · have h2 := h.2
    rw [List.getLastD_eq_getLast?, List.getLast?_eq_getElem?, List.getElem?_drop]
    rw [List.getLastD_eq_getLast?, List.getLast?_eq_getElem?] at h2
    rw [List.length_drop, show k + (xs.length - k - 1) = xs.length - 1 by omega]
    exact h2
  · rw [List.drop_of_length_le hk]
    decide
theorem nval_shift {xs : List Int} (h : DigN xs) (k : Nat) : nval (xs.drop k) = nval xs / bp k := by
  have h1 := nval_split xs k
  have hp := bp_pos k
  have h2 := nval_nonneg _ (h.take k)
  have h3 : nval (xs.take k) < bp k := by
    have h4 := nval_lt _ (h.take k)
    have h5 := bp_mono (show (xs.take k).length ≤ k by rw [List.length_take]; omega)
    omega
  rw [h1, Int.add_mul_ediv_left _ _ (by omega), Int.ediv_eq_zero_of_lt h2 h3, Int.zero_add]
/-- whether the divisor, shifted, goes into the number -/
def holdsB (N Y : Int) (sh : Nat) : Bool := decide (Y * bp sh ≤ N)
theorem holds_iff (N Y : Int) (sh : Nat) : Y * bp sh ≤ N ↔ Y ≤ N / bp sh := (Int.le_ediv_iff_mul_le (bp_pos sh)).symm

theorem drop_row {w : World} {lo hi : Nat} {A : Option Addr} {n c : Nat} {xs : List Value} (h : Row w lo hi (.slice A n c) xs) (k : Nat) (_hk : k ≤ xs.length) : n = xs.length ∧ Row w lo hi (.slice (A.map (·.add k)) (n - k) (c - k)) (xs.drop k) := by
  obtain ⟨A', c', e, h⟩ := h
  injection e with e1 e2 e3
  subst e1 e2 e3
  refine ⟨rfl, A.map (·.add k), _, by rw [List.length_drop], fun j u hj => ?_⟩
  rw [List.getElem?_drop] at hj
  obtain ⟨a, rfl, h1, h2, h3⟩ := h _ _ hj
  refine ⟨_, rfl, by rw [block_add]; exact h1, by rw [block_add]; exact h2, ?_⟩
  rw [← h3]
  congr 1
  unfold Addr.add
  by_cases hk0 : k = 0 <;> by_cases hj0 : j = 0 <;> simp_all [Nat.add_assoc]

set_option maxHeartbeats 1000000 in
set_option maxRecDepth 100000 in
theorem holds_any (b : Nat) (v : Value) (cur : List Int) (vy : Value) (ys : List Int) (lo hi lo2 hi2 : Nat) (sh : Nat) (w : World) (hcl : cur.length ≤ 1048576) (hyl : ys.length ≤ 1048576) (hsh : sh ≤ 1048576)
    (hc : Trim cur) (hy : Trim ys) (hy0 : 0 < ys.length) (hv : w.cell? ⟨b, 0, none⟩ = some v) (hrc : Row w lo2 hi2 v (intsV cur)) (hcap : ∀ A n c, v = .slice A n c → n ≤ c) (hry : Row w lo hi vy (intsV ys)) :
    Calls Tryz.prog 252 #[.pointer (some ⟨b, 0, none⟩), vy, .int .i64 sh] w fun e w' => e = .returned (.bool (holdsB (nval cur) (nval ys) sh)) ∧ ∃ q, w.drewN q = w' := by
  have hcell := hrc
  obtain ⟨A, c, rfl, hA⟩ := hcell
  have hcp := hcap _ _ _ rfl
  rw [intsV_length] at hrc hv hcp
  clear hA hcap
  by_cases hs : sh < cur.length
  · obtain ⟨-, hd⟩ := drop_row hrc sh (by rw [intsV_length]; omega)
    rw [show (intsV cur).drop sh = intsV (cur.drop sh) by simp [intsV]] at hd
    obtain ⟨a, rfl⟩ : ∃ a, A = some a := by
      obtain ⟨A', c', e, hA⟩ := hrc
      obtain ⟨a, e2, _⟩ := hA 0 _ (intsV_at cur 0 (by omega))
      injection e with e1
      exact ⟨a, e1.trans e2⟩
    have HV := Lib.hid (show holdsB (nval cur) (nval ys) sh = decide (0 ≤ cmpI (nval (cur.drop sh)) (nval ys)) by
      unfold holdsB
      rw [nval_shift hc.1, Bool.eq_iff_iff, decide_eq_true_eq, decide_eq_true_eq, holds_iff]
      unfold cmpI
      constructor
      · intro h; rw [if_neg (by omega)]; split <;> omega
      · intro h
        by_cases hlt : nval cur / bp sh < nval ys
        · rw [if_pos hlt] at h; omega
        · omega)
    have hcm : cmpI (nval (cur.drop sh)) (nval ys) = -1 ∨ cmpI (nval (cur.drop sh)) (nval ys) = 0 ∨ cmpI (nval (cur.drop sh)) (nval ys) = 1 := by unfold cmpI; split; exact .inl rfl; split; exact .inr (.inr rfl); exact .inr (.inl rfl)
    go_enter Tryz.func252, Tryz.ntmps252
    go_wp2_with fail
    refine (compareLimbs_any _ vy (cur.drop sh) ys _ _ _ _ _ (by rw [List.length_drop]; omega) (by omega) (hc.drop sh) hy hd hry).mono ?_
    rintro e w1 ⟨rfl, q, rfl⟩
    have HV2 := HV.out
    generalize cmpI (nval (cur.drop sh)) (nval ys) = z at *
    go_wp2
    go_ret
    exact ⟨ret_bool HV.out.symm, q, rfl⟩
  · have HV := Lib.hid (show holdsB (nval cur) (nval ys) sh = false by
      unfold holdsB
      rw [decide_eq_false_iff_not]
      intro h
      have h1 := nval_lt cur hc.1
      have h2 := bp_mono (show cur.length ≤ sh by omega)
      have h3 := nval_ge ys hy.1 hy.2 hy0
      have h4 := Int.mul_le_mul_of_nonneg_right (show 1 ≤ nval ys by have := bp_pos (ys.length - 1); omega) (show 0 ≤ bp sh by have := bp_pos sh; omega)
      omega)
    go_enter Tryz.func252, Tryz.ntmps252
    go_wp2
    go_ret
    exact ⟨ret_bool HV.out.symm, 0, rfl⟩

theorem NatOn.reads {T : List Nat} {b : Nat} {xs : List Int} {w : World} (h : NatOn T b xs w) : ∃ v, w.cell? ⟨b, 0, none⟩ = some v ∧ Row w 0 w.heap.size v (intsV xs) ∧ (∀ A n c, v = .slice A n c → n ≤ c) := by
  obtain ⟨v, hb, ho, _, _⟩ := h
  refine ⟨v, by rw [Lib.cell_of_heap hb]; rfl, Row.of_own ho, ?_⟩
  rintro A n c rfl
  rcases ho.2 with ⟨h1, h2⟩ | ⟨g, cap, cur, e1, _, _, hn, _⟩
  · injection h1 with h3 h4 h5; omega
  · injection e1 with h3 h4 h5; omega
theorem NatOn.drewN {T : List Nat} {b : Nat} {xs : List Int} {w : World} (h : NatOn T b xs w) (q : Nat) : NatOn T b xs (w.drewN q) := h
theorem Kept.drewN {T : List Nat} {b : Nat} {xs : List Int} {w w' : World} (h : Kept T b xs w w') (q : Nat) : Kept T b xs w (w'.drewN q) := ⟨h.1, ⟨h.2.os, h.2.tape, h.2.output, h.2.size, h.2.block⟩⟩
theorem limbs_small (m n : Int) (h0 : 0 ≤ m) (h : m ≤ n) (k : Nat) (hk : (limbs n.toNat).length ≤ k) : (limbs m.toNat).length ≤ k := Nat.le_trans (limbs_mono h0 h) hk
/-- where the divisor goes in, the number is long enough -/
theorem holds_long {N : Int} {ys : List Int} {sh : Nat} (hN : 0 ≤ N) (hy : Trim ys) (hy0 : 0 < ys.length) (h : nval ys * bp sh ≤ N) : sh + ys.length ≤ (limbs N.toNat).length := by
  have h1 := nval_lt _ (limbs_digN N.toNat)
  rw [limbs_toNat N hN] at h1
  have h2 := nval_ge ys hy.1 hy.2 hy0
  have h3 := Int.mul_le_mul_of_nonneg_right h2 (show 0 ≤ bp sh by have := bp_pos sh; omega)
  rw [← bp_add] at h3
  rcases Nat.lt_or_ge (limbs N.toNat).length (sh + ys.length) with hl | hl
  · have := bp_mono (show (limbs N.toNat).length ≤ ys.length - 1 + sh by omega)
    omega
  · exact hl
/-- one round of takeMost -/
theorem most_next {N0 N t D g : Int} (hD : 0 < D) (h0 : N0 < 1000000000 * D) (hN : N = N0 - t * D) (hg : g * D ≤ N) (_ht : 0 ≤ t) : t + g < 1000000000 ∧ N - g * D = N0 - (t + g) * D ∧ 0 ≤ N - g * D := by
  have e : (t + g) * D = t * D + g * D := Int.add_mul _ _ _
  refine ⟨factor_lt hD (N := N0) (by omega) h0, by omega, by omega⟩
theorem most_done {N0 N t D : Int} (hD : 0 < D) (hN : N = N0 - t * D) (h0 : 0 ≤ N) (h1 : N < D) : t = N0 / D ∧ N = N0 % D := by
  have e : N0 = N + t * D := by omega
  rw [e, Int.add_mul_ediv_right _ _ (by omega), Int.ediv_eq_zero_of_lt h0 h1, Int.add_mul_emod_self_right, Int.emod_eq_of_lt h0 h1]
  exact ⟨by omega, rfl⟩

set_option maxHeartbeats 1000000 in
set_option maxRecDepth 100000 in
theorem takeMost_on (T S : List Nat) (b : Nat) (xs : List Int) (vy : Value) (ys : List Int) (lo hi sh : Nat) (w : World) (hxl : xs.length ≤ 1048576) (hyl : ys.length ≤ 1048576) (hsh : sh ≤ 1048576)
    (hx : Trim xs) (hy : Trim ys) (hy0 : 0 < ys.length) (hN : nval xs < 1000000000 * (nval ys * bp sh)) (hST : ∀ g ∈ S, g ∉ T) (hr : At S (fun w => Row w lo hi vy (intsV ys)) w) (h : NatOn T b xs w) :
    Calls Tryz.prog 232 #[.pointer (some ⟨b, 0, none⟩), vy, .int .i64 sh] w fun e w' =>
      e = .returned (.int .i64 (nval xs / (nval ys * bp sh))) ∧ Kept T b (limbs (nval xs % (nval ys * bp sh)).toNat) w w' := by
  have hx0 := nval_nonneg xs hx.1
  have hxe : xs = limbs (nval xs).toNat := by rw [← trim_limbs xs hx.1, trim_last xs hx.2]
  have hy1 := nval_ge ys hy.1 hy.2 hy0
  have hD : 0 < nval ys * bp sh := Int.mul_pos (by have := bp_pos (ys.length - 1); omega) (bp_pos sh)
  rw [hxe] at h hxl
  have HST := Lib.hid hST
  have HR0 := Lib.hid hr
  have HY := Lib.hid hy
  have HY0 := Lib.hid hy0
  have HN := Lib.hid hN
  have HD := Lib.hid hD
  have HX := Lib.hid hx0
  have HXL := Lib.hid hxl
  clear hx hy hN hST hr hxe hx0 hD hy1 hy0 hxl
  generalize nval xs = N0 at *
  go_enter Tryz.func232, Tryz.ntmps232
  go_wp2
  go_loopg [7] N0.toNat (fun n t wr => ∃ (N tt : Int), t = .int .i64 tt ∧ 0 ≤ tt ∧ tt ≤ 999999999 ∧ Hid (n = N.toNat ∧ 0 ≤ N ∧ N ≤ N0 ∧ N = N0 - tt * (nval ys * bp sh)) ∧ Kept T b (limbs N.toNat) w wr)
  case atStart => exact ⟨N0, 0, rfl, by omega, by omega, Lib.hid ⟨rfl, HX.out, Int.le_refl _, by omega⟩, h, Chg.refl _ _⟩
  case round =>
    obtain ⟨N, tt, rfl, ht0, ht1, HI, hat⟩ := hrel
    obtain ⟨v, hv, hrc, hcp⟩ := NatOn.reads hat.1
    have hrow := HR0.out.chg hat.2 HST.out
    have hlen := limbs_small N N0 HI.out.2.1 HI.out.2.2.1 _ HXL.out
    have hnv := limbs_toNat N HI.out.2.1
    by_cases hge : nval ys * bp sh ≤ N
    · have HB := Lib.hid (show holdsB (nval (limbs N.toNat)) (nval ys) sh = true by unfold holdsB; rw [hnv]; exact decide_eq_true hge)
      have hgl := guess_le (limbs_digN N.toNat) HY.out.1 HY0.out sh
      have hg0 := guess_nonneg (limbs_digN N.toNat) HY.out.1 sh
      rw [hnv] at hgl
      have HNB := Lib.hid (show nval (limbs N.toNat) < 1000000000 * (nval ys * bp sh) by rw [hnv]; have := HN.out; have := HI.out.2.2.1; omega)
      have HLL := Lib.hid (holds_long HI.out.2.1 HY.out HY0.out hge)
      have hmax : max 1 (guessN (limbs N.toNat) ys sh) * (nval ys * bp sh) ≤ N := by
        rcases Int.le_total 1 (guessN (limbs N.toNat) ys sh) with h1 | h1
        · rw [Int.max_eq_right h1]; exact hgl
        · rw [Int.max_eq_left h1]; omega
      have hm1 : 1 ≤ max 1 (guessN (limbs N.toNat) ys sh) := Int.le_max_left _ _
      have hnext := most_next HD.out HN.out HI.out.2.2.2 hmax ht0
      have hmle : max 1 (guessN (limbs N.toNat) ys sh) ≤ 999999999 := by have := hnext.1; omega
      have HM := Lib.hid hmax
      have HNX := Lib.hid hnext
      have htm : tt + max 1 (guessN (limbs N.toNat) ys sh) ≤ 999999999 := by have := hnext.1; omega
      clear hge hgl hmax hnext
      go_wp2_with fail
      refine (holds_any b v _ vy ys _ _ _ _ sh _ hlen hyl hsh (limbs_trim _) HY.out HY0.out hv hrc hcp hrow.here).mono ?_
      rintro e w1 ⟨rfl, q1, rfl⟩
      rw [HB.out]
      go_wp2_with fail
      refine (guess_any b v _ vy ys _ _ _ _ sh (wr.drewN q1) hlen hyl hsh (limbs_digN _) HY.out.1 HY0.out HY.out.2 HNB.out hv (hrc.drewN _) (hrow.here.drewN _)).mono ?_
      rintro e w1 ⟨rfl, q2, rfl⟩
      generalize guessN (limbs N.toNat) ys sh = gz at *
      go_wp2_with fail
      clear hg0
      generalize max 1 gz = g at *
      have hle : g * bp sh * nval ys ≤ nval (limbs N.toNat) := by
        rw [hnv, Int.mul_assoc, Int.mul_comm (bp sh)]
        exact HM.out
      refine (takeTimes_on T S b (limbs N.toNat) vy ys lo hi g sh (wr.drewN (q1 + q2)) hlen HLL.out (by omega) (by omega) (limbs_digN _) HY.out.1 hle HST.out (hrow.drewN _) hat.1).mono ?_
      rintro e w1 ⟨rfl, hat1⟩
      rw [hnv, Int.mul_assoc, Int.mul_comm (bp sh)] at hat1
      have HK := Lib.hid (show Kept T b (limbs (N - g * (nval ys * bp sh)).toNat) w w1 from (hat.drewN (q1 + q2)).trans hat1)
      have hpos : 1 * (nval ys * bp sh) ≤ g * (nval ys * bp sh) := Int.mul_le_mul_of_nonneg_right hm1 (by have := HD.out; omega)
      have HP := Lib.hid hpos
      clear hpos hle hat1 hlen hnv hv hrc hcp hrow
      go_wp2_with fail
      go_roundg (N - g * (nval ys * bp sh)).toNat
      case measure =>
        have h1 := HI.out.1
        have h2 := HP.out
        have h3 := HD.out
        have h4 := HNX.out.2.2
        omega
      case rel => exact ⟨N - g * (nval ys * bp sh), tt + g, rfl, by omega, htm, Lib.hid ⟨rfl, HNX.out.2.2, by have := HI.out.2.2.1; have := HP.out; have := HD.out; omega, HNX.out.2.1⟩, HK.out⟩
    · have HB := Lib.hid (show holdsB (nval (limbs N.toNat)) (nval ys) sh = false by unfold holdsB; rw [hnv]; exact decide_eq_false hge)
      have HE := Lib.hid (most_done HD.out HI.out.2.2.2 HI.out.2.1 (by omega))
      clear hge
      go_wp2_with fail
      refine (holds_any b v _ vy ys _ _ _ _ sh _ hlen hyl hsh (limbs_trim _) HY.out HY0.out hv hrc hcp hrow.here).mono ?_
      rintro e w1 ⟨rfl, q1, rfl⟩
      rw [HB.out]
      go_wp2_with fail
      go_ret
      exact ⟨ret_int HE.out.1, by rw [← HE.out.2]; exact hat.drewN q1⟩

theorem NatAt.chg {T : List Nat} {B b : Nat} {xs : List Int} {w w' : World} (h : NatAt B b xs w) (c : Chg T w w') (hT : ∀ g ∈ T, g < B) : NatAt B b xs w' := by
  obtain ⟨U, hU, hB⟩ := h.on
  exact (hU.at_.chg c (fun g hg hm => by have := hB g hg; have := hT g hm; omega)).here.natAt hB
theorem NatOn.belowB {T : List Nat} {B b : Nat} {xs : List Int} {w w' : World} (h : NatOn T b xs w) (hb : Below B w w') (hT : ∀ g ∈ T, g < B) : NatOn T b xs w' :=
  (h.at_.move (fun g hg => hb.block g (hT g hg)) hb.size).here
theorem chg_below {T : List Nat} {w w1 w2 : World} (c : Chg T w w1) (hb : Below w.heap.size w1 w2) : Chg T w w2 :=
  ⟨hb.os.trans c.os, hb.tape.trans c.tape, hb.output.trans c.output, Nat.le_trans c.size hb.size, fun i hi hn => (hb.block i hi).trans (c.block i hi hn)⟩

/-- a long division that has come down to place k -/
def DivideR (X Y : Int) (M k : Nat) (N : Int) (qs : List Int) : Prop :=
  0 ≤ N ∧ N ≤ X ∧ N < Y * bp k ∧ X = N + Y * nval qs ∧ DigN qs ∧ qs.length ≤ M ∧ ∀ j, j < k → qs.getD j 0 = 0
theorem DivideR.start {xs ys : List Int} (hx : Trim xs) (hy : Trim ys) (hy0 : 0 < ys.length) (M : Nat) : DivideR (nval xs) (nval ys) M ((xs.length : Int) - (ys.length : Int) + 1).toNat (nval xs) [] := by
  have h1 := nval_lt xs hx.1
  have h2 := nval_ge ys hy.1 hy.2 hy0
  refine ⟨nval_nonneg xs hx.1, Int.le_refl _, ?_, (by show _ = _ + nval ys * 0; rw [Int.mul_zero, Int.add_zero]), (fun d hd => by cases hd), Nat.zero_le _, fun j _ => by simp⟩
  generalize hk : ((xs.length : Int) - (ys.length : Int) + 1).toNat = k
  have h3 := Int.mul_le_mul_of_nonneg_right h2 (show 0 ≤ bp k by have := bp_pos k; omega)
  rw [← bp_add] at h3
  have h4 := bp_mono (show xs.length ≤ ys.length - 1 + k by omega)
  omega
theorem getD_set_other (xs : List Int) (p j : Nat) (d : Int) (h : j ≠ p) : (xs.set p d).getD j 0 = xs.getD j 0 := by
  rw [List.getD_eq_getElem?_getD, List.getElem?_set_ne (Ne.symm h), List.getD_eq_getElem?_getD]
theorem getD_pad (xs : List Int) (n j : Nat) : (padL xs n).getD j 0 = xs.getD j 0 := by
  unfold padL
  rw [List.getD_eq_getElem?_getD, List.getD_eq_getElem?_getD]
  rcases Nat.lt_or_ge j xs.length with h | h
  · rw [List.getElem?_append_left h]
  · rw [List.getElem?_append_right h, List.getElem?_replicate, List.getElem?_eq_none h]
    split <;> rfl
theorem DivideR.next {X Y : Int} {M k : Nat} {N : Int} {qs : List Int} (h : DivideR X Y M (k + 1) N qs) (hY : 0 < Y) (hM : k < M) :
    0 ≤ N / (Y * bp k) ∧ N / (Y * bp k) ≤ 999999999 ∧ DivideR X Y M k (N % (Y * bp k)) (addAtL qs k (N / (Y * bp k))) := by
  obtain ⟨h0, hX, h1, h2, h3, h4, h5⟩ := h
  have hD : 0 < Y * bp k := Int.mul_pos hY (bp_pos k)
  have hq0 : 0 ≤ N / (Y * bp k) := Int.ediv_nonneg h0 (by omega)
  have hr0 := Int.emod_nonneg N (show Y * bp k ≠ 0 by omega)
  have hr1 := Int.emod_lt_of_pos N hD
  have he := Int.emod_add_mul_ediv N (Y * bp k)
  rw [bp_succ, Int.mul_left_comm] at h1
  have hq1 : N / (Y * bp k) < 1000000000 := Int.ediv_lt_of_lt_mul hD h1
  have hg := h5 k (Nat.lt_succ_self _)
  have hC : addAtC qs k (N / (Y * bp k)) = 0 := by unfold addAtC; rw [hg]; omega
  have hv := addAt_val qs k (N / (Y * bp k))
  rw [hC, Int.zero_mul, Int.add_zero] at hv
  refine ⟨hq0, by omega, hr0, ?_, hr1, ?_, addAt_dig h3 _ _, by rw [addAt_length]; omega, ?_⟩
  · have := Int.mul_nonneg (show 0 ≤ Y * bp k by omega) hq0
    omega
  · rw [hv, Int.mul_add, h2]
    have e : Y * (N / (Y * bp k) * bp k) = Y * bp k * (N / (Y * bp k)) := by rw [Int.mul_comm (N / (Y * bp k)), Int.mul_assoc]
    rw [e]
    omega
  · intro j hj
    unfold addAtL
    rw [getD_set_other _ _ _ _ (by omega), getD_pad]
    exact h5 j (by omega)
theorem DivideR.done {X Y : Int} {M : Nat} {N : Int} {qs : List Int} (h : DivideR X Y M 0 N qs) (hY : 0 < Y) : N = X % Y ∧ trimL qs = limbs (X / Y).toNat := by
  obtain ⟨h0, hX, h1, h2, h3, _, _⟩ := h
  have h1' : N < Y := by rw [show bp 0 = 1 from rfl, Int.mul_one] at h1; exact h1
  rw [trim_limbs qs h3, h2, Int.add_mul_ediv_left _ _ (by omega), Int.ediv_eq_zero_of_lt h0 h1', Int.zero_add, Int.add_mul_emod_self_left, Int.emod_eq_of_lt h0 h1']
  exact ⟨rfl, rfl⟩

/-- what divide leaves: the quotient, new; the rest in the number itself -/
def DividePost (T : List Nat) (b : Nat) (X Y : Int) (w : World) (e : Ending) (w' : World) : Prop :=
  ∃ v, e = .returned (.tuple #[v, .nilIface]) ∧ w'.ownsRow w.heap.size 3 1 v (limbs (X / Y).toNat).length (intsV (limbs (X / Y).toNat)) ∧ Kept T b (limbs (X % Y).toNat) w w'

set_option maxHeartbeats 1000000 in
set_option maxRecDepth 100000 in
theorem divide_on (T S : List Nat) (b : Nat) (xs : List Int) (vy : Value) (ys : List Int) (lo hi : Nat) (w : World) (hxl : xs.length ≤ 300000) (hyl : ys.length ≤ 300000)
    (hx : Trim xs) (hy : Trim ys) (hy0 : 0 < ys.length) (hST : ∀ g ∈ S, g ∉ T) (hr : At S (fun w => Row w lo hi vy (intsV ys)) w) (h : NatOn T b xs w) :
    Calls Tryz.prog 211 #[.pointer (some ⟨b, 0, none⟩), vy] w (DividePost T b (nval xs) (nval ys) w) := by
  have hxe : xs = limbs (nval xs).toNat := by rw [← trim_limbs xs hx.1, trim_last xs hx.2]
  have hY : 0 < nval ys := by have := nval_ge ys hy.1 hy.2 hy0; have := bp_pos (ys.length - 1); omega
  have hz : ((ys.length : Int) == 0) = false := by rw [beq_eq_false_iff_ne]; omega
  have HST := Lib.hid hST
  have HR0 := Lib.hid hr
  have HY := Lib.hid hy
  have HY0 := Lib.hid hy0
  have HYP := Lib.hid hY
  have hTlt : ∀ g ∈ T, g < w.heap.size := h.at_.lt
  have HTL := Lib.hid hTlt
  have hbl := h.lt
  obtain ⟨v0, hv0, hrc0, hcp0⟩ := NatOn.reads h
  obtain ⟨A0, c0, rfl, _⟩ := hrc0
  rw [intsV_length] at hv0
  have hvy := hr.here
  obtain ⟨A, c, rfl, _⟩ := hvy
  rw [intsV_length] at HR0 ⊢
  have HS := Lib.hid (DivideR.start hx hy hy0 (max xs.length 1))
  have HX0 := Lib.hid (show NatOn T b (limbs (nval xs).toNat) w by rw [← hxe]; exact h)
  have HXL := Lib.hid (show (limbs (nval xs).toNat).length ≤ 300000 by rw [← hxe]; exact hxl)
  clear hx hy hST hr hxe h hcp0 hY hTlt hy0
  go_enter Tryz.func211, Tryz.ntmps211
  have hva : ∀ o, (w.alloc o).cell? ⟨b, 0, none⟩ = some (.slice A0 xs.length c0) := fun o => (World.cell?_alloc_past _ _ _ hbl).trans hv0
  go_wp2
  go_loopw [7] (fun s wr => ∃ (z N : Int) (qs : List Int), s = .int .i64 z ∧ -300000 ≤ z ∧ z + 1 ≤ max xs.length 1 ∧ Hid (DivideR (nval xs) (nval ys) (max xs.length 1) (z + 1).toNat N qs) ∧ NatOn T b (limbs N.toNat) wr ∧ NatAt w.heap.size w.heap.size qs wr ∧ Chg T w wr) (fun s _ => (intOf s + 1).toNat)
  case atStart =>
    refine ⟨_, _, [], rfl, by omega, by have := HY0.out; omega, HS, ?_, NatAt.new (Nat.le_refl _) (World.ownsRow_nil _ _ _ _), Chg.of_below ((Below.refl _ _).alloc (Nat.le_refl _) _)⟩
    exact (HX0.out.at_.below ((Below.refl _ _).alloc (Nat.le_refl _) _)).here
  case round =>
    obtain ⟨z, N, qs, rfl, hz0, hz1, HD, hat, hq, hc⟩ := hrel
    by_cases hge : 0 ≤ z
    · obtain ⟨k, rfl⟩ := Int.eq_ofNat_of_zero_le hge
      have hk1 : ((k : Int) + 1).toNat = k + 1 := by omega
      rw [hk1] at HD
      obtain ⟨hq0, hq1, hnext⟩ := HD.out.next HYP.out (by omega)
      have HN := Lib.hid hnext
      have hN0 := HD.out.1
      have hnv := limbs_toNat N hN0
      have HNB := Lib.hid (show nval (limbs N.toNat) < 1000000000 * (nval ys * bp k) by
        rw [hnv]
        have := HD.out.2.2.1
        rw [bp_succ, Int.mul_left_comm] at this
        exact this)
      have hlen := limbs_small N (nval xs) hN0 HD.out.2.1 _ HXL.out
      have hqsl := HD.out.2.2.2.2.2.1
      have HDQ := Lib.hid HD.out.2.2.2.2.1
      have hrow := HR0.out.chg hc HST.out
      clear hge hnext hk1
      go_wp2_with fail
      refine (takeMost_on T S b (limbs N.toNat) _ ys lo hi k wr (by omega) (by omega) (by omega) (limbs_trim _) HY.out HY0.out HNB.out HST.out hrow hat).mono ?_
      rintro e w1 ⟨rfl, hat1⟩
      rw [hnv] at hat1 ⊢
      have hqa := hq.chg hat1.2 HTL.out
      have hc1 := hc.trans hat1.2
      have hon1 := hat1.1
      have HKI := Lib.hid (show (((k : Nat) : Int) - 1 + 1).toNat = k by omega)
      generalize N / (nval ys * bp k) = q at *
      generalize N % (nval ys * bp k) = N' at *
      clear hat1 hat hq hc hrow hnv hN0
      go_wp2_with fail
      refine (addAt_any w.heap.size w.heap.size qs k q _ (by omega) (by omega) hq0 (by omega) HDQ.out hqa).mono ?_
      rintro e w2 ⟨rfl, hq2, hb2⟩
      have hon2 := NatOn.belowB hon1 hb2 HTL.out
      have hc2 := chg_below hc1 hb2
      clear hqa hon1 hc1
      go_wp2
      go_roundw
      case rel => exact ⟨(k : Int) - 1, N', _, rfl, by omega, by omega, by rw [HKI.out]; exact HN, hon2, hq2, hc2⟩
      case measure => simp [intOf]
    · have HE := Lib.hid (show (z + 1).toNat = 0 by omega)
      rw [HE.out] at HD
      have HF := Lib.hid (HD.out.done HYP.out)
      have hqsl := HD.out.2.2.2.2.2.1
      go_wp2_with fail
      refine (natTrim_any w.heap.size w.heap.size qs _ (by omega) hq).mono ?_
      rintro e w1 ⟨rfl, hq1, hb1⟩
      have hon1 := NatOn.belowB hat hb1 HTL.out
      have hc1 := chg_below hc hb1
      rw [HF.out.2] at hq1
      obtain ⟨_, v, hvb, hown, _⟩ := hq1
      have hcv : w1.cell? ⟨w.heap.size, 0, none⟩ = some v := by rw [Lib.cell_of_heap hvb]; rfl
      have HO := Lib.hid hown
      have HB := Lib.hid hvb
      clear hvb hown
      go_wp2
      go_ret2
      exact ⟨v, rfl, HO.out, by rw [← HF.out.1]; exact hon1, hc1⟩
set_option maxHeartbeats 400000 in
set_option maxRecDepth 100000 in
theorem divide_zero (b : Nat) (A : Option Addr) (c : Nat) (x : Value) (w : World) (hs : w.cell? ⟨0, 0, none⟩ = some x) :
    Calls Tryz.prog 211 #[.pointer (some ⟨b, 0, none⟩), .slice A 0 c] w fun e w' => e = .returned (.tuple #[.slice none 0 0, x]) ∧ ∃ q, w.drewN q = w' := by
  go_enter Tryz.func211, Tryz.ntmps211
  go_wp2
  go_quiet (fail)
  go_wp2
  go_ret2
  exact ⟨rfl, _, rfl⟩
/-- the limbs' row with the blocks on which it leans -/
theorem NatOn.rowAt {T : List Nat} {b : Nat} {xs : List Int} {w : World} (h : NatOn T b xs w) : ∃ v, w.cell? ⟨b, 0, none⟩ = some v ∧ At T (fun w' => Row w' 0 w.heap.size v (intsV xs)) w := by
  have hat := h.at_
  obtain ⟨v, hb, ho, _, rfl⟩ := h
  refine ⟨v, by rw [Lib.cell_of_heap hb]; rfl, Row.of_own ho, hat.lt, fun w' hk => ?_⟩
  have hr := Row.of_own ho
  obtain ⟨_, ⟨rfl, _⟩ | ⟨g, cap, cur, rfl, _⟩⟩ := ho
  · obtain ⟨A, c, e, h⟩ := hr
    injection e with e1 e2 e3
    subst e1
    refine ⟨none, c, by rw [← e2, ← e3], fun j u hj => ?_⟩
    obtain ⟨a, e4, _⟩ := h j u hj
    cases e4
  · obtain ⟨A, c, e, h⟩ := hr
    injection e with e1 e2 e3
    subst e1
    refine ⟨some ⟨g, 0, none⟩, c, by rw [← e2, ← e3], fun j u hj => ?_⟩
    obtain ⟨a, e4, k1, k2, k3⟩ := h j u hj
    cases e4
    refine ⟨_, rfl, k1, k2, ?_⟩
    rw [← k3]
    have hg := hk g (by simp [Value.ownBlock])
    unfold World.cell?
    rw [block_add, hg]
end Go.Proofs.YtofehcpapdlcnaaGreatDoor

namespace Go.Proofs.YtofehcpapdlcnaaGreatDoor
open Go.RowKit

theorem Below.of_chg {T : List Nat} {B : Nat} {w w1 w2 : World} (hb : Below B w w1) (c : Chg T w1 w2) (hB : B ≤ w1.heap.size) (hT : ∀ g ∈ T, B ≤ g) : Below B w w2 := below_chg hb c hB hT
theorem ok_trim {xs : List Int} (h : natOkB xs = true) : Trim xs := ok_dig h
/-- a row at hand, with blocks below B -/
theorem Row.onB {w : World} {lo hi B : Nat} {v : Value} {xs : List Value} (h : Row w lo hi v xs) (hB : hi ≤ B) : ∃ S, At S (fun w => Row w lo hi v xs) w ∧ ∀ g ∈ S, g < B := by
  obtain ⟨S, h1, h2⟩ := h.on
  exact ⟨S, h1, fun g hg => by have := (h2 g hg).2; omega⟩

set_option maxHeartbeats 1000000 in
set_option maxRecDepth 100000 in
theorem implNatDiv_any (va vb : Value) (a b : List Int) (la ha lb hb_ : Nat) (w : World) (hal : a.length ≤ 1048576) (hbl : b.length ≤ 1048576) (_hha : ha ≤ w.heap.size) (hhb : hb_ ≤ w.heap.size)
    (hra : Row w la ha va (intsV a)) (hrb : Row w lb hb_ vb (intsV b)) (hs : Sen w) :
    Calls Tryz.prog 179 #[va, vb] w (TwoRows (divN a b).1 (divN a b).2 w) := by
  by_cases oa : natOkB a = true
  · by_cases ob : natOkB b = true
    · have ha50 := (natOk_parts oa).2.1
      have hb50 := (natOk_parts ob).2.1
      have OA := Lib.hid oa
      have OB := Lib.hid ob
      by_cases h0 : 0 < b.length
      · have HV := Lib.hid (show divN a b = (limbs (nval a / nval b).toNat, limbs (nval a % nval b).toNat) by unfold divN; rw [if_pos ⟨oa, ob, h0⟩])
        have H0 := Lib.hid h0
        clear h0
        go_enter Tryz.func179, Tryz.ntmps179
        go_wp2_with fail
        refine (implNatOk_same va a la ha _ (by omega) hra).mono ?_
        rintro e w' ⟨rfl, rfl⟩
        rw [oa]
        go_wp2_with fail
        refine (implNatOk_same vb b lb hb_ _ (by omega) hrb).mono ?_
        rintro e w' ⟨rfl, rfl⟩
        rw [ob]
        clear oa ob
        go_wp2_with fail
        refine (copyNat_any va a la ha _ hal hra).mono ?_
        rintro e w1 ⟨bn, rfl, hat, b1⟩
        obtain ⟨T, hT, hTB⟩ := hat.on
        obtain ⟨S, hS, hSB⟩ := (hrb.below b1 hhb).onB hhb
        have hTlt := hT.at_.lt
        have HTB := Lib.hid hTB
        have HTL := Lib.hid hTlt
        have hst : ∀ g ∈ S, g ∉ T := fun g hg hm => by have := hSB g hg; have := hTB g hm; omega
        have HST := Lib.hid hst
        clear hSB hTB hst hTlt
        go_wp2_with fail
        refine (divide_on T S bn a vb b lb hb_ _ (by omega) (by omega) (ok_trim OA.out) (ok_trim OB.out) H0.out HST.out hS hT).mono ?_
        rintro e w2 ⟨v2, rfl, o2, hk2⟩
        have b2 : Below w.heap.size w w2 := Below.of_chg b1 hk2.2 b1.size HTB.out
        obtain ⟨es, hes⟩ := hs.below b2
        go_wp2_with fail
        refine (is_nil es _).mono ?_
        rintro e w' ⟨rfl, rfl⟩
        have hon := hk2.1
        obtain ⟨v3, hb3, o3, _, hTe⟩ := hon
        have hc3 : w2.cell? ⟨bn, 0, none⟩ = some v3 := by rw [Lib.cell_of_heap hb3]; rfl
        have HO3 := Lib.hid o3
        have HO2 := Lib.hid o2
        have HTE := Lib.hid hTe
        clear o3 o2 hTe hb3 hk2
        go_wp2
        go_quiet (fail)
        go_wp2
        go_ret2
        have hz1 := b1.size
        refine ⟨v2, v3, rfl, ?_, ?_, ?_, below_drewN b2 _⟩
        · rw [HV.out]
          exact own_base HO2.out hz1
        · rw [HV.out]
          exact own_raise HO3.out (fun g hg => HTB.out g (by rw [HTE.out, hg]; simp))
        · intro x y hx hy hxy
          have h1 := (own_lt HO2.out hx).1
          have h2 := HTL.out y (by rw [HTE.out, hy]; simp)
          omega
      · have HV := Lib.hid (show divN a b = ([], []) by unfold divN; rw [if_neg (fun h => h0 h.2.2)])
        obtain rfl : b = [] := List.eq_nil_of_length_eq_zero (by omega)
        have hrb0 := hrb
        obtain ⟨Ab, cb, rfl, _⟩ := hrb0
        clear h0
        go_enter Tryz.func179, Tryz.ntmps179
        go_wp2_with fail
        refine (implNatOk_same va a la ha _ (by omega) hra).mono ?_
        rintro e w' ⟨rfl, rfl⟩
        rw [oa]
        go_wp2_with fail
        refine (implNatOk_same _ [] lb hb_ _ (by simp) hrb).mono ?_
        rintro e w' ⟨rfl, rfl⟩
        rw [ob]
        clear oa ob
        go_wp2_with fail
        refine (copyNat_any va a la ha _ hal hra).mono ?_
        rintro e w1 ⟨bn, rfl, hat, b1⟩
        obtain ⟨es, hes⟩ := hs.below b1
        go_wp2_with fail
        refine (divide_zero bn Ab cb _ _ hes).mono ?_
        rintro e w2 ⟨rfl, q, rfl⟩
        go_wp2_with fail
        refine (is_same es _).mono ?_
        rintro e w' ⟨rfl, rfl⟩
        go_wp2
        go_ret2
        rw [HV.out]
        exact two_nil (below_drewN b1 _)
    · have ob' : natOkB b = false := by simpa using ob
      have HV := Lib.hid (show divN a b = ([], []) by unfold divN; rw [if_neg (fun h => ob h.2.1)])
      clear ob
      go_enter Tryz.func179, Tryz.ntmps179
      go_wp2_with fail
      refine (implNatOk_same va a la ha _ (by omega) hra).mono ?_
      rintro e w' ⟨rfl, rfl⟩
      rw [oa]
      go_wp2_with fail
      refine (implNatOk_same vb b lb hb_ _ (by omega) hrb).mono ?_
      rintro e w' ⟨rfl, rfl⟩
      rw [ob']
      go_wp2
      go_ret2
      rw [HV.out]
      exact two_nil (Below.refl _ _)
  · have oa' : natOkB a = false := by simpa using oa
    have HV := Lib.hid (show divN a b = ([], []) by unfold divN; rw [if_neg (fun h => oa h.1)])
    clear oa
    go_enter Tryz.func179, Tryz.ntmps179
    go_wp2_with fail
    refine (implNatOk_same va a la ha _ (by omega) hra).mono ?_
    rintro e w' ⟨rfl, rfl⟩
    rw [oa']
    go_wp2
    go_ret2
    rw [HV.out]
    exact two_nil (Below.refl _ _)
/-- the two numbers of Euclid's algorithm -/
def EuclS (w : World) (G n : Nat) (x y : Value) (wr : World) : Prop :=
  ∃ (X Y bx by_ : Nat) (Tx Ty : List Nat), n = Y ∧ Nat.gcd X Y = G ∧ (limbs X).length ≤ 50 ∧ (limbs Y).length ≤ 50 ∧ x = .pointer (some ⟨bx, 0, none⟩) ∧ y = .pointer (some ⟨by_, 0, none⟩) ∧
    NatOn Tx bx (limbs X) wr ∧ NatOn Ty by_ (limbs Y) wr ∧ (∀ g ∈ Ty, g ∉ Tx) ∧ (∀ g ∈ Tx, w.heap.size ≤ g) ∧ (∀ g ∈ Ty, w.heap.size ≤ g) ∧ Below w.heap.size w wr
set_option maxHeartbeats 1000000 in
set_option maxRecDepth 100000 in
theorem implNatGcd_any (va vb : Value) (a b : List Int) (la ha lb hb_ : Nat) (w : World) (hal : a.length ≤ 1048576) (hbl : b.length ≤ 1048576) (hhb : hb_ ≤ w.heap.size)
    (hra : Row w la ha va (intsV a)) (hrb : Row w lb hb_ vb (intsV b)) (hs : Sen w) :
    Calls Tryz.prog 178 #[va, vb] w (NewInts (gcdN a b) w) := by
  by_cases oa : natOkB a = true
  · by_cases ob : natOkB b = true
    · have HV := Lib.hid (show gcdN a b = limbs (Nat.gcd (nval a).toNat (nval b).toNat) by unfold gcdN; rw [if_pos ⟨oa, ob⟩])
      have LA := Lib.hid (natOk_limbs oa)
      have LB := Lib.hid (natOk_limbs ob)
      have ha50 := (natOk_parts oa).2.1
      have hb50 := (natOk_parts ob).2.1
      go_enter Tryz.func178, Tryz.ntmps178
      go_wp2_with fail
      refine (implNatOk_same va a la ha _ (by omega) hra).mono ?_
      rintro e w' ⟨rfl, rfl⟩
      rw [oa]
      go_wp2_with fail
      refine (implNatOk_same vb b lb hb_ _ (by omega) hrb).mono ?_
      rintro e w' ⟨rfl, rfl⟩
      rw [ob]
      clear oa ob
      go_wp2_with fail
      refine (copyNat_any va a la ha _ hal hra).mono ?_
      rintro e w1 ⟨bx, rfl, hatx, b1⟩
      go_wp2_with fail
      refine (copyNat_any vb b lb hb_ _ hbl (hrb.below b1 hhb)).mono ?_
      rintro e w2 ⟨by_, rfl, haty, b2⟩
      obtain ⟨Tx, hTx, hBx⟩ := hatx.on
      obtain ⟨Ty, hTy, hBy⟩ := haty.on
      have hz := b1.size
      have HS : Hid (EuclS w (Nat.gcd (nval a).toNat (nval b).toNat) (nval b).toNat (.pointer (some ⟨bx, 0, none⟩)) (.pointer (some ⟨by_, 0, none⟩)) w2) := Lib.hid
        ⟨(nval a).toNat, (nval b).toNat, bx, by_, Tx, Ty, rfl, rfl, by rw [← LA.out]; exact ha50, by rw [← LB.out]; exact hb50, rfl, rfl, by rw [← LA.out]; exact (hTx.at_.below b2).here, by rw [← LB.out]; exact hTy,
          fun g hg hm => by have := hBy g hg; have := hTx.at_.lt g hm; omega, hBx, fun g hg => by have := hBy g hg; omega, Below.next b1 b2⟩
      clear hTx hTy hBx hBy hatx haty hz
      go_wp2
      go_loopg [5, 6] (nval b).toNat (fun n x y wr => EuclS w (Nat.gcd (nval a).toNat (nval b).toNat) n x y wr)
      case atStart => exact HS.out
      case round =>
        clear HS b1 b2
        obtain ⟨X, Y, bx, by_, Tx, Ty, hn, hG, hX, hY, rfl, rfl, hx, hy, hap, hBx, hBy, hb⟩ := hrel
        have HNE := Lib.hid hn
        have HG := Lib.hid hG
        have HAP := Lib.hid hap
        have HBX := Lib.hid hBx
        have HBY := Lib.hid hBy
        obtain ⟨v, hcv, hrow⟩ := NatOn.rowAt hy
        clear hn hG hap hBx hBy
        by_cases hpos : 0 < Y
        · have hlen : 0 < (limbs Y).length := by rw [limbs_pos Y (by omega)]; simp
          go_wp2_with fail
          refine (divide_on Tx Ty bx (limbs X) v (limbs Y) 0 wr.heap.size wr (by omega) (by omega) (limbs_trim X) (limbs_trim Y) hlen HAP.out hrow hx).mono ?_
          rintro e w3 ⟨q, rfl, _, hk⟩
          rw [limbs_val, limbs_val] at hk
          have b3 : Below w.heap.size w w3 := Below.of_chg hb hk.2 hb.size HBX.out
          have hy3 := (hy.at_.chg hk.2 HAP.out).here
          obtain ⟨es, hes⟩ := hs.below b3
          rw [show ((X : Int) % (Y : Int)).toNat = X % Y by omega] at hk
          have hx3 := hk.1
          clear hk hx hy hb hrow hcv
          go_wp2_with fail
          refine (is_nil es _).mono ?_
          rintro e w' ⟨rfl, rfl⟩
          have hmod := Nat.mod_lt X hpos
          have hml : (limbs (X % Y)).length ≤ 50 := Nat.le_trans (by have := limbs_mono (m := ((X % Y : Nat) : Int)) (n := (Y : Int)) (by omega) (by omega); rw [Int.toNat_natCast, Int.toNat_natCast] at this; exact this) hY
          have HR : Hid (EuclS w (Nat.gcd (nval a).toNat (nval b).toNat) (X % Y) (.pointer (some ⟨by_, 0, none⟩)) (.pointer (some ⟨bx, 0, none⟩)) w3) := Lib.hid
            ⟨Y, X % Y, by_, bx, Ty, Tx, rfl, (gcd_step X Y).trans HG.out, hY, hml, rfl, rfl, hy3, hx3, apart_symm HAP.out, HBY.out, HBX.out, b3⟩
          clear hx3 hy3 b3
          go_wp2
          go_roundg (X % Y)
          case measure => rw [HNE.out]; exact hmod
          case rel => exact HR.out
        · obtain rfl : Y = 0 := by omega
          have hv0 : ∃ A c, v = .slice A 0 c := by
            obtain ⟨A, c, e, _⟩ := hrow.here
            rw [limbs_none] at e
            exact ⟨A, c, e⟩
          obtain ⟨A0, c0, rfl⟩ := hv0
          obtain ⟨es, hes⟩ := hs.below hb
          obtain ⟨u, hbu, ou, _, hTe⟩ := hx
          have hcu : wr.cell? ⟨bx, 0, none⟩ = some u := by rw [Lib.cell_of_heap hbu]; rfl
          have HU := Lib.hid ou
          have HTE := Lib.hid hTe
          have HGX := Lib.hid (show Nat.gcd (nval a).toNat (nval b).toNat = X by rw [← HG.out, Nat.gcd_zero_right])
          clear ou hTe hbu
          go_wp2_with fail
          refine (divide_zero bx A0 c0 _ _ hes).mono ?_
          rintro e w3 ⟨rfl, q, rfl⟩
          go_wp2_with fail
          refine (is_same es _).mono ?_
          rintro e w' ⟨rfl, rfl⟩
          go_wp2
          go_ret
          exact ⟨u, rfl, by rw [HV.out, HGX.out]; exact own_raise HU.out (fun g hg => HBX.out g (by rw [HTE.out, hg]; simp)), below_drewN hb q⟩
    · have ob' : natOkB b = false := by simpa using ob
      have HV := Lib.hid (show gcdN a b = [] by unfold gcdN; rw [if_neg (fun h => ob h.2)])
      clear ob
      go_enter Tryz.func178, Tryz.ntmps178
      go_wp2_with fail
      refine (implNatOk_same va a la ha _ (by omega) hra).mono ?_
      rintro e w' ⟨rfl, rfl⟩
      rw [oa]
      go_wp2_with fail
      refine (implNatOk_same vb b lb hb_ _ (by omega) hrb).mono ?_
      rintro e w' ⟨rfl, rfl⟩
      rw [ob']
      go_wp2
      go_ret
      rw [HV.out]
      exact new_nil (Below.refl _ _)
  · have oa' : natOkB a = false := by simpa using oa
    have HV := Lib.hid (show gcdN a b = [] by unfold gcdN; rw [if_neg (fun h => oa h.1)])
    clear oa
    go_enter Tryz.func178, Tryz.ntmps178
    go_wp2_with fail
    refine (implNatOk_same va a la ha _ (by omega) hra).mono ?_
    rintro e w' ⟨rfl, rfl⟩
    rw [oa']
    go_wp2
    go_ret
    rw [HV.out]
    exact new_nil (Below.refl _ _)
end Go.Proofs.YtofehcpapdlcnaaGreatDoor

namespace Go.Proofs.YtofehcpapdlcnaaGreatDoor
open Go.RowKit

set_option maxHeartbeats 400000 in
set_option maxRecDepth 100000 in
theorem ratSized_any (v : Value) (x : QI) (w : World) (h : OwnQ v x w) :
    Calls Tryz.prog 180 #[v] w (Postb (decide (x.1.2.length ≤ 18 ∧ 0 < x.2.length ∧ x.2.length ≤ 18)) w) := by
  obtain ⟨A, c, B, f, rfl⟩ := ownQ_form h
  have bb0 : Below w.heap.size w (w.alloc (.cells #[.bool x.1.1, .slice A x.1.2.length c, .slice B x.2.length f] 35)) := below_al (Below.refl _ _) _
  clear h
  by_cases g1 : x.1.2.length ≤ 18
  · have h1 : decide ((x.1.2.length : Int) ≤ 18) = true := decide_eq_true (by omega)
    by_cases g2 : 0 < x.2.length
    · by_cases g3 : x.2.length ≤ 18
      · have h3 : decide ((x.2.length : Int) ≤ 18) = true := decide_eq_true (by omega)
        have HV := Lib.hid (show decide (x.1.2.length ≤ 18 ∧ 0 < x.2.length ∧ x.2.length ≤ 18) = true from decide_eq_true ⟨g1, g2, g3⟩)
        clear g1 g3
        go_enter Tryz.func180, Tryz.ntmps180
        go_wp2
        go_ret
        exact ⟨ret_bool HV.out.symm, bb0⟩
      · have h3 : decide ((x.2.length : Int) ≤ 18) = false := decide_eq_false (by omega)
        have HV := Lib.hid (show decide (x.1.2.length ≤ 18 ∧ 0 < x.2.length ∧ x.2.length ≤ 18) = false from decide_eq_false (fun h => g3 h.2.2))
        clear g1 g3
        go_enter Tryz.func180, Tryz.ntmps180
        go_wp2
        go_ret
        exact ⟨ret_bool HV.out.symm, bb0⟩
    · have HV := Lib.hid (show decide (x.1.2.length ≤ 18 ∧ 0 < x.2.length ∧ x.2.length ≤ 18) = false from decide_eq_false (fun h => g2 h.2.1))
      clear g1
      go_enter Tryz.func180, Tryz.ntmps180
      go_wp2
      go_ret
      exact ⟨ret_bool HV.out.symm, bb0⟩
  · have h1 : decide ((x.1.2.length : Int) ≤ 18) = false := decide_eq_false (by omega)
    have HV := Lib.hid (show decide (x.1.2.length ≤ 18 ∧ 0 < x.2.length ∧ x.2.length ≤ 18) = false from decide_eq_false (fun h => g1 h.1))
    clear g1
    go_enter Tryz.func180, Tryz.ntmps180
    go_wp2
    go_ret
    exact ⟨ret_bool HV.out.symm, bb0⟩
theorem okQ_cmp {x : QI} (h1 : okS x.1 = true) (h2 : natOkB x.2 = true) (h3 : x.1.2.length ≤ 18 ∧ 0 < x.2.length ∧ x.2.length ≤ 18) : (cmpN (gcdN x.1.2 x.2) (limbs 1) == 0) = okQ x := by
  have hg := gcdN_small x.1.2 x.2
  have pn := (okS_parts h1).1
  have okg : natOkB (gcdN x.1.2 x.2) = true := by
    have e : gcdN x.1.2 x.2 = limbs (Nat.gcd (nval x.1.2).toNat (nval x.2).toNat) := by unfold gcdN; rw [if_pos ⟨pn, h2⟩]
    rw [e] at hg ⊢
    exact limbs_okL _ hg
  have ok1 : natOkB (limbs 1) = true := by rw [one_limbs]; rfl
  have k := gcd_one_iff pn h2
  unfold cmpN
  rw [if_pos ⟨okg, ok1⟩, one_limbs]
  have hV : okQ x = decide (Nat.gcd (nval x.1.2).toNat (nval x.2).toNat = 1) := by unfold okQ; rw [h1, h2]; simp [h3]
  rw [hV]
  by_cases hc : cmpI (nval (gcdN x.1.2 x.2)) (nval [1]) = 0
  · rw [decide_eq_true (k.1 hc), hc]; rfl
  · rw [decide_eq_false (fun e => hc (k.2 e)), beq_eq_false_iff_ne]; exact hc
theorem okQ_false {x : QI} (h : ¬ (okS x.1 = true ∧ natOkB x.2 = true ∧ x.1.2.length ≤ 18 ∧ 0 < x.2.length ∧ x.2.length ≤ 18)) : okQ x = false := by
  rcases Bool.eq_false_or_eq_true (okQ x) with e | e
  · have p := okQ_parts e
    exact absurd ⟨p.1, p.2.1, p.2.2.2.2.1, p.2.2.1, p.2.2.2.1⟩ h
  · exact e
set_option maxHeartbeats 1000000 in
set_option maxRecDepth 100000 in
theorem implRatOk_any (vr : Value) (r : QI) (w : World) (hzr : szQ r ≤ 1048576) (hr : OwnQ vr r w) (hs : Sen w) :
    Calls Tryz.prog 177 #[vr] w (Postb (okQ r) w) := by
  have HS := Lib.hid hs
  clear hs
  have Hr := Lib.hid hr
  obtain ⟨Ar, cr, Br, dr, rfl⟩ := ownQ_form hr
  have OQr := Lib.hid (show ∀ W, Below w.heap.size w W → OwnQ (.agg #[.bool r.1.1, .slice Ar r.1.2.length cr, .slice Br r.2.length dr]) r W from fun W hb => OwnQ.below Hr.out hb)
  have OUr := Lib.hid (show ∀ W, Below w.heap.size w W → OwnI (.slice Ar r.1.2.length cr) r.1.2 W from fun W hb => (ownQ_open (OQr.out W hb)).2.1)
  have ODr := Lib.hid (show ∀ W, Below w.heap.size w W → OwnI (.slice Br r.2.length dr) r.2 W from fun W hb => (ownQ_open (OQr.out W hb)).2.2.1)
  have OSr := Lib.hid (show ∀ W, Below w.heap.size w W → OwnS (.agg #[.bool r.1.1, .slice Ar r.1.2.length cr]) r.1 W from fun W hb => OwnS.mk (OUr.out W hb))
  clear hr
  have hlr := szQ_len hzr
  have hl1r := hlr.1
  have hl2r := hlr.2
  clear hlr
  have bb0 : Below w.heap.size w (w.alloc (.cells #[.bool r.1.1, .slice Ar r.1.2.length cr, .slice Br r.2.length dr] 35)) := below_al (Below.refl _ _) _
  have kr := (box_new w #[.bool r.1.1, .slice Ar r.1.2.length cr, .slice Br r.2.length dr] 35)
  go_enter Tryz.func177, Tryz.ntmps177
  have kr_c0 := kr.here.cell 0 _ rfl
  have kr_c1 := kr.here.cell 1 _ rfl
  have kr_c2 := kr.here.cell 2 _ rfl
  go_wp2_with fail
  clear kr_c0 kr_c1 kr_c2
  refine (implIntOk_any _ r.1 _ hl1r (OwnS.rd (OSr.out _ bb0))).mono ?_
  rintro e w1 ⟨rfl, b1⟩
  have bb1 := Below.next bb0 b1
  replace kr := kr.below b1
  by_cases ok1 : okS r.1 = true
  · rw [ok1]
    have HO1 := Lib.hid ok1
    clear ok1
    have kr_c0 := kr.here.cell 0 _ rfl
    have kr_c1 := kr.here.cell 1 _ rfl
    have kr_c2 := kr.here.cell 2 _ rfl
    go_wp2_with fail
    refine (implNatOk_same _ r.2 _ _ _ (by omega) (ODr.out _ bb1).row).mono ?_
    rintro e w_ ⟨rfl, rfl⟩
    by_cases ok2 : natOkB r.2 = true
    · rw [ok2]
      have HO2 := Lib.hid ok2
      clear ok2
      go_wp2_with fail
      clear kr_c0 kr_c1 kr_c2
      skip
      refine (ratSized_any _ r _ (OQr.out _ bb1)).mono ?_
      rintro e w2 ⟨rfl, b2⟩
      have bb2 := Below.next bb1 b2
      replace kr := kr.below b2
      by_cases ok3 : r.1.2.length ≤ 18 ∧ 0 < r.2.length ∧ r.2.length ≤ 18
      · rw [decide_eq_true ok3]
        have HV := Lib.hid (okQ_cmp HO1.out HO2.out ok3)
        clear ok3
        have kr_c0 := kr.here.cell 0 _ rfl
        have kr_c1 := kr.here.cell 1 _ rfl
        have kr_c2 := kr.here.cell 2 _ rfl
        go_wp2_with fail
        clear kr_c0 kr_c1 kr_c2
        refine (implNatGcd_any _ _ r.1.2 r.2 0 _ 0 _ _ hl1r hl2r (Nat.le_refl _) (OUr.out _ bb2).row (ODr.out _ bb2).row (HS.out.below bb2)).mono ?_
        rintro e w3 ⟨vg, rfl, og, b3⟩
        have bb3 := Below.next bb2 b3
        replace kr := kr.below b3
        have hgl : (gcdN r.1.2 r.2).length ≤ 1048576 := by have := gcdN_small r.1.2 r.2; omega
        go_wp2_with fail
        refine (implNatOf_any 1 _ (by decide)).mono ?_
        rintro e w4 ⟨vo, rfl, oo, b4⟩
        have bb4 := Below.next bb3 b4
        replace kr := kr.below b4
        rw [show (1 : Int).toNat = 1 from rfl] at oo
        have og2 := own_up og b4
        go_wp2_with fail
        refine (implNatCmp_any _ _ (gcdN r.1.2 r.2) (limbs 1) _ _ _ _ _ hgl (by rw [one_limbs]; decide) (Nat.le_refl _) (Nat.le_refl _) (Row.of_own og2) (Row.of_own oo)).mono ?_
        rintro e w5 ⟨rfl, b5⟩
        have bb5 := Below.next bb4 b5
        replace kr := kr.below b5
        generalize cmpN (gcdN r.1.2 r.2) (limbs 1) = z at *
        generalize okQ r = q at *
        clear og og2 oo hgl kr
        go_wp2
        go_ret
        exact ⟨ret_bool HV.out, bb5⟩
      · rw [decide_eq_false ok3]
        have HV := Lib.hid (show okQ r = false from okQ_false (fun h => ok3 h.2.2))
        clear ok3
        go_wp2
        go_ret
        exact ⟨ret_bool HV.out.symm, bb2⟩
    · have ok2' : natOkB r.2 = false := by simpa using ok2
      have HV := Lib.hid (show okQ r = false from okQ_false (fun h => ok2 h.2.1))
      rw [ok2']
      clear ok2 ok2'
      go_wp2
      go_ret
      exact ⟨ret_bool HV.out.symm, bb1⟩
  · have ok1' : okS r.1 = false := by simpa using ok1
    have HV := Lib.hid (show okQ r = false from okQ_false (fun h => ok1 h.1))
    rw [ok1']
    clear ok1 ok1'
    go_wp2
    go_ret
    exact ⟨ret_bool HV.out.symm, bb1⟩
set_option maxHeartbeats 400000 in
set_option maxRecDepth 100000 in
theorem natResult_same {K : NatK} (b : Nat) (A : Option Addr) (c : Nat) (xs : List Int) (w : World) (hl : xs.length ≤ 50) (hb : w.heap[b]? = some (.cells (.slice A xs.length c :: K.rest).toArray K.ty (0, 0))) :
    Calls Tryz.prog 152 #[.pointer (some ⟨b, 0, none⟩)] w fun e w' => e = .returned (.slice A xs.length c) ∧ w = w' := by
  have hc : w.cell? ⟨b, 0, none⟩ = some (.slice A xs.length c) := NatX.cell hb
  clear hb
  have h50 : decide ((50 : Int) < (xs.length : Int)) = false := decide_eq_false (by omega)
  clear hl
  go_enter Tryz.func152, Tryz.ntmps152
  go_wp2
  go_ret
  exact ⟨rfl, rfl⟩
set_option maxHeartbeats 1000000 in
set_option maxRecDepth 100000 in
theorem signed_same (n : Bool) (b : Nat) (A : Option Addr) (c : Nat) (xs : List Int) (sg : Bool) (w : World) (hl : xs.length ≤ 50) (hsg : (n && decide (0 < xs.length)) = sg) (h : BoxAt b #[.slice A xs.length c, .bool n] 104 w) :
    Calls Tryz.prog 107 #[.pointer (some ⟨b, 0, none⟩)] w fun e w' => e = .returned (.agg #[.bool sg, .slice A xs.length c]) ∧ Below w.heap.size w w' := by
  have hbb := below_al (Below.refl w.heap.size w) (.cells #[.bool false, .slice none 0 0] 31)
  have kr := box_new w #[.bool false, .slice none 0 0] 31
  have hx := (box_at h).below hbb
  have hlt := (box_at h).lt b (by simp)
  obtain ⟨W0, hW0⟩ : ∃ W0, W0 = w.alloc (.cells #[.bool false, .slice none 0 0] 31) := ⟨_, rfl⟩
  rw [← hW0] at hx hbb kr
  have HW := Lib.hid hW0
  have HX := Lib.hid hx.here
  clear hW0 h
  have cn : W0.cell? ⟨b, 1, none⟩ = some (.bool n) := hx.here.cell 1 _ rfl
  have cz0 := kr.here.cell 0 _ rfl
  have cz1 := kr.here.cell 1 _ rfl
  have fz0 := Lib.frozen_of_heap kr.here 0
  have fz1 := Lib.frozen_of_heap kr.here 1
  have HBB := Lib.hid hbb
  clear kr hx hlt hbb
  have HSG := Lib.hid hsg
  clear hsg
  by_cases h0 : 0 < xs.length
  · have e0 := Lib.hid (show sg = n by rw [← HSG.out, decide_eq_true h0, Bool.and_true])
    cases n
    all_goals
      go_enter Tryz.func107, Tryz.ntmps107
      go_wp2_with fail
      rw [← HW.out]
      refine (natResult_same (K := intK _) b A c xs _ hl HX.out).mono ?_
      rintro e w1 ⟨rfl, rfl⟩
      go_wp2
      refine bodyPost_ret (v := .agg #[.bool _, .slice A xs.length c]) (by simp [results, Tryz.results107, go_sem, cz0, cz1]; rfl) rfl ?_
      rw [e0.out]
      exact ⟨rfl, below_set2 HBB.out (Nat.le_refl _)⟩
  · have e0 := Lib.hid (show sg = false by rw [← HSG.out, decide_eq_false h0, Bool.and_false])
    cases n
    all_goals
      go_enter Tryz.func107, Tryz.ntmps107
      go_wp2_with fail
      rw [← HW.out]
      refine (natResult_same (K := intK _) b A c xs _ hl HX.out).mono ?_
      rintro e w1 ⟨rfl, rfl⟩
      go_wp2
      refine bodyPost_ret (v := .agg #[.bool _, .slice A xs.length c]) (by simp [results, Tryz.results107, go_sem, cz0, cz1]; rfl) rfl ?_
      rw [e0.out]
      exact ⟨rfl, below_set2 HBB.out (Nat.le_refl _)⟩
set_option maxHeartbeats 2000000 in
set_option maxRecDepth 100000 in
theorem implRatMake_any (va vb : Value) (a b : SI) (w : World) (hza : szS a ≤ 1048576) (hzb : szS b ≤ 1048576) (ha : OwnS va a w) (hb : OwnS vb b w) (hs : Sen w) :
    Calls Tryz.prog 134 #[va, vb] w (PostQb (makeQ a b).1 (makeQ a b).2 w) := by
  have HS := Lib.hid hs
  clear hs
  have Ha := Lib.hid ha
  obtain ⟨Aa, ca, rfl⟩ := ownS_form ha
  have OSa := Lib.hid (show ∀ W, Below w.heap.size w W → OwnS (.agg #[.bool a.1, .slice Aa a.2.length ca]) a W from fun W hb => OwnS.below Ha.out hb)
  have OIa := Lib.hid (show ∀ W, Below w.heap.size w W → OwnI (.slice Aa a.2.length ca) a.2 W from fun W hb => ownS_open (OSa.out W hb))
  clear ha
  have Hb := Lib.hid hb
  obtain ⟨Ab, cb, rfl⟩ := ownS_form hb
  have OSb := Lib.hid (show ∀ W, Below w.heap.size w W → OwnS (.agg #[.bool b.1, .slice Ab b.2.length cb]) b W from fun W hb => OwnS.below Hb.out hb)
  have OIb := Lib.hid (show ∀ W, Below w.heap.size w W → OwnI (.slice Ab b.2.length cb) b.2 W from fun W hb => ownS_open (OSb.out W hb))
  clear hb
  have hla : a.2.length ≤ 1048576 := by unfold szS szI at hza; omega
  have hlb : b.2.length ≤ 1048576 := by unfold szS szI at hzb; omega
  clear hza hzb
  have bb0 : Below w.heap.size w (((w.alloc (.cells #[.bool a.1, .slice Aa a.2.length ca] 31)).alloc (.cells #[.bool b.1, .slice Ab b.2.length cb] 31)).alloc (.cells #[.bool false, .slice none 0 0, .slice none 0 0] 35)) := below_al (below_al (below_al (Below.refl _ _) _) _) _
  have ka := (box_new w #[.bool a.1, .slice Aa a.2.length ca] 31).below (below_al (below_al (Below.refl _ _) (.cells #[.bool b.1, .slice Ab b.2.length cb] 31)) (.cells #[.bool false, .slice none 0 0, .slice none 0 0] 35))
  have kb := (box_new (w.alloc (.cells #[.bool a.1, .slice Aa a.2.length ca] 31)) #[.bool b.1, .slice Ab b.2.length cb] 31).below (below_al (Below.refl _ _) (.cells #[.bool false, .slice none 0 0, .slice none 0 0] 35))
  rw [show (w.alloc (.cells #[.bool a.1, .slice Aa a.2.length ca] 31)).heap.size = w.heap.size + 1 by simp] at kb
  have ko := (box_new ((w.alloc (.cells #[.bool a.1, .slice Aa a.2.length ca] 31)).alloc (.cells #[.bool b.1, .slice Ab b.2.length cb] 31)) #[.bool false, .slice none 0 0, .slice none 0 0] 35)
  rw [show ((w.alloc (.cells #[.bool a.1, .slice Aa a.2.length ca] 31)).alloc (.cells #[.bool b.1, .slice Ab b.2.length cb] 31)).heap.size = w.heap.size + 1 + 1 by simp] at ko
  have HKO := Lib.hid (ko.lt (w.heap.size + 1 + 1) (by simp))
  go_enter Tryz.func134, Tryz.ntmps134
  have ka_c0 := ka.here.cell 0 _ rfl
  have ka_c1 := ka.here.cell 1 _ rfl
  go_wp2_with fail
  clear ka_c0 ka_c1
  refine (implIntOk_any _ a _ hla (OwnS.rd (OSa.out _ bb0))).mono ?_
  rintro e w1 ⟨rfl, b1⟩
  have bb1 := Below.next bb0 b1
  replace ka := ka.below b1
  replace kb := kb.below b1
  replace ko := ko.below b1
  by_cases oka : okS a = true
  · rw [oka]
    have HOa := Lib.hid oka
    clear oka
    have kb_c0 := kb.here.cell 0 _ rfl
    have kb_c1 := kb.here.cell 1 _ rfl
    go_wp2_with fail
    clear kb_c0 kb_c1
    refine (implIntSign_any _ b _ hlb (OSb.out _ bb1)).mono ?_
    rintro e w2 ⟨rfl, b2⟩
    have bb2 := Below.next bb1 b2
    replace ka := ka.below b2
    replace kb := kb.below b2
    replace ko := ko.below b2
    by_cases okb : cmpS b zeroS = 0
    · have HV := Lib.hid (show makeQ a b = (zeroQ, false) from makeQ_none (fun h => h.2 okb))
      rw [okb]
      clear okb
      have ko_c0 := ko.here.cell 0 _ rfl
      have ko_c1 := ko.here.cell 1 _ rfl
      have ko_c2 := ko.here.cell 2 _ rfl
      have cz0 := ko.here.cell 0 _ rfl
      have fz0 := Lib.frozen_of_heap ko.here 0
      have cz1 := ko.here.cell 1 _ rfl
      have fz1 := Lib.frozen_of_heap ko.here 1
      have cz2 := ko.here.cell 2 _ rfl
      have fz2 := Lib.frozen_of_heap ko.here 2
      go_wp2
      refine bodyPost_ret (v := .tuple #[.agg #[.bool false, .slice none 0 0, .slice none 0 0], .bool false]) (by simp [results, Tryz.results134, go_sem, cz0, cz1, cz2]) rfl ?_
      rw [HV.out]
      first | exact newQb_zero _ bb2 | exact newQb_zero _ (below_set3 bb2 (by omega))
    · have hne : (cmpS b zeroS == 0) = false := by rw [beq_eq_false_iff_ne]; exact okb
      obtain ⟨X, Y, eg, ex, ey, lx, ly, hy0, HV0⟩ := makeQ_parts HOa.out okb
      have EX := Lib.hid ex
      have EY := Lib.hid ey
      have HVm := Lib.hid HV0
      have hgl := gcdN_small a.2 b.2
      obtain ⟨G, hG⟩ : ∃ G, gcdN a.2 b.2 = G := ⟨_, rfl⟩
      have EG := Lib.hid hG
      rw [hG] at hgl
      have EXG := Lib.hid (show (divN a.2 G).1 = limbs X by rw [← hG]; exact ex)
      have EYG := Lib.hid (show (divN b.2 G).1 = limbs Y by rw [← hG]; exact ey)
      have kb50 := (natOk_parts (okS_parts (cmpS_ok okb)).1).2.1
      have ka50 := (natOk_parts (okS_parts HOa.out).1).2.1
      generalize cmpS b zeroS = z at *
      clear eg ex ey HV0 hG okb
      have ka_c0 := ka.here.cell 0 _ rfl
      have ka_c1 := ka.here.cell 1 _ rfl
      have kb_c0 := kb.here.cell 0 _ rfl
      have kb_c1 := kb.here.cell 1 _ rfl
      go_wp2_with fail
      clear ka_c0 ka_c1 kb_c0 kb_c1
      refine (implNatGcd_any _ _ a.2 b.2 0 _ 0 _ _ hla hlb (Nat.le_refl _) (OIa.out _ bb2).row (OIb.out _ bb2).row (HS.out.below bb2)).mono ?_
      rintro e w3 ⟨vg, rfl, og0, b3⟩
      rw [EG.out] at og0
      have og := own_at' og0
      obtain ⟨Ag, cg, rfl⟩ := own_len og0
      have bb3 := Below.next bb2 b3
      replace ka := ka.below b3
      replace kb := kb.below b3
      replace ko := ko.below b3
      clear hne og0
      have ka_c0 := ka.here.cell 0 _ rfl
      have ka_c1 := ka.here.cell 1 _ rfl
      go_wp2_with fail
      clear ka_c0 ka_c1
      refine (implNatDiv_any _ _ a.2 G 0 _ 0 _ _ hla (by omega) (Nat.le_refl _) (Nat.le_refl _) (OIa.out _ bb3).row (At.here og).row (HS.out.below bb3)).mono ?_
      rintro e w4 ⟨vx, vx2, rfl, ox0, _, _, b4⟩
      rw [EXG.out] at ox0
      have ox := own_at' ox0
      obtain ⟨Ax, cx, rfl⟩ := own_len ox0
      have bb4 := Below.next bb3 b4
      replace ka := ka.below b4
      replace kb := kb.below b4
      replace ko := ko.below b4
      replace og := og.below b4
      have kb_c0 := kb.here.cell 0 _ rfl
      have kb_c1 := kb.here.cell 1 _ rfl
      go_wp2_with fail
      clear kb_c0 kb_c1
      refine (implNatDiv_any _ _ b.2 G 0 _ 0 _ _ hlb (by omega) (Nat.le_refl _) (Nat.le_refl _) (OIb.out _ bb4).row (At.here og).row (HS.out.below bb4)).mono ?_
      rintro e w5 ⟨vy, vy2, rfl, oy0, _, _, b5⟩
      rw [EYG.out] at oy0
      obtain ⟨Ay, cy, rfl⟩ := own_len oy0
      have bb5 := Below.next bb4 b5
      replace ka := ka.below b5
      replace kb := kb.below b5
      replace ko := ko.below b5
      replace og := og.below b5
      replace ox := ox.below b5
      have hap : ∀ g, (Value.slice Ax (limbs X).length cx).ownBlock = some g → (Value.slice Ay (limbs Y).length cy).ownBlock ≠ some g := fun g h1 h2 => by
        have h3 := (own_lt ox0 h1).2
        have h4 := (own_lt oy0 h2).1
        omega
      have ox1 := own_up ox0 b5
      obtain ⟨sg, hsg⟩ : ∃ sg, ((!(a.1 == b.1)) && decide (0 < (limbs X).length)) = sg := ⟨_, rfl⟩
      have ESG := Lib.hid hsg
      have EM := Lib.hid (show mkS (!(a.1 == b.1)) (limbs X) = (sg, limbs X) by unfold mkS capL; rw [if_neg (by omega), hsg])
      have of := partsQ_at (x := ((sg, limbs X), limbs Y)) ox1 oy0 hap
      have lf0 : Within (partsB (Value.slice Ax (limbs X).length cx) (Value.slice Ay (limbs Y).length cy)) w3.heap.size w5.heap.size := fun g hg => by
        rcases List.mem_append.1 hg with hg | hg
        · exact own_within ox1 g hg
        · have := own_within oy0 g hg
          have := b4.size
          omega
      have LF := Lib.hid lf0
      have HS2 := Lib.hid (show w.heap.size + 1 + 1 < w3.heap.size from Nat.lt_of_lt_of_le HKO.out (by have := b1.size; have := b2.size; have := b3.size;  omega))
      clear ox0 oy0 ox1 hap lf0 hsg ox og
      have ka_c0 := ka.here.cell 0 _ rfl
      have ka_c1 := ka.here.cell 1 _ rfl
      have kb_c0 := kb.here.cell 0 _ rfl
      have kb_c1 := kb.here.cell 1 _ rfl
      have kn := box_new (w5) #[.slice Ax (limbs X).length cx, .bool (!(a.1 == b.1))] 104
      have aln := below_al (Below.refl (w5).heap.size (w5)) (.cells #[.slice Ax (limbs X).length cx, .bool (!(a.1 == b.1))] 104)
      have bbn := Below.next bb5 aln
      replace ka := ka.below aln
      replace kb := kb.below aln
      replace ko := ko.below aln
      replace of := of.below aln
      go_wp2_with fail
      clear ka_c0 ka_c1 kb_c0 kb_c1
      refine (signed_same _ _ Ax cx (limbs X) sg _ lx ESG.out kn.here).mono ?_
      rintro e w6 ⟨rfl, b6⟩
      have bb6 := Below.next bbn b6
      replace ka := ka.below b6
      replace kb := kb.below b6
      replace ko := ko.below b6
      replace of := of.below b6
      replace kn := kn.below b6
      clear kn
      have kr := box_new (w6) #[.bool sg, .slice Ax (limbs X).length cx, .slice Ay (limbs Y).length cy] 35
      have alr := below_al (Below.refl (w6).heap.size (w6)) (.cells #[.bool sg, .slice Ax (limbs X).length cx, .slice Ay (limbs Y).length cy] 35)
      have bbr := Below.next bb6 alr
      replace ka := ka.below alr
      replace kb := kb.below alr
      replace ko := ko.below alr
      replace of := of.below alr
      have kr_c0 := kr.here.cell 0 _ rfl
      have kr_c1 := kr.here.cell 1 _ rfl
      have kr_c2 := kr.here.cell 2 _ rfl
      go_wp2_with fail
      clear kr_c0 kr_c1 kr_c2
      refine (ratSized_any _ ((sg, limbs X), limbs Y) _ of.here).mono ?_
      rintro e w7 ⟨rfl, b7⟩
      have bb7 := Below.next bbr b7
      replace ka := ka.below b7
      replace kb := kb.below b7
      replace ko := ko.below b7
      replace of := of.below b7
      replace kr := kr.below b7
      by_cases hsz : (limbs X).length ≤ 18 ∧ 0 < (limbs Y).length ∧ (limbs Y).length ≤ 18
      · have HV := Lib.hid (show makeQ a b = (((sg, limbs X), limbs Y), true) by rw [HVm.out, if_pos ⟨hsz.1, hsz.2.2⟩, EM.out])
        rw [decide_eq_true hsz]
        clear hsz
        have hkz := kr.here.cell 0 _ rfl
        have hkz1 := kr.here.cell 1 _ rfl
        have hkz2 := kr.here.cell 2 _ rfl
        have HW := Lib.hid (newQb_at (x := ((sg, limbs X), limbs Y)) (r := w.heap.size + 1 + 1) (b := true) of (within_up LF.out (Nat.le_refl _) (by have := b6.size; have := b7.size; have := aln.size; have := alr.size; omega)) HS2.out (by omega) bb7)
        have cz0 := ko.here.cell 0 _ rfl
        have fz0 := Lib.frozen_of_heap ko.here 0
        have cz1 := ko.here.cell 1 _ rfl
        have fz1 := Lib.frozen_of_heap ko.here 1
        have cz2 := ko.here.cell 2 _ rfl
        have fz2 := Lib.frozen_of_heap ko.here 2
        clear of ko kr
        go_wp2
        refine bodyPost_ret (v := .tuple #[.agg #[.bool sg, .slice Ax _ cx, .slice Ay _ cy], .bool true]) (by simp [results, Tryz.results134, go_sem, cz0, cz1, cz2]; exact ⟨rfl, rfl⟩) rfl ?_
        rw [HV.out]
        exact HW.out
      · have HV := Lib.hid (show makeQ a b = (zeroQ, false) by rw [HVm.out, if_neg (fun h => hsz ⟨h.1, hy0, h.2⟩)])
        rw [decide_eq_false hsz]
        clear hsz
        have ko_c0 := ko.here.cell 0 _ rfl
        have ko_c1 := ko.here.cell 1 _ rfl
        have ko_c2 := ko.here.cell 2 _ rfl
        have cz0 := ko.here.cell 0 _ rfl
        have fz0 := Lib.frozen_of_heap ko.here 0
        have cz1 := ko.here.cell 1 _ rfl
        have fz1 := Lib.frozen_of_heap ko.here 1
        have cz2 := ko.here.cell 2 _ rfl
        have fz2 := Lib.frozen_of_heap ko.here 2
        go_wp2
        refine bodyPost_ret (v := .tuple #[.agg #[.bool false, .slice none 0 0, .slice none 0 0], .bool false]) (by simp [results, Tryz.results134, go_sem, cz0, cz1, cz2]) rfl ?_
        rw [HV.out]
        first | exact newQb_zero _ bb7 | exact newQb_zero _ (below_set3 bb7 (by omega))
  · have oka' : okS a = false := by simpa using oka
    have HV := Lib.hid (show makeQ a b = (zeroQ, false) from makeQ_none (fun h => oka h.1))
    rw [oka']
    clear oka oka'
    have ko_c0 := ko.here.cell 0 _ rfl
    have ko_c1 := ko.here.cell 1 _ rfl
    have ko_c2 := ko.here.cell 2 _ rfl
    have cz0 := ko.here.cell 0 _ rfl
    have fz0 := Lib.frozen_of_heap ko.here 0
    have cz1 := ko.here.cell 1 _ rfl
    have fz1 := Lib.frozen_of_heap ko.here 1
    have cz2 := ko.here.cell 2 _ rfl
    have fz2 := Lib.frozen_of_heap ko.here 2
    go_wp2
    refine bodyPost_ret (v := .tuple #[.agg #[.bool false, .slice none 0 0, .slice none 0 0], .bool false]) (by simp [results, Tryz.results134, go_sem, cz0, cz1, cz2]) rfl ?_
    rw [HV.out]
    first | exact newQb_zero _ bb1 | exact newQb_zero _ (below_set3 bb1 (by omega))
end Go.Proofs.YtofehcpapdlcnaaGreatDoor
