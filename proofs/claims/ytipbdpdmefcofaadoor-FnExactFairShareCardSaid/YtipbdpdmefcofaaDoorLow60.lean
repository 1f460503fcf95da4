/-
  Lowest terms of package spec where the numerator has more limbs than a number may have: an amount times a weight.
-/
import Derived.Test.YtipbdpdmefcofaaDoorRatLow
namespace Go.Proofs.YtipbdpdmefcofaaDoor
open Go.RowKit

set_option maxHeartbeats 2000000 in
set_option maxRecDepth 100000 in
theorem specDivBig60_any (va vb : Value) (a b : List Int) (la ha lb hb_ : Nat) (w : World) (hal : a.length ≤ 60) (hbl : b.length ≤ 50) (hb2 : 2 ≤ b.length) (hha : ha ≤ w.heap.size) (hhb : hb_ ≤ w.heap.size) (oa : DigN a) (ob : DigN b ∧ b.getLastD 1 ≠ 0)
    (hra : Row w la ha va (intsV a)) (hrb : Row w lb hb_ vb (intsV b)) :
    Calls Tryd.prog 37 #[va, vb] w (TwoRows (limbs (nval a / nval b).toNat) (limbs (nval a % nval b).toNat) w) := by
  obtain ⟨i0, hi0, hz0, hz1, hz2⟩ := info_parts intInfo
  have hD : 0 < nval b := by
    have h1 := nval_ge b ob.1 ob.2 (by omega)
    have h2 := bp_pos (b.length - 1)
    omega
  have hra0 := hra
  have hrb0 := hrb
  obtain ⟨A, c, rfl, hA⟩ := hra
  obtain ⟨B, d, rfl, hB⟩ := hrb
  rw [intsV_length] at hra0 hrb0 ⊢
  rw [intsV_length]
  have HA := Lib.hid hA
  have OA := Lib.hid oa
  have OB := Lib.hid ob
  have HDP := Lib.hid hD
  have hmk := make_ints a.length (by omega)
  have hb1 : ((b.length : Int) == 1) = false := by rw [beq_eq_false_iff_ne]; omega
  clear hA hB oa ob hD
  go_enter Tryd.func37, Tryd.ntmps37
  go_wp2
  go_loopw [9, 10] (fun v i wr => ∃ k : Nat, k ≤ a.length ∧ i = .int .i64 ((k : Int) - 1) ∧ DivS w a (nval b) k v wr) (fun _ i _ => (intOf i + 1).toNat)
  case atStart =>
    refine ⟨a.length, Nat.le_refl _, rfl, 0, [], DivR.start a (nval b), ?_, ?_, ((Below.refl _ _).alloc (Nat.le_refl _) _).alloc (by simp) _⟩
    · have h := World.ownsRow_lit (e := 3) (size := 1) (base := w.heap.size) w (madeCells #[.int .i64 0] a.length) a.length (Nat.le_refl _) (by unfold maxLen; omega) (by rw [size_madeCells, Nat.mul_one])
      rw [toList_madeCells_one] at h
      exact own_alloc (by simpa [intsV] using h) _
    · rw [show limbs (0 : Int).toNat = [] from limbs_none]
      have h := World.ownsRow_made (w.alloc (.cells (madeCells #[.int .i64 0] a.length) 3)) (e := 3) (size := 1) (base := w.heap.size + 1) #[] 0 (by simp) (Nat.zero_le _) rfl
      simpa [intsV] using h
  case round =>
    obtain ⟨k, hk, rfl, R, qs, hR, hout, hrest, hb⟩ := hrel
    have hRb := hR.bound HDP.out
    have hR0 := hRb.1
    have HR := Lib.hid hR
    have HRB := Lib.hid hRb
    clear hR hRb
    have hsz := hb.size
    have hsz2 : w.heap.size < wr.heap.size := (own_lt hout (g := w.heap.size) rfl).2
    by_cases hz : 0 < k
    · obtain ⟨j, rfl⟩ : ∃ j, k = j + 1 := ⟨k - 1, by omega⟩
      have hlt : j < a.length := by omega
      obtain ⟨p, rfl, _, hpb, hca⟩ := HA.out j _ (intsV_at a j hlt)
      have hca' : wr.cell? (p.add j) = some (.int .i64 a[j]) := (hb.cell (by rw [block_add]; omega)).trans hca
      have hda := OA.out.at_ j hlt
      have hm1 : ((j + 1 : Nat) : Int) - 1 = (j : Int) := by omega
      rw [hm1]
      have HDN := Lib.hid (down_limb hda.1 hda.2 hR0)
      have hrl : (limbs R.toNat).length ≤ 50 := limbs_length_le _ 50 (by
        have h1 := nval_lt b OB.out.1
        have h2 := bp_mono hbl
        have := HRB.out
        omega)
      have hown0 : (wr.alloc (.cells #[.int .i64 a[j]] 3)).ownsRow (w.heap.size + 1) 3 1 (.slice (some ⟨wr.heap.size, 0, none⟩) 1 1) 1 [.int .i64 a[j]] :=
        ⟨rfl, .inr ⟨wr.heap.size, 1, _, rfl, by omega, heap_alloc_new wr _, Nat.le_refl _, by unfold maxLen; omega, rfl, rfl⟩⟩
      clear hm1 hz hca
      go_wp2_with (at_builtin; refine append_owned rfl _ _ 22 rfl (w.heap.size + 1) 3 i0 (.int .i64 0) 8 Tryd.underlying22 hi0 hz0 hz1 hz2 rfl (.slice (some ⟨wr.heap.size, 0, none⟩) 1 1) 1 [.int .i64 a[j]] rfl hown0 _ _ _ _ _ rfl (own_alloc hrest _) ?c2 ?c3 ?c4 ?c5 ?_)
      case c2 => intro u hu; obtain ⟨x, _, rfl⟩ := List.mem_map.1 hu; rfl
      case c3 => unfold maxLen; omega
      case c4 => omega
      case c5 => simp; omega
      intro v1 w1 hown1 hg1
      have hown2 : w1.ownsRow (w.heap.size + 1) 3 1 v1 (a[j] :: limbs R.toNat).length (intsV (a[j] :: limbs R.toNat)) := by
        rw [List.length_cons, Nat.add_comm (limbs R.toNat).length]
        exact hown1
      have hout1 := own_apart (own_alloc hout _) hg1 (fun g k hg hk => by simp [Value.ownBlock] at hg hk; omega)
      have hbb1 : Below w.heap.size w w1 := (hb.alloc hsz _).grown hg1 (by simp; omega) (fun k hk => by cases hk; exact hsz)
      clear hown0 hown1 hg1 hout hrest
      go_wp2_with fail
      refine (specTrim_any v1 (a[j] :: limbs R.toNat) (w.heap.size + 1) _ (by simp; omega) hown2).mono ?_
      rintro e w2 ⟨rfl, v2, rfl, ho2⟩
      rw [HDN.out] at ho2
      clear hown2
      have hda0 := hda.1
      have hda1 := hda.2
      have HN := Lib.hid (HR.out.next HDP.out OA.out hlt)
      have HDG := Lib.hid (HR.out.digit HDP.out OA.out hlt)
      have hqsl := Lib.hid HR.out.2.2.2
      have HBD : Hid (R * 1000000000 + a[j] < 1000000000 * nval b) := Lib.hid (by have := HRB.out.2; omega)
      obtain ⟨N, HNE⟩ : ∃ N, Hid (N = R * 1000000000 + a[j]) := ⟨_, Lib.hid rfl⟩
      rw [← HNE.out] at ho2 HN HDG HBD
      have hN0 : 0 ≤ N := by rw [HNE.out]; omega
      have HNV := Lib.hid (limbs_toNat N hN0)
      have hnl : (limbs N.toNat).length ≤ 51 := limbs_length_le _ 51 (by
        have h1 := nval_lt b OB.out.1
        have h2 := bp_mono hbl
        have h3 : bp 51 = 1000000000 * bp 50 := rfl
        have := HBD.out
        omega)
      have hsz1 := hbb1.size
      have r2 := Row.of_own ho2
      go_wp2_with fail
      refine (specCmp_any v2 _ (limbs N.toNat) b _ _ lb hb_ _ (by omega) (by omega) ⟨limbs_digN _, limbs_lastN _⟩ OB.out r2 (hrb0.below hbb1 hhb)).mono ?_
      rintro e w3 ⟨rfl, q3, rfl⟩
      rw [HNV.out]
      have hout3 := own_drew hout1 q3
      have ho3 := own_drew ho2 q3
      have hbb3 := below_drewN hbb1 q3
      clear r2 hout1 ho2
      by_cases hless : N < nval b
      · have HC := Lib.hid (cmp_lt hless)
        have HS : Hid (DivS w a (nval b) j v2 (w1.drewN q3)) := Lib.hid (by
          have h := HN.out
          rw [Int.emod_eq_of_lt hN0 hless, Int.ediv_eq_zero_of_lt hN0 hless] at h
          refine ⟨N, 0 :: qs, h, ?_, ho3, hbb3⟩
          rw [show List.replicate j (0 : Int) ++ 0 :: qs = List.replicate (j + 1) 0 ++ qs by rw [List.replicate_succ', List.append_assoc]; rfl]
          exact hout3)
        clear hless
        rw [HC.out]
        go_wp2
        exact ⟨⟨j, by omega, rfl, HS.out⟩, by simp [intOf]⟩
      · have hcd : ¬ cmpI N (nval b) < 0 := by unfold cmpI; rw [if_neg hless]; split <;> omega
        have HG := Lib.hid (show nval b ≤ N by omega)
        clear hless
        go_wp2_with fail
        refine (specDigit_any v2 _ (limbs N.toNat) b _ _ lb hb_ _ (by omega) hbl (Nat.le_refl _) (by have := hbb3.size; omega) ⟨limbs_digN _, limbs_lastN _⟩ OB.out HDP.out (by rw [HNV.out]; exact HBD.out) (Row.of_own ho3) (hrb0.below hbb3 hhb)).mono ?_
        rintro e w4 ⟨rfl, b4⟩
        rw [HNV.out]
        have hout4 := own_below hout3 b4
        have ho4 := own_below ho3 b4
        have hbb4 : Below w.heap.size w w4 := Below.next hbb3 b4
        have hq0 := HDG.out.1
        have hq1 := HDG.out.2
        obtain ⟨q, HQE⟩ : ∃ q, Hid (q = N / nval b) := ⟨_, Lib.hid rfl⟩
        rw [← HQE.out] at hq0 hq1 HN ⊢
        have hlen : (List.replicate (j + 1) (0 : Int) ++ qs).length = a.length := by have := hqsl.out; simp; omega
        obtain ⟨cu, hcell⟩ : ∃ u, w4.cell? ⟨w.heap.size, j, none⟩ = some u := ⟨_, (hout4.cellAt j (by omega)).trans (List.getElem?_eq_getElem (by rw [intsV_length, hlen]; exact hlt))⟩
        have hfr := hout4.frozenAt j
        obtain ⟨hout5, hg5⟩ := hout4.stored j (.int .i64 q)
        rw [intsV_set, zeros_set] at hout5
        have ho5 := own_apart ho4 hg5 (fun g k hg hk => by cases hk; have := (own_lt ho4 hg).1; omega)
        have hbb5 := hbb4.grown hg5 hbb4.size (fun g hg => by cases hg; exact Nat.le_refl _)
        clear hout3 ho3 hbb3 hout4 ho4 hg5 hlen hcd hb hbb1
        go_wp2_with fail
        refine (specNatOf_any q _ (by omega)).mono ?_
        rintro e w6 ⟨v6, rfl, o6, b6⟩
        have hbb6 : Below w.heap.size w w6 := Below.next hbb5 b6
        have hout6 := own_below hout5 b6
        have ho6 := own_below ho5 b6
        clear hout5 ho5 hbb5 hbb4
        go_wp2_with fail
        refine (specMulV_any _ v6 b (limbs q.toNat) lb hb_ _ _ _ hbl (Nat.le_trans (limbs_length_le _ 1 (by show ((q.toNat : Nat) : Int) < 1000000000 * 1; omega)) (by decide)) (by have := hbb6.size; omega) (Nat.le_refl _) OB.out.1 (limbs_digN _) (hrb0.below hbb6 hhb) (Row.of_own o6)).mono ?_
        rintro e w7 ⟨v7, rfl, o7, b7⟩
        rw [limbs_toNat q hq0] at o7
        have hbb7 : Below w.heap.size w w7 := Below.next hbb6 b7
        have hout7 := own_below hout6 b7
        have ho7 := own_below ho6 b7
        clear hout6 ho6 hbb6 o6
        have HP : Hid (0 ≤ nval b * q ∧ nval b * q ≤ N ∧ N - nval b * q = N % nval b) := Lib.hid (by
          have h1 := Int.emod_add_mul_ediv N (nval b)
          have h2 := Int.emod_nonneg N (show nval b ≠ 0 by have := HDP.out; omega)
          rw [← HQE.out] at h1
          exact ⟨Int.mul_nonneg (by have := HDP.out; omega) hq0, by omega, by omega⟩)
        go_wp2_with fail
        refine (specSubV_any v2 v7 (limbs N.toNat) (limbs (nval b * q).toNat) _ _ _ _ _ (by omega) (limbs_mono HP.out.1 HP.out.2.1) (Nat.le_refl _) (Nat.le_refl _) (limbs_digN _) (limbs_digN _) (by rw [HNV.out, limbs_toNat _ HP.out.1]; exact HP.out.2.1) (Row.of_own ho7) (Row.of_own o7)).mono ?_
        rintro e w8 ⟨v8, rfl, o8, b8⟩
        rw [HNV.out, limbs_toNat _ HP.out.1, HP.out.2.2] at o8
        have HS : Hid (DivS w a (nval b) j v8 w8) := Lib.hid ⟨_, _, HN.out, own_below hout7 b8, own_base o8 (by have := (own_lt hout7 (g := w.heap.size) rfl).2; omega), Below.next hbb7 b8⟩
        clear hout7 ho7 o7 o8
        go_wp2
        exact ⟨⟨j, by omega, rfl, HS.out⟩, by simp [intOf]⟩
    · obtain rfl : k = 0 := by omega
      have HF := Lib.hid HR.out.done
      have hql : qs.length = a.length := by have := HR.out.2.2.2; omega
      have hqb : qs.length ≤ 60 := by omega
      have HT := Lib.hid (fun W : World => specTrim_at (some ⟨w.heap.size, 0, none⟩) a.length qs w.heap.size W (by omega))
      have HO : Hid (wr.ownsRow w.heap.size 3 1 (.slice (some ⟨w.heap.size, 0, none⟩) a.length a.length) a.length (intsV qs)) := Lib.hid (by simpa using hout)
      rw [hql] at HT
      clear hql hout hqb
      go_wp2_with fail
      refine (HT.out _ HO.out).mono ?_
      rintro e w2 ⟨rfl, rfl, ho2⟩
      rw [HF.out.1] at ho2 ⊢
      go_wp2
      go_ret2
      refine ⟨_, _, rfl, ho2, ?_, ?_, hb⟩
      · rw [← HF.out.2]
        exact own_base hrest (by omega)
      · intro x y hx hy
        have h1 := (own_lt hrest hy).1
        have h2 : w.heap.size = x := by simpa [Value.ownBlock] using hx
        omega
theorem specDiv60_any (va vb : Value) (a b : List Int) (la ha lb hb_ : Nat) (w : World) (hal : a.length ≤ 60) (hbl : b.length ≤ 50) (hb0 : 0 < b.length) (hha : ha ≤ w.heap.size) (hhb : hb_ ≤ w.heap.size) (oa : DigN a) (ob : DigN b ∧ b.getLastD 1 ≠ 0)
    (hra : Row w la ha va (intsV a)) (hrb : Row w lb hb_ vb (intsV b)) :
    Calls Tryd.prog 37 #[va, vb] w (TwoRows (limbs (nval a / nval b).toNat) (limbs (nval a % nval b).toNat) w) := by
  by_cases h1 : b.length = 1
  · have hv : nval b = b[0] := by
      conv => lhs; rw [one_of_len h1]
      show b[0] + 1000000000 * 0 = _
      omega
    have hd := ob.1.at_ 0 hb0
    have hne : b[0] ≠ 0 := by
      have := ob.2
      rw [one_of_len h1] at this
      simpa using this
    rw [hv]
    exact specDivOne_any va vb a b[0] la ha lb hb_ w (by omega) hha oa (by omega) hd.2 hra (by rw [← one_of_len h1]; exact hrb)
  · exact specDivBig60_any va vb a b la ha lb hb_ w hal hbl (by omega) hha hhb oa ob hra hrb
/-- the state of l05Gcd's loop -/
def GcdR60 (w : World) (G : Nat) (n : Nat) (x y : Value) (wr : World) : Prop :=
  ∃ X Y : Nat, n = Y ∧ Nat.gcd X Y = G ∧ (limbs X).length ≤ 60 ∧ (limbs Y).length ≤ 50 ∧ wr.ownsRow 0 3 1 x (limbs X).length (intsV (limbs X)) ∧ wr.ownsRow 0 3 1 y (limbs Y).length (intsV (limbs Y)) ∧ Below w.heap.size w wr
set_option maxHeartbeats 1000000 in
set_option maxRecDepth 100000 in
theorem l05Gcd60_any (va vb : Value) (X0 Y0 : Nat) (w : World) (hX0 : (limbs X0).length ≤ 60) (hY0 : (limbs Y0).length ≤ 50) (oa : OwnI va (limbs X0) w) (ob : OwnI vb (limbs Y0) w) :
    Calls Tryd.prog 36 #[va, vb] w fun e w' => ∃ v, e = .returned v ∧ OwnI v (limbs (Nat.gcd X0 Y0)) w' ∧ Below w.heap.size w w' := by
  have HS : Hid (GcdR60 w (Nat.gcd X0 Y0) Y0 va vb w) := Lib.hid ⟨X0, Y0, rfl, rfl, hX0, hY0, oa, ob, Below.refl _ _⟩
  clear oa ob
  go_enter Tryd.func36, Tryd.ntmps36
  go_wp2
  go_loopg [5, 6] Y0 (fun n x y wr => GcdR60 w (Nat.gcd X0 Y0) n x y wr)
  case atStart => exact HS.out
  case round =>
    clear HS hX0 hY0
    obtain ⟨X, Y, hn, hG, hX, hY, ox, oy, hb⟩ := hrel
    have HNE := Lib.hid hn
    have HG := Lib.hid hG
    clear hn hG
    have oy0 := oy
    obtain ⟨B, c, rfl⟩ := own_len oy
    by_cases hpos : 0 < (limbs Y).length
    · have hY0 := limbs_some hpos
      go_wp2_with fail
      refine (specDiv60_any _ _ (limbs X) (limbs Y) _ _ _ _ _ hX hY hpos (Nat.le_refl _) (Nat.le_refl _) (limbs_digN _) ⟨limbs_digN _, limbs_lastN _⟩ (Row.of_own ox) (Row.of_own oy0)).mono ?_
      rintro e w3 ⟨v3, v4, rfl, o3, o4, _, b3⟩
      rw [limbs_val, limbs_val, show ((X : Int) % (Y : Int)).toNat = X % Y by omega] at o4
      have HS2 : Hid (GcdR60 w (Nat.gcd X0 Y0) (X % Y) (.slice B (limbs Y).length c) v4 w3) := Lib.hid ⟨Y, X % Y, rfl, by rw [gcd_step]; exact HG.out, Nat.le_trans hY (by decide), limbs_mod_len X Y hY hY0, own_below oy0 b3, own_zero o4, Below.next hb b3⟩
      clear ox oy oy0 o3 o4
      go_wp2
      go_roundg (X % Y)
      case measure => rw [HNE.out]; exact Nat.mod_lt X hY0
      case rel => exact HS2.out
    · have hY0 := Lib.hid (limbs_empty hpos)
      have HF : Hid (X = Nat.gcd X0 Y0) := Lib.hid (by have := HG.out; rw [hY0.out, Nat.gcd_zero_right] at this; exact this)
      go_wp2
      go_ret
      exact ⟨_, rfl, by rw [← HF.out]; exact ox, hb⟩
set_option maxHeartbeats 1000000 in
set_option maxRecDepth 100000 in
theorem l05Low60_any (n : Bool) (va vb : Value) (X Y : Nat) (w : World) (hX : (limbs X).length ≤ 60) (hY : (limbs Y).length ≤ 50) (oa : OwnI va (limbs X) w) (ob : OwnI vb (limbs Y) w) :
    Calls Tryd.prog 20 #[.bool n, va, vb] w (PostQb (lowQ n X Y).1 (lowQ n X Y).2 w) := by
  obtain ⟨i0, hi0, hz0, hz1, hz2⟩ := info_parts intInfo
  have bb0 := below_al (Below.refl w.heap.size w) (.cells #[.bool false, .slice none 0 0, .slice none 0 0] 28)
  have kr := box_new w #[.bool false, .slice none 0 0, .slice none 0 0] 28
  have oa1 := own_up oa bb0
  have ob1 := own_up ob bb0
  clear oa ob
  go_enter Tryd.func20, Tryd.ntmps20
  go_wp2_with fail
  refine (specTrim_any _ _ _ _ (by omega) oa1).mono ?_
  rintro e w1 ⟨rfl, v1, rfl, o1⟩
  rw [trim_ok] at o1
  go_wp2_with fail
  refine (specTrim_any _ _ _ _ (by omega) ob1).mono ?_
  rintro e w1 ⟨rfl, v2, rfl, o2⟩
  rw [trim_ok] at o2
  obtain ⟨A1, c1, rfl⟩ := own_len o1
  obtain ⟨A2, c2, rfl⟩ := own_len o2
  clear oa1 ob1
  by_cases hy : 0 < (limbs Y).length
  · have h1 : (((limbs Y).length : Int) == 0) = false := by rw [beq_eq_false_iff_ne]; omega
    have hY0 := limbs_some hy
    go_wp2_with fail
    refine (l05Gcd60_any _ _ X Y _ hX hY o1 o2).mono ?_
    rintro e w3 ⟨v3, rfl, o3, b3⟩
    have bb3 := Below.next bb0 b3
    replace kr := kr.below b3
    replace o1 := own_up o1 b3
    replace o2 := own_up o2 b3
    have HG := Lib.hid (Nat.gcd_pos_of_pos_right X hY0)
    have hgl : (limbs (Nat.gcd X Y)).length ≤ 50 := by
      have := limbs_mono (m := ((Nat.gcd X Y : Nat) : Int)) (n := (Y : Int)) (by omega) (by have := Nat.gcd_le_right X hY0; omega)
      rw [Int.toNat_natCast, Int.toNat_natCast] at this
      omega
    have hg0 : 0 < (limbs (Nat.gcd X Y)).length := by
      rcases Nat.eq_zero_or_pos (limbs (Nat.gcd X Y)).length with h | h
      · have := (limbs_zero_iff _).1 h
        have := HG.out
        omega
      · exact h
    have HLOW := Lib.hid (show lowQ n X Y = if (limbs (X / Nat.gcd X Y)).length ≤ 18 ∧ (limbs (Y / Nat.gcd X Y)).length ≤ 18 then ((mkS n (limbs (X / Nat.gcd X Y)), limbs (Y / Nat.gcd X Y)), true) else (zeroQ, false) by unfold lowQ; simp [show Y ≠ 0 by omega])
    clear hy hY0
    go_wp2_with fail
    refine (specDiv60_any _ _ (limbs X) (limbs (Nat.gcd X Y)) _ _ _ _ _ hX hgl hg0 (Nat.le_refl _) (Nat.le_refl _) (limbs_digN _) ⟨limbs_digN _, limbs_lastN _⟩ (Row.of_own o1) (Row.of_own o3)).mono ?_
    rintro e w4 ⟨v4, v5, rfl, o4, o5, _, b4⟩
    rw [limbs_val, limbs_val, div_toNat] at o4
    have bb4 := Below.next bb3 b4
    replace kr := kr.below b4
    replace o2 := own_up o2 b4
    replace o3 := own_up o3 b4
    clear o1 o5
    go_wp2_with fail
    refine (specDiv60_any _ _ (limbs Y) (limbs (Nat.gcd X Y)) _ _ _ _ _ (Nat.le_trans hY (by decide)) hgl hg0 (Nat.le_refl _) (Nat.le_refl _) (limbs_digN _) ⟨limbs_digN _, limbs_lastN _⟩ (Row.of_own o2) (Row.of_own o3)).mono ?_
    rintro e w5 ⟨v6, v7, rfl, o6, o7, _, b5⟩
    rw [limbs_val, limbs_val, div_toNat] at o6
    have bb5 := Below.next bb4 b5
    replace kr := kr.below b5
    replace o4 := own_up o4 b5
    obtain ⟨A4, c4, rfl⟩ := own_len o4
    obtain ⟨A6, c6, rfl⟩ := own_len o6
    clear o2 o3 o7 hg0 hgl
    have hz5 := b5.size
    have hz4 := b4.size
    have hz3 := b3.size
    by_cases hp : (limbs (X / Nat.gcd X Y)).length ≤ 18
    · have h2 : decide ((18 : Int) < ((limbs (X / Nat.gcd X Y)).length : Int)) = false := decide_eq_false (by omega)
      by_cases hq : (limbs (Y / Nat.gcd X Y)).length ≤ 18
      · have h3 : decide ((18 : Int) < ((limbs (Y / Nat.gcd X Y)).length : Int)) = false := decide_eq_false (by omega)
        have HV := Lib.hid (show lowQ n X Y = ((mkS n (limbs (X / Nat.gcd X Y)), limbs (Y / Nat.gcd X Y)), true) by rw [HLOW.out, if_pos ⟨hp, hq⟩])
        go_wp2_with fail
        refine (l04Make_any n _ (limbs (X / Nat.gcd X Y)) _ _ (by omega) o4).mono ?_
        rintro e w6 ⟨u6, rfl, o8, b6⟩
        rw [trim_ok] at o8 ⊢
        have bb6 := Below.next bb5 b6
        replace kr := kr.below b6
        replace o6 := own_up o6 b6
        obtain ⟨A8, c8, rfl⟩ := own_len o8
        clear hp h2 h3 o4
        have HONE := Lib.hid oneCells
        go_wp2_with (at_builtin; refine append_row rfl _ _ 22 rfl w6.heap.size 3 i0 (.int .i64 0) 8 Tryd.underlying22 hi0 hz0 hz1 hz2 rfl _ 0 [] rfl (World.ownsRow_made w6 #[] 0 (Nat.le_refl _) (Nat.zero_le _) rfl) _ _ _ (intsV (limbs (Y / Nat.gcd X Y))) rfl ((Row.of_own o6).below (below_al (Below.refl _ _) _) (Nat.le_refl _)) (own_noCap o6) (HONE.out _) ?c3 ?c4 ?c5 ?_)
        case c3 => rw [intsV_length]; unfold maxLen; omega
        case c4 => rw [intsV_length]; omega
        case c5 => simp
        intro v9 w7 o9 g9
        have b7 : Below w6.heap.size w6 w7 := ((Below.refl _ w6).alloc (Nat.le_refl _) _).grown g9 (by simp) (fun k hk => by cases hk; exact Nat.le_refl _)
        have bb7 := Below.next bb6 b7
        have hz6 := b6.size
        replace kr := kr.below b7
        have hap : ∀ g, (Value.slice A8 (mkS n (limbs (X / Nat.gcd X Y))).2.length c8).ownBlock = some g → v9.ownBlock ≠ some g := fun g h1 h2 => by
          have := (own_lt o8 h1).2
          have := (own_lt o9 h2).1
          omega
        replace o8 := own_up o8 b7
        replace o9 : w7.ownsRow w6.heap.size 3 1 v9 (limbs (Y / Nat.gcd X Y)).length (intsV (limbs (Y / Nat.gcd X Y))) := by simpa [intsV_length] using o9
        obtain ⟨A9, c9, rfl⟩ := own_len o9
        have cz0 := kr.here.cell 0 _ rfl
        have cz1 := kr.here.cell 1 _ rfl
        have cz2 := kr.here.cell 2 _ rfl
        have fz0 := Lib.frozen_of_heap kr.here 0
        have fz1 := Lib.frozen_of_heap kr.here 1
        have fz2 := Lib.frozen_of_heap kr.here 2
        have HR := Lib.hid (newQb_ret (x := (mkS n (limbs (X / Nat.gcd X Y)), limbs (Y / Nat.gcd X Y))) (b := true) kr.here o8 o9 hap bb5.size bb6.size (Nat.le_refl _) bb7)
        clear g9 b7 hap o8 o9 o6 kr HONE hq
        go_wp2
        refine bodyPost_ret (v := .tuple #[.agg #[.bool _, .slice A8 _ c8, .slice A9 _ c9], .bool true]) (by simp [results, Tryd.results20, go_sem, cz0, cz1, cz2]; exact ⟨rfl, rfl, rfl⟩) rfl ?_
        rw [HV.out]
        exact HR.out
      · have h3 : decide ((18 : Int) < ((limbs (Y / Nat.gcd X Y)).length : Int)) = true := decide_eq_true (by omega)
        have HV := Lib.hid (show lowQ n X Y = (zeroQ, false) by rw [HLOW.out, if_neg (fun h => hq h.2)])
        have cz0 := kr.here.cell 0 _ rfl
        have cz1 := kr.here.cell 1 _ rfl
        have cz2 := kr.here.cell 2 _ rfl
        have fz0 := Lib.frozen_of_heap kr.here 0
        have fz1 := Lib.frozen_of_heap kr.here 1
        have fz2 := Lib.frozen_of_heap kr.here 2
        clear hp hq o4 o6 kr
        go_wp2
        refine bodyPost_ret (v := .tuple #[.agg #[.bool false, .slice none 0 0, .slice none 0 0], .bool false]) (by simp [results, Tryd.results20, go_sem, cz0, cz1, cz2]) rfl ?_
        rw [HV.out]
        exact newQb_zero _ (below_set3 bb5 (Nat.le_refl _))
    · have h2 : decide ((18 : Int) < ((limbs (X / Nat.gcd X Y)).length : Int)) = true := decide_eq_true (by omega)
      have HV := Lib.hid (show lowQ n X Y = (zeroQ, false) by rw [HLOW.out, if_neg (fun h => hp h.1)])
      have cz0 := kr.here.cell 0 _ rfl
      have cz1 := kr.here.cell 1 _ rfl
      have cz2 := kr.here.cell 2 _ rfl
      have fz0 := Lib.frozen_of_heap kr.here 0
      have fz1 := Lib.frozen_of_heap kr.here 1
      have fz2 := Lib.frozen_of_heap kr.here 2
      clear hp o4 o6 kr
      go_wp2
      refine bodyPost_ret (v := .tuple #[.agg #[.bool false, .slice none 0 0, .slice none 0 0], .bool false]) (by simp [results, Tryd.results20, go_sem, cz0, cz1, cz2]) rfl ?_
      rw [HV.out]
      exact newQb_zero _ (below_set3 bb5 (Nat.le_refl _))
  · have h1 : (((limbs Y).length : Int) == 0) = true := by rw [beq_iff_eq]; omega
    have HV := Lib.hid (show lowQ n X Y = (zeroQ, false) by unfold lowQ; simp [limbs_empty hy])
    have cz0 := kr.here.cell 0 _ rfl
    have cz1 := kr.here.cell 1 _ rfl
    have cz2 := kr.here.cell 2 _ rfl
    have fz0 := Lib.frozen_of_heap kr.here 0
    have fz1 := Lib.frozen_of_heap kr.here 1
    have fz2 := Lib.frozen_of_heap kr.here 2
    clear hy o1 o2 kr
    go_wp2
    refine bodyPost_ret (v := .tuple #[.agg #[.bool false, .slice none 0 0, .slice none 0 0], .bool false]) (by simp [results, Tryd.results20, go_sem, cz0, cz1, cz2]) rfl ?_
    rw [HV.out]
    exact newQb_zero _ bb0
end Go.Proofs.YtipbdpdmefcofaaDoor
