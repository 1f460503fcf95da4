/-
  What l05Low of package spec returns: a fraction in lowest terms.
-/
import Derived.Test.YtipbdpdmefcofaaDoorRatOk
namespace Go.Proofs.YtipbdpdmefcofaaDoor
open Go.RowKit
theorem trim_ok (n : Nat) : trimL (limbs n) = limbs n := trim_last _ (limbs_lastN n)
theorem oneCells (l : List Int) : ∀ u ∈ intsV l, u.oneCell' = true := fun u hu => by obtain ⟨x, _, rfl⟩ := List.mem_map.1 hu; rfl
/-- a struct result that lies in its cells at block r: a new value and a bool with it -/
theorem newQb_ret {r : Nat} {u d c0 c1 c2 : Value} {x : QI} {b : Bool} {w W : World} {B C : Nat} (hb : BoxAt r #[c0, c1, c2] 28 W) (o : W.ownsRow B 3 1 u x.1.2.length (intsV x.1.2)) (p : W.ownsRow C 3 1 d x.2.length (intsV x.2))
    (hap : ∀ g, u.ownBlock = some g → d.ownBlock ≠ some g) (hB : w.heap.size ≤ B) (hC : w.heap.size ≤ C) (hr : w.heap.size ≤ r) (hW : Below w.heap.size w W) :
    PostQb x b w (.returned (.tuple #[.agg #[.bool x.1.1, u, d], .bool b])) (((W.setCell ⟨r, 0, none⟩ (.bool x.1.1)).setCell ⟨r, 1, none⟩ u).setCell ⟨r, 2, none⟩ d) := by
  have hn1 := Lib.ownBlock_ne o hb (by decide)
  have hn2 := Lib.ownBlock_ne p hb (by decide)
  have hc : Chg [r] W (((W.setCell ⟨r, 0, none⟩ (.bool x.1.1)).setCell ⟨r, 1, none⟩ u).setCell ⟨r, 2, none⟩ d) := (((Chg.refl _ _).setCell (by simp) _).setCell (by simp) _).setCell (by simp) _
  have hz := hc.size
  refine ⟨_, partsB u d, rfl, (partsQ_at o p hap).chg hc (fun i hi hm => ?_), fun i hi => ?_, below_set3 hW hr⟩
  · simp at hm
    subst hm
    rcases List.mem_append.1 hi with hi | hi
    · exact hn1 (by simpa using hi)
    · exact hn2 (by simpa using hi)
  · rcases List.mem_append.1 hi with hi | hi
    · have := own_lt o (g := i) (by simpa using hi)
      omega
    · have := own_lt p (g := i) (by simpa using hi)
      omega
theorem ownQ_zero (w : World) : OwnQ (.agg #[.bool false, .slice none 0 0, .slice none 0 0]) zeroQ w := ⟨_, _, rfl, World.ownsRow_nil _ _ _ _, World.ownsRow_nil _ _ _ _, fun g hg => by cases hg⟩
theorem newQb_zero {w W : World} (b : Bool) (hW : Below w.heap.size w W) : PostQb zeroQ b w (.returned (.tuple #[.agg #[.bool false, .slice none 0 0, .slice none 0 0], .bool b])) W :=
  ⟨_, [], rfl, ⟨ownQ_zero _, (fun g hg => by cases hg), fun w' _ => ownQ_zero _⟩, (fun g hg => by cases hg), hW⟩
theorem div_toNat (a b : Nat) : ((a : Int) / (b : Int)).toNat = a / b := by rw [← Int.natCast_ediv]; exact Int.toNat_natCast _
set_option maxHeartbeats 1000000 in
set_option maxRecDepth 100000 in
theorem l05Low_any (n : Bool) (va vb : Value) (X Y : Nat) (w : World) (hX : (limbs X).length ≤ 50) (hY : (limbs Y).length ≤ 50) (oa : OwnI va (limbs X) w) (ob : OwnI vb (limbs Y) w) :
    Calls Tryd.prog 20 #[.bool n, va, vb] w (PostQb (lowQ n X Y).1 (lowQ n X Y).2 w) := by
  obtain ⟨i0, hi0, hz0, hz1, hz2⟩ := info_parts intInfo
  have bb0 := below_al (Below.refl w.heap.size w) (.cells #[.bool false, .slice none 0 0, .slice none 0 0] 28)
  have kr := box_new w #[.bool false, .slice none 0 0, .slice none 0 0] 28
  have oa1 := own_up oa bb0
  have ob1 := own_up ob bb0
  clear oa ob
  go_enter Tryd.func20, Tryd.ntmps20
  go_wp2_with fail
  refine (specTrim_any _ _ _ _ (by omega) oa1).mono ?_
  rintro e w1 ⟨rfl, v1, rfl, o1⟩
  rw [trim_ok] at o1
  go_wp2_with fail
  refine (specTrim_any _ _ _ _ (by omega) ob1).mono ?_
  rintro e w1 ⟨rfl, v2, rfl, o2⟩
  rw [trim_ok] at o2
  obtain ⟨A1, c1, rfl⟩ := own_len o1
  obtain ⟨A2, c2, rfl⟩ := own_len o2
  clear oa1 ob1
  by_cases hy : 0 < (limbs Y).length
  · have h1 : (((limbs Y).length : Int) == 0) = false := by rw [beq_eq_false_iff_ne]; omega
    have hY0 := limbs_some hy
    go_wp2_with fail
    refine (l05Gcd_any _ _ X Y _ hX hY o1 o2).mono ?_
    rintro e w3 ⟨v3, rfl, o3, b3⟩
    have bb3 := Below.next bb0 b3
    replace kr := kr.below b3
    replace o1 := own_up o1 b3
    replace o2 := own_up o2 b3
    have HG := Lib.hid (Nat.gcd_pos_of_pos_right X hY0)
    have hgl : (limbs (Nat.gcd X Y)).length ≤ 50 := by
      have := limbs_mono (m := ((Nat.gcd X Y : Nat) : Int)) (n := (Y : Int)) (by omega) (by have := Nat.gcd_le_right X hY0; omega)
      rw [Int.toNat_natCast, Int.toNat_natCast] at this
      omega
    have hg0 : 0 < (limbs (Nat.gcd X Y)).length := by
      rcases Nat.eq_zero_or_pos (limbs (Nat.gcd X Y)).length with h | h
      · have := (limbs_zero_iff _).1 h
        have := HG.out
        omega
      · exact h
    have HLOW := Lib.hid (show lowQ n X Y = if (limbs (X / Nat.gcd X Y)).length ≤ 18 ∧ (limbs (Y / Nat.gcd X Y)).length ≤ 18 then ((mkS n (limbs (X / Nat.gcd X Y)), limbs (Y / Nat.gcd X Y)), true) else (zeroQ, false) by unfold lowQ; simp [show Y ≠ 0 by omega])
    clear hy hY0
    go_wp2_with fail
    refine (specDiv_any _ _ (limbs X) (limbs (Nat.gcd X Y)) _ _ _ _ _ hX hgl hg0 (Nat.le_refl _) (Nat.le_refl _) (limbs_digN _) ⟨limbs_digN _, limbs_lastN _⟩ (Row.of_own o1) (Row.of_own o3)).mono ?_
    rintro e w4 ⟨v4, v5, rfl, o4, o5, _, b4⟩
    rw [limbs_val, limbs_val, div_toNat] at o4
    have bb4 := Below.next bb3 b4
    replace kr := kr.below b4
    replace o2 := own_up o2 b4
    replace o3 := own_up o3 b4
    clear o1 o5
    go_wp2_with fail
    refine (specDiv_any _ _ (limbs Y) (limbs (Nat.gcd X Y)) _ _ _ _ _ hY hgl hg0 (Nat.le_refl _) (Nat.le_refl _) (limbs_digN _) ⟨limbs_digN _, limbs_lastN _⟩ (Row.of_own o2) (Row.of_own o3)).mono ?_
    rintro e w5 ⟨v6, v7, rfl, o6, o7, _, b5⟩
    rw [limbs_val, limbs_val, div_toNat] at o6
    have bb5 := Below.next bb4 b5
    replace kr := kr.below b5
    replace o4 := own_up o4 b5
    obtain ⟨A4, c4, rfl⟩ := own_len o4
    obtain ⟨A6, c6, rfl⟩ := own_len o6
    clear o2 o3 o7 hg0 hgl
    have hz5 := b5.size
    have hz4 := b4.size
    have hz3 := b3.size
    by_cases hp : (limbs (X / Nat.gcd X Y)).length ≤ 18
    · have h2 : decide ((18 : Int) < ((limbs (X / Nat.gcd X Y)).length : Int)) = false := decide_eq_false (by omega)
      by_cases hq : (limbs (Y / Nat.gcd X Y)).length ≤ 18
      · have h3 : decide ((18 : Int) < ((limbs (Y / Nat.gcd X Y)).length : Int)) = false := decide_eq_false (by omega)
        have HV := Lib.hid (show lowQ n X Y = ((mkS n (limbs (X / Nat.gcd X Y)), limbs (Y / Nat.gcd X Y)), true) by rw [HLOW.out, if_pos ⟨hp, hq⟩])
        go_wp2_with fail
        refine (l04Make_any n _ (limbs (X / Nat.gcd X Y)) _ _ (by omega) o4).mono ?_
        rintro e w6 ⟨u6, rfl, o8, b6⟩
        rw [trim_ok] at o8 ⊢
        have bb6 := Below.next bb5 b6
        replace kr := kr.below b6
        replace o6 := own_up o6 b6
        obtain ⟨A8, c8, rfl⟩ := own_len o8
        clear hp h2 h3 o4
        have HONE := Lib.hid oneCells
        go_wp2_with (at_builtin; refine append_row rfl _ _ 22 rfl w6.heap.size 3 i0 (.int .i64 0) 8 Tryd.underlying22 hi0 hz0 hz1 hz2 rfl _ 0 [] rfl (World.ownsRow_made w6 #[] 0 (Nat.le_refl _) (Nat.zero_le _) rfl) _ _ _ (intsV (limbs (Y / Nat.gcd X Y))) rfl ((Row.of_own o6).below (below_al (Below.refl _ _) _) (Nat.le_refl _)) (own_noCap o6) (HONE.out _) ?c3 ?c4 ?c5 ?_)
        case c3 => rw [intsV_length]; unfold maxLen; omega
        case c4 => rw [intsV_length]; omega
        case c5 => simp
        intro v9 w7 o9 g9
        have b7 : Below w6.heap.size w6 w7 := ((Below.refl _ w6).alloc (Nat.le_refl _) _).grown g9 (by simp) (fun k hk => by cases hk; exact Nat.le_refl _)
        have bb7 := Below.next bb6 b7
        have hz6 := b6.size
        replace kr := kr.below b7
        have hap : ∀ g, (Value.slice A8 (mkS n (limbs (X / Nat.gcd X Y))).2.length c8).ownBlock = some g → v9.ownBlock ≠ some g := fun g h1 h2 => by
          have := (own_lt o8 h1).2
          have := (own_lt o9 h2).1
          omega
        replace o8 := own_up o8 b7
        replace o9 : w7.ownsRow w6.heap.size 3 1 v9 (limbs (Y / Nat.gcd X Y)).length (intsV (limbs (Y / Nat.gcd X Y))) := by simpa [intsV_length] using o9
        obtain ⟨A9, c9, rfl⟩ := own_len o9
        have cz0 := kr.here.cell 0 _ rfl
        have cz1 := kr.here.cell 1 _ rfl
        have cz2 := kr.here.cell 2 _ rfl
        have fz0 := Lib.frozen_of_heap kr.here 0
        have fz1 := Lib.frozen_of_heap kr.here 1
        have fz2 := Lib.frozen_of_heap kr.here 2
        have HR := Lib.hid (newQb_ret (x := (mkS n (limbs (X / Nat.gcd X Y)), limbs (Y / Nat.gcd X Y))) (b := true) kr.here o8 o9 hap bb5.size bb6.size (Nat.le_refl _) bb7)
        clear g9 b7 hap o8 o9 o6 kr HONE hq
        go_wp2
        refine bodyPost_ret (v := .tuple #[.agg #[.bool _, .slice A8 _ c8, .slice A9 _ c9], .bool true]) (by simp [results, Tryd.results20, go_sem, cz0, cz1, cz2]; exact ⟨rfl, rfl, rfl⟩) rfl ?_
        rw [HV.out]
        exact HR.out
      · have h3 : decide ((18 : Int) < ((limbs (Y / Nat.gcd X Y)).length : Int)) = true := decide_eq_true (by omega)
        have HV := Lib.hid (show lowQ n X Y = (zeroQ, false) by rw [HLOW.out, if_neg (fun h => hq h.2)])
        have cz0 := kr.here.cell 0 _ rfl
        have cz1 := kr.here.cell 1 _ rfl
        have cz2 := kr.here.cell 2 _ rfl
        have fz0 := Lib.frozen_of_heap kr.here 0
        have fz1 := Lib.frozen_of_heap kr.here 1
        have fz2 := Lib.frozen_of_heap kr.here 2
        clear hp hq o4 o6 kr
        go_wp2
        refine bodyPost_ret (v := .tuple #[.agg #[.bool false, .slice none 0 0, .slice none 0 0], .bool false]) (by simp [results, Tryd.results20, go_sem, cz0, cz1, cz2]) rfl ?_
        rw [HV.out]
        exact newQb_zero _ (below_set3 bb5 (Nat.le_refl _))
    · have h2 : decide ((18 : Int) < ((limbs (X / Nat.gcd X Y)).length : Int)) = true := decide_eq_true (by omega)
      have HV := Lib.hid (show lowQ n X Y = (zeroQ, false) by rw [HLOW.out, if_neg (fun h => hp h.1)])
      have cz0 := kr.here.cell 0 _ rfl
      have cz1 := kr.here.cell 1 _ rfl
      have cz2 := kr.here.cell 2 _ rfl
      have fz0 := Lib.frozen_of_heap kr.here 0
      have fz1 := Lib.frozen_of_heap kr.here 1
      have fz2 := Lib.frozen_of_heap kr.here 2
      clear hp o4 o6 kr
      go_wp2
      refine bodyPost_ret (v := .tuple #[.agg #[.bool false, .slice none 0 0, .slice none 0 0], .bool false]) (by simp [results, Tryd.results20, go_sem, cz0, cz1, cz2]) rfl ?_
      rw [HV.out]
      exact newQb_zero _ (below_set3 bb5 (Nat.le_refl _))
  · have h1 : (((limbs Y).length : Int) == 0) = true := by rw [beq_iff_eq]; omega
    have HV := Lib.hid (show lowQ n X Y = (zeroQ, false) by unfold lowQ; simp [limbs_empty hy])
    have cz0 := kr.here.cell 0 _ rfl
    have cz1 := kr.here.cell 1 _ rfl
    have cz2 := kr.here.cell 2 _ rfl
    have fz0 := Lib.frozen_of_heap kr.here 0
    have fz1 := Lib.frozen_of_heap kr.here 1
    have fz2 := Lib.frozen_of_heap kr.here 2
    clear hy o1 o2 kr
    go_wp2
    refine bodyPost_ret (v := .tuple #[.agg #[.bool false, .slice none 0 0, .slice none 0 0], .bool false]) (by simp [results, Tryd.results20, go_sem, cz0, cz1, cz2]) rfl ?_
    rw [HV.out]
    exact newQb_zero _ bb0
end Go.Proofs.YtipbdpdmefcofaaDoor
