/-
  The numbers that the law FnNat draws: valid nats of at most five limbs. And what laws.same returns.
-/
import Derived.Test.YtecaghbakjalgaaDoorCursor
import Derived.Test.YtecaghbakjalgaaDoorNatConv
import Derived.Test.YtecaghbakjalgaaDoorObj
import Derived.Test.YtecaghbakjalgaaDoorDivSpec2
namespace Go.Proofs.YtecaghbakjalgaaDoor
open Go.RowKit

theorem Row.away {w w' : World} {lo hi g : Nat} {v : Value} {xs : List Value} (h : Row w lo hi v xs) (hg : w.grownBy w' (some g)) (hd : hi ≤ g ∨ g < lo) : Row w' lo hi v xs := by
  obtain ⟨A, c, rfl, h⟩ := h
  refine ⟨A, c, rfl, fun j u hj => ?_⟩
  obtain ⟨a, e, h1, h2, h3⟩ := h j u hj
  refine ⟨a, e, h1, h2, ?_⟩
  rw [← h3]
  have hne : some (a.add j).block ≠ some g := by rw [block_add]; intro e; injection e with e; omega
  exact World.cell?_of_block (hg.block _ (cell_lt h3) hne)
theorem Chg.of_cur {w w' : World} {g : Nat} (h : w.grownBy w' (some g)) : Chg [g] w w' := ⟨h.os, h.tape, h.output, h.size, fun i hi hn => h.block i hi (fun e => hn (by injection e with e; simp [e]))⟩
theorem Chg.new_row {T : List Nat} {w a b : World} {row : Option Nat} (h : Chg T w a) (k : a.grownBy b row) (hr : ∀ j, row = some j → w.heap.size ≤ j) : Chg T w b :=
  ⟨k.os.trans h.os, k.tape.trans h.tape, k.output.trans h.output, Nat.le_trans h.size k.size, fun i hi hn => (k.block i (Nat.lt_of_lt_of_le hi h.size) (fun e => by have := hr i e.symm; omega)).trans (h.block i hi hn)⟩
theorem Chg.alloc {T : List Nat} {w a : World} (h : Chg T w a) (o : Obj) : Chg T w (a.alloc o) :=
  h.trans (Chg.of_below ((Below.refl _ _).alloc (Nat.le_refl _) o))
theorem Cur.alloc {w : World} {g : Nat} {v : Value} {n : Nat} (h : Cur w g v n) (o : Obj) : Cur (w.alloc o) g v n := by
  obtain ⟨i, k, h1, h2, h3, h4, hb⟩ := h
  exact ⟨i, k, h1, h2, h3, h4, (Below.heap_alloc _ _ _ (Array.getElem?_eq_some_iff.1 hb).1).trans hb⟩
theorem Cur.grown {w w' : World} {g : Nat} {v : Value} {n : Nat} {row : Option Nat} (h : Cur w g v n) (k : w.grownBy w' row) (hr : row ≠ some g) : Cur w' g v n := by
  obtain ⟨i, x, h1, h2, h3, h4, hb⟩ := h
  exact ⟨i, x, h1, h2, h3, h4, (k.block g (Array.getElem?_eq_some_iff.1 hb).1 (Ne.symm hr)).trans hb⟩
theorem Cur.lt {w : World} {g : Nat} {v : Value} {n : Nat} (h : Cur w g v n) : g < w.heap.size := by
  obtain ⟨i, x, h1, h2, h3, h4, hb⟩ := h
  exact (Array.getElem?_eq_some_iff.1 hb).1

theorem own_far {w w' : World} {base n g : Nat} {e : TypeId} {v : Value} {xs : List Value} (h : w.ownsRow base e 1 v n xs) (hg : w.grownBy w' (some g)) (hlt : g < base) : w'.ownsRow base e 1 v n xs :=
  own_apart h hg (fun a b ha hb => by have := (own_lt h ha).1; injection hb with hb; omega)

/-- what a pick comes to: one of the list -/
def PickPost (xs : List Int) (g : Nat) (v : Value) (n : Nat) (w : World) (e : Ending) (w' : World) : Prop :=
  ∃ x ∈ xs, e = .returned (.int .i64 x) ∧ Cur w' g v n ∧ w.grownBy w' (some g)
set_option maxHeartbeats 400000 in
set_option maxRecDepth 100000 in
theorem l01Pick_any (xs : List Int) (vx : Value) (lx hx g lo hi : Nat) (v : Value) (bs : List Nat) (w : World) (h0 : 0 < xs.length) (h1 : xs.length ≤ 1048576) (hb : ∀ b ∈ bs, b < 256) (hn : bs.length ≤ 1048576) (hc : Cur w g v bs.length) (hr : Row w lo hi v (bytesV bs)) (hg : hi ≤ g)
    (hrx : Row w lx hx vx (intsV xs)) (hd : hx ≤ g ∨ g < lx) :
    Calls Tryd.prog 77 #[.pointer (some ⟨g, 0, none⟩), vx] w (PickPost xs g v bs.length w) := by
  have HB := Lib.hid hb
  have HD := Lib.hid hd
  clear hb hd
  have hrx0 := hrx
  obtain ⟨A, c, rfl, _⟩ := hrx
  rw [intsV_length] at hrx0 ⊢
  go_enter Tryd.func77, Tryd.ntmps77
  go_wp2_with fail
  refine (l01Below_any (xs.length : Int) g lo hi v bs _ (by omega) (by omega) HB.out hn hc hr hg).mono ?_
  rintro e w1 ⟨x, hx0, hx1, rfl, hc1, hg1⟩
  obtain ⟨k, rfl⟩ := Int.eq_ofNat_of_zero_le hx0
  have hk : k < xs.length := by omega
  obtain ⟨A', c', e1, hA⟩ := hrx0.away hg1 HD.out
  injection e1 with e1 _ _
  subst e1
  obtain ⟨p, rfl, _, _, hca⟩ := hA k _ (intsV_at xs k hk)
  have HG := Lib.hid hg1
  clear hA hg1 hrx0
  go_wp2
  go_ret
  exact ⟨xs[k], List.getElem_mem hk, rfl, hc1, HG.out⟩

/-- what a drawn nat is -/
def DrawPost (most : Nat) (g : Nat) (v : Value) (n : Nat) (w : World) (e : Ending) (w' : World) : Prop :=
  ∃ (u : Value) (xs : List Int), e = .returned u ∧ natOkB xs = true ∧ xs.length ≤ most ∧ w'.ownsRow w.heap.size 3 1 u xs.length (intsV xs) ∧ Cur w' g v n ∧ Chg [g] w w'
/-- what is known at the head of l02Nat's loop -/
def DrawRel (most : Nat) (g : Nat) (v : Value) (n : Nat) (w : World) (u i : Value) (wr : World) : Prop :=
  ∃ (m : Nat) (out : List Int), out.length + m ≤ most ∧ i = .int .i64 m ∧ DigN out ∧ wr.ownsRow w.heap.size 3 1 u out.length (intsV out) ∧ Cur wr g v n ∧ Chg [g] w wr
theorem pick_list {x y z : Int} (h1 : 0 ≤ y ∧ y < 1000000000) (h2 : 0 ≤ z ∧ z < 1000000000) (h : x ∈ [0, 1, 2, 999999999, 500000000, y, z]) : 0 ≤ x ∧ x ≤ 999999999 := by
  simp at h
  omega
theorem trim_ok (xs : List Int) (h : DigN xs) (hl : xs.length ≤ 50) : natOkB (trimL xs) = true ∧ (trimL xs).length ≤ xs.length := by
  have h1 := trimL_length xs
  refine ⟨?_, h1⟩
  rw [trim_limbs xs h] at h1 ⊢
  unfold natOkB
  rw [(all_dig _).2 (limbs_digN _), decide_eq_true (show (limbs (nval xs).toNat).length ≤ 50 by omega), decide_eq_true (limbs_lastN _)]
  rfl

set_option maxHeartbeats 1000000 in
set_option maxRecDepth 100000 in
theorem l02Nat_any (most : Nat) (g lo hi : Nat) (v : Value) (bs : List Nat) (w : World) (hmost : most ≤ 50) (hb : ∀ b ∈ bs, b < 256) (hn : bs.length ≤ 1048576) (hc : Cur w g v bs.length) (hr : Row w lo hi v (bytesV bs)) (hg : hi ≤ g) :
    Calls Tryd.prog 53 #[.pointer (some ⟨g, 0, none⟩), .int .i64 most] w (DrawPost most g v bs.length w) := by
  obtain ⟨i0, hi0, hz0, hz1, hz2⟩ := info_parts intInfo
  have HB := Lib.hid hb
  have hgl := hc.lt
  clear hb
  go_enter Tryd.func53, Tryd.ntmps53
  go_wp2_with fail
  refine (l01Below_any _ g lo hi v bs _ (by omega) (by omega) HB.out hn (hc.alloc _) (hr.below ((Below.refl _ _).alloc (Nat.le_refl _) _) (by omega)) hg).mono ?_
  rintro e w1 ⟨x, hx0, hx1, rfl, hc1, hg1⟩
  have HS : Hid (DrawRel most g v bs.length w (.slice (some ⟨w.heap.size, 0, none⟩) 0 0) (.int .i64 x) w1) := Lib.hid (by
    obtain ⟨k, rfl⟩ := Int.eq_ofNat_of_zero_le hx0
    refine ⟨k, [], by simp; omega, rfl, (fun d hd => by cases hd), ?_, hc1, ((Chg.refl _ _).alloc _).trans (Chg.of_cur hg1)⟩
    exact own_apart (World.ownsRow_made w #[] 0 (Nat.le_refl _) (Nat.zero_le _) rfl) hg1 (fun a b ha hb => by simp [Value.ownBlock] at ha; injection hb with hb; omega))
  clear hc1 hg1
  go_wp2
  go_loopw [5, 6] (fun u i wr => DrawRel most g v bs.length w u i wr) (fun _ i _ => (intOf i).toNat)
  case atStart => exact HS.out
  case round =>
    clear HS
    obtain ⟨m, out, hom, rfl, hd, hown, hcur, hchg⟩ := hrel
    have hsz := hchg.size
    have HD := Lib.hid hd
    clear hd
    by_cases hm : 0 < m
    · have hrow : Row wr lo hi v (bytesV bs) := hr.stays (fun p hp => World.cell?_of_block (hchg.block _ (by omega) (by simp; omega)))
      go_wp2_with fail
      refine (l01Below_any 1000000000 g lo hi v bs _ (by omega) (by omega) HB.out hn hcur hrow hg).mono ?_
      rintro e w2 ⟨y, hy0, hy1, rfl, hc2, hg2⟩
      have hr2 := hrow.far hg2 hg
      go_wp2_with fail
      refine (l01Below_any 1000000000 g lo hi v bs _ (by omega) (by omega) HB.out hn hc2 hr2 hg).mono ?_
      rintro e w3 ⟨z, hz0', hz1', rfl, hc3, hg3⟩
      have hr3 := hr2.far hg3 hg
      have hs2 := hg2.size
      have hs3 := hg3.size
      go_wp2_with fail
      refine (l01Pick_any [0, 1, 2, 999999999, 500000000, y, z] _ w3.heap.size (w3.heap.size + 1) g lo hi v bs _ (by simp) (by simp) HB.out hn (hc3.alloc _) (hr3.below ((Below.refl _ _).alloc (Nat.le_refl _) _) (by have := hc3.lt; omega)) hg (Row.lit w3 #[.int .i64 0, .int .i64 1, .int .i64 2, .int .i64 999999999, .int .i64 500000000, .int .i64 y, .int .i64 z] _) (.inr hc3.lt)).mono ?_
      rintro e w4 ⟨p, hp, rfl, hc4, hg4⟩
      have hpr := pick_list ⟨hy0, hy1⟩ ⟨hz0', hz1'⟩ hp
      have hown4 := own_far (own_alloc (own_far (own_far hown hg2 hgl) hg3 hgl) _) hg4 hgl
      have hchg4 := ((hchg.trans (Chg.of_cur hg2)).trans (Chg.of_cur hg3)).alloc (.cells #[.int .i64 0, .int .i64 1, .int .i64 2, .int .i64 999999999, .int .i64 500000000, .int .i64 y, .int .i64 z] 3) |>.trans (Chg.of_cur hg4)
      have hs4 := hchg4.size
      have HC4 := Lib.hid hc4
      have HH4 := Lib.hid hchg4
      have HP := Lib.hid (show DigN (out ++ [p]) from fun d hd => by
        rcases List.mem_append.1 hd with hd | hd
        · exact HD.out d hd
        · rw [List.mem_singleton.1 hd]; exact hpr)
      have hol : out.length + 1 ≤ 50 := by omega
      clear hown hcur hchg hrow hc2 hg2 hr2 hc3 hg3 hr3 hp hc4 hg4 hchg4 hpr
      go_wp2_with (at_builtin; refine wpList_append_own _ rfl _ _ 23 rfl w.heap.size 3 i0 (.int .i64 0) 1 8 Tryd.underlying23 hi0 hz0 hz1 hz2 rfl (by decide) _ _ _ rfl (own_alloc hown4 _) ⟨w4.heap.size, 0, none⟩ 1 1 [.int .i64 p] rfl rfl (one_new _ _ _) ?c2 ?c3 ?c4 ?c5 ?_)
      case c2 => first | (intro u hu; simp at hu; subst hu; rfl) | rfl
      case c3 => unfold maxLen; omega
      case c4 => omega
      case c5 => simp; omega
      intro v5 w5 hown5 hg5 _
      have HS : Hid (DrawRel most g v bs.length w v5 (.int .i64 ((m : Int) - 1)) w5) := Lib.hid (by
        refine ⟨m - 1, out ++ [p], by simp; omega, by congr 1; omega, HP.out, by simpa [intsV] using hown5, (HC4.out.alloc _).grown hg5 (fun e => by have := (own_lt hown4 e).1; omega), (HH4.out.alloc _).new_row hg5 (fun j hj => (own_lt hown4 hj).1)⟩)
      clear hown4 hown5 hg5
      go_wp2
      exact ⟨HS.out, by simp [intOf]; omega⟩
    · obtain rfl : m = 0 := by omega
      have HT := Lib.hid (trim_ok out HD.out (by omega))
      go_wp2_with fail
      refine (specTrim_any _ out w.heap.size _ (by omega) hown).mono ?_
      rintro e w2 ⟨rfl, v2, rfl, ho2⟩
      go_wp2
      go_ret
      exact ⟨v2, trimL out, rfl, HT.out.1, by have := HT.out.2; omega, ho2, hcur, hchg⟩

/-- what MakeNats gives -/
def NatsPost (w : World) (e : Ending) (w' : World) : Prop :=
  ∃ (u v : Value) (a b : List Int), e = .returned (.tuple #[u, v]) ∧ natOkB a = true ∧ natOkB b = true ∧ a.length ≤ 5 ∧ b.length ≤ 5 ∧ w'.ownsRow w.heap.size 3 1 u a.length (intsV a) ∧ w'.ownsRow w.heap.size 3 1 v b.length (intsV b) ∧ Below w.heap.size w w'

end Go.Proofs.YtecaghbakjalgaaDoor
