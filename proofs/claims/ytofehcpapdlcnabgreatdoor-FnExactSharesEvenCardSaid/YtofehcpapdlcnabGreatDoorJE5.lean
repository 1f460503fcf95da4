/-
  JA5
-/
import Derived.Lib.Builder
import Derived.Lib.SliceRun
import Derived.Deep.LoopGhost
import Derived.Laws.Externs
import Derived.LaidEql
import Derived.Stop.Asserts
import Derived.RowKitTokens
import Derived.Test.YtofehcpapdlcnabGreatDoorJE4
namespace Go.Proofs.YtofehcpapdlcnabGreatDoor
open Go.RowKit

/-- what a nat lies in: the cells behind its limbs, and the type of the block (a nat alone, or the head of an integer) -/
structure NatK where
  rest : List Value
  ty : TypeId
  ne : ty ≠ 3
@[reducible] def natK : NatK := ⟨[], 113, by decide⟩
/-- the pointer at block b leads to a nat of the call's own whose limbs are xs -/
def NatX (K : NatK) (B b : Nat) (xs : List Int) (w : World) : Prop :=
  B ≤ b ∧ ∃ v, w.heap[b]? = some (.cells (v :: K.rest).toArray K.ty (0, 0)) ∧ w.ownsRow B 3 1 v xs.length (intsV xs) ∧ v.ownBlock ≠ some b

abbrev NatAt (B b : Nat) (xs : List Int) (w : World) : Prop := NatX natK B b xs w

theorem NatX.lt {K : NatK} {B b : Nat} {xs : List Int} {w : World} (h : NatX K B b xs w) : b < w.heap.size := by
  obtain ⟨_, v, hb, _⟩ := h
  exact (Array.getElem?_eq_some_iff.1 hb).1
theorem NatX.cell {K : NatK} {v : Value} {b : Nat} {w : World} (hb : w.heap[b]? = some (.cells (v :: K.rest).toArray K.ty (0, 0))) : w.cell? ⟨b, 0, none⟩ = some v := by
  rw [Lib.cell_of_heap hb]; simp
theorem NatX.cell1 {K : NatK} {v u : Value} {b : Nat} {w : World} (hb : w.heap[b]? = some (.cells (v :: K.rest).toArray K.ty (0, 0))) (j : Nat) (hj : K.rest[j]? = some u) : w.cell? ⟨b, j + 1, none⟩ = some u := by
  rw [Lib.cell_of_heap hb]; simpa using hj
/-- new limbs laid into it -/
theorem NatX.put {K : NatK} {B b : Nat} {v v' : Value} {ys : List Int} {w : World} (hB : B ≤ b) (hb : w.heap[b]? = some (.cells (v :: K.rest).toArray K.ty (0, 0))) (hown : w.ownsRow B 3 1 v' ys.length (intsV ys)) :
    NatX K B b ys (w.setCell ⟨b, 0, none⟩ v') := by
  have hne := Lib.ownBlock_ne hown hb K.ne
  refine ⟨hB, v', ?_, ?_, hne⟩
  · simp [World.setCell, Array.getElem?_modify, hb]
  · exact hown.kept (row := some b) ⟨rfl, rfl, rfl, by simp [World.setCell], fun k _ hk => Below.heap_setCell _ _ _ _ (fun e => hk (by simp [e]))⟩ (Or.inr hne)
theorem NatAt.put {B b : Nat} {v v' : Value} {ys : List Int} {w : World} (hB : B ≤ b) (hb : w.heap[b]? = some (.cells #[v] 113 (0, 0))) (hown : w.ownsRow B 3 1 v' ys.length (intsV ys)) :
    NatAt B b ys (w.setCell ⟨b, 0, none⟩ v') := NatX.put (K := natK) hB hb hown
theorem NatX.new {K : NatK} {B : Nat} {v : Value} {xs : List Int} {w : World} (hB : B ≤ w.heap.size) (hown : w.ownsRow B 3 1 v xs.length (intsV xs)) : NatX K B w.heap.size xs (w.alloc (.cells (v :: K.rest).toArray K.ty)) := by
  refine ⟨hB, v, heap_alloc_new w _, own_alloc hown _, fun h => ?_⟩
  have := (own_lt hown h).2
  omega
theorem NatAt.new {B : Nat} {v : Value} {xs : List Int} {w : World} (hB : B ≤ w.heap.size) (hown : w.ownsRow B 3 1 v xs.length (intsV xs)) : NatAt B w.heap.size xs (w.alloc (.cells #[v] 113)) :=
  NatX.new (K := natK) hB hown

set_option maxHeartbeats 1000000 in
set_option maxRecDepth 100000 in
theorem cloneI_any (v : Value) (xs : List Int) (lo hi : Nat) (w : World) (hl : xs.length ≤ 1048576) (hr : Row w lo hi v (intsV xs)) :
    Calls Tryz.prog 158 #[v] w (NewInts xs w) := by
  obtain ⟨i0, hi0, hz0, hz1, hz2⟩ := info_parts intInfo
  obtain ⟨A, c, rfl, hA⟩ := hr
  have q22 : ∀ (w : World) (a : Option Addr) (n c n' c' : Nat), (binOp .eql 22 (.slice a n c) (.slice none n' c')).run Tryz.prog w = .ok (.bool a.isNone) w := fun w a n c n' c' => Lib.run_eql_slice_nil w _ _ a n c n' c' Tryz.underlying22
  cases A with
  | none =>
    obtain rfl : xs = [] := by
      cases xs with
      | nil => rfl
      | cons x r =>
        obtain ⟨a, e, _⟩ := hA 0 _ rfl
        cases e
    clear hA
    go_enter Tryz.func158, Tryz.ntmps158
    go_wp2
    go_ret
    exact ⟨_, rfl, World.ownsRow_nil _ _ _ _, Below.refl _ _⟩
  | some a =>
    have HA := Lib.hid hA
    clear hA
    rw [intsV_length]
    go_enter Tryz.func158, Tryz.ntmps158
    go_wp2_with (at_builtin; refine wpList_append_own _ rfl _ _ 22 rfl w.heap.size 3 i0 (.int .i64 0) 1 8 Tryz.underlying22 hi0 hz0 hz1 hz2 rfl (by decide) _ _ _ rfl (World.ownsRow_made w #[] 0 (Nat.le_refl _) (Nat.zero_le _) rfl) a xs.length c (intsV xs) rfl ?qc1 ?qc2 ?qc3 ?qc4 ?qc5 ?qc6 ?_)
    case qc1 => simp [intsV_length]
    case qc2 =>
      intro j u hj
      obtain ⟨p, e, h1, h2, h3⟩ := HA.out j u hj
      cases e
      exact Lib.cell?_alloc_some _ h3
    case qc3 => intro u hu; obtain ⟨x, _, rfl⟩ := List.mem_map.1 hu; rfl
    case qc4 => unfold maxLen; omega
    case qc5 => omega
    case qc6 => simp
    intro v' w1 hown hgrow hnil
    go_wp2
    go_ret
    exact ⟨v', rfl, by simpa using hown, ((Below.refl _ w).alloc (Nat.le_refl _) _).grown hgrow (by simp) (by intro k hk; simp [Value.ownBlock] at hk; omega)⟩

/-- a new nat that holds xs -/
def NewNat (xs : List Int) (w : World) (e : Ending) (w' : World) : Prop :=
  ∃ b, e = .returned (.pointer (some ⟨b, 0, none⟩)) ∧ NatAt w.heap.size b xs w' ∧ Below w.heap.size w w'

set_option maxHeartbeats 400000 in
set_option maxRecDepth 100000 in
theorem copyNat_any (v : Value) (xs : List Int) (lo hi : Nat) (w : World) (hl : xs.length ≤ 1048576) (hr : Row w lo hi v (intsV xs)) :
    Calls Tryz.prog 131 #[v] w (NewNat xs w) := by
  go_enter Tryz.func131, Tryz.ntmps131
  go_wp2_with fail
  refine (cloneI_any v xs lo hi _ hl hr).mono ?_
  rintro e w1 ⟨v1, rfl, o1, b1⟩
  obtain ⟨A1, c1, rfl⟩ := own_len o1
  go_wp2
  go_ret
  exact ⟨_, rfl, NatAt.new b1.size o1, b1.alloc b1.size _⟩

set_option maxHeartbeats 400000 in
set_option maxRecDepth 100000 in
theorem natResult_any {K : NatK} (B b : Nat) (xs : List Int) (w : World) (hl : xs.length ≤ 1048576) (h : NatX K B b xs w) :
    Calls Tryz.prog 135 #[.pointer (some ⟨b, 0, none⟩)] w (OwnPost B (capL xs) w) := by
  obtain ⟨hB, v, hb, hown, hne⟩ := h
  have hc : w.cell? ⟨b, 0, none⟩ = some v := NatX.cell hb
  obtain ⟨A, c, rfl⟩ := own_len hown
  have HB := Lib.hid hb
  have HO := Lib.hid hown
  clear hb hown hne
  by_cases h50 : 50 < xs.length
  · have HR := Lib.hid (show capL xs = [] by unfold capL; rw [if_pos h50])
    go_enter Tryz.func135, Tryz.ntmps135
    go_wp2
    go_ret
    exact ⟨rfl, _, rfl, by rw [HR.out]; exact World.ownsRow_nil _ _ _ _⟩
  · have HR := Lib.hid (show capL xs = xs by unfold capL; rw [if_neg h50])
    go_enter Tryz.func135, Tryz.ntmps135
    go_wp2
    go_ret
    exact ⟨rfl, _, rfl, by rw [HR.out]; exact HO.out⟩
end Go.Proofs.YtofehcpapdlcnabGreatDoor

namespace Go.Proofs.YtofehcpapdlcnabGreatDoor
open Go.RowKit

/-- what a method leaves: the number, and all below B as it was -/
def LeftX (K : NatK) (B b : Nat) (xs : List Int) (w w' : World) : Prop := NatX K B b xs w' ∧ Below B w w'
theorem zeros_step (xs : List Int) (k : Nat) : xs ++ List.replicate k 0 ++ [(0 : Int)] = xs ++ List.replicate (k + 1) 0 := by
  rw [List.append_assoc, List.replicate_succ']
theorem zeros_pad (xs : List Int) (k p : Nat) (h : xs.length + k ≤ p + 1 ∨ k = 0) (h2 : p < xs.length + k) : xs ++ List.replicate k 0 = padL xs (p + 1) := by
  unfold padL
  rw [show p + 1 - xs.length = k by omega]
theorem intsV_append (xs ys : List Int) : intsV (xs ++ ys) = intsV xs ++ intsV ys := by simp [intsV]

/-- a store into the limbs of a nat -/
theorem NatX.stored {K : NatK} {B b g cap : Nat} {xs : List Int} {w : World} (hB : B ≤ b) (hb : w.heap[b]? = some (.cells (.slice (some ⟨g, 0, none⟩) xs.length cap :: K.rest).toArray K.ty (0, 0)))
    (hown : w.ownsRow B 3 1 (.slice (some ⟨g, 0, none⟩) xs.length cap) xs.length (intsV xs)) (p : Nat) (d : Int) :
    LeftX K B b (xs.set p d) w (w.setCell ⟨g, p, none⟩ (.int .i64 d)) ∧ (w.setCell ⟨g, p, none⟩ (.int .i64 d)).heap[b]? = some (.cells (.slice (some ⟨g, 0, none⟩) xs.length cap :: K.rest).toArray K.ty (0, 0)) ∧
      (w.setCell ⟨g, p, none⟩ (.int .i64 d)).ownsRow B 3 1 (.slice (some ⟨g, 0, none⟩) (xs.set p d).length cap) (xs.set p d).length (intsV (xs.set p d)) := by
  have hne := Lib.ownBlock_ne hown hb K.ne
  have hgb : b ≠ g := fun e => hne (by simp [Value.ownBlock, e])
  obtain ⟨ho, hg⟩ := hown.stored p (.int .i64 d)
  have hlt := own_lt hown (g := g) rfl
  have hbs : B ≤ w.heap.size := by omega
  have hb2 : (w.setCell ⟨g, p, none⟩ (.int .i64 d)).heap[b]? = some (.cells (.slice (some ⟨g, 0, none⟩) xs.length cap :: K.rest).toArray K.ty (0, 0)) := (Below.heap_setCell _ _ _ _ hgb).trans hb
  have hl : (xs.set p d).length = xs.length := List.length_set
  rw [intsV_set] at ho
  refine ⟨⟨⟨hB, _, hb2, by rw [hl]; exact ho, hne⟩, (Below.refl _ _).setCell (p := ⟨g, p, none⟩) hlt.1 _⟩, hb2, by rw [hl]; exact ho⟩

set_option maxHeartbeats 1000000 in
set_option maxRecDepth 100000 in
theorem addAt_any {K : NatK} (B b : Nat) (xs : List Int) (p : Nat) (v : Int) (w : World) (hl : xs.length ≤ 1048576) (hp : p ≤ 1048576) (hv0 : 0 ≤ v) (hv1 : v ≤ 1000000000000000000) (hd : DigN xs) (h : NatX K B b xs w) :
    Calls Tryz.prog 132 #[.pointer (some ⟨b, 0, none⟩), .int .i64 p, .int .i64 v] w fun e w' => e = .returned (.int .i64 (addAtC xs p v)) ∧ LeftX K B b (addAtL xs p v) w w' := by
  obtain ⟨i0, hi0, hz0, hz1, hz2⟩ := info_parts intInfo
  have HD := Lib.hid hd
  clear hd
  go_enter Tryz.func132, Tryz.ntmps132
  go_wp2
  go_loopg [] (p + 1 - xs.length) (fun n wr => ∃ k : Nat, Hid (xs.length + k ≤ p + 1 ∨ k = 0) ∧ Hid (n = p + 1 - (xs.length + k)) ∧ NatX K B b (xs ++ List.replicate k 0) wr ∧ Below B w wr)
  case atStart => exact ⟨0, Lib.hid (Or.inr rfl), Lib.hid (by omega), by simpa using h, Below.refl _ _⟩
  case round =>
    obtain ⟨k, HK, HN, hat, hb1⟩ := hrel
    have hlt := hat.lt
    obtain ⟨hB, u, hbk, hown, hne⟩ := hat
    have hlen : (xs ++ List.replicate k (0 : Int)).length = xs.length + k := by simp
    have hxk : xs.length + k ≤ 1048577 := by rcases HK.out with h | h <;> omega
    rw [hlen] at hown
    by_cases hc : xs.length + k ≤ p
    · obtain ⟨A, c, rfl⟩ := own_len hown
      have c1 : wr.cell? ⟨b, 0, none⟩ = some (.slice A (xs.length + k) c) := NatX.cell hbk
      have HB := Lib.hid hbk
      have HE := Lib.hid hne
      clear hbk hne hlen
      go_wp2_with (at_builtin; refine wpList_append_own _ rfl _ _ 22 rfl B 3 i0 (.int .i64 0) 1 8 Tryz.underlying22 hi0 hz0 hz1 hz2 rfl (by decide) _ _ _ rfl (own_alloc hown _) ⟨wr.heap.size, 0, none⟩ 1 1 [.int .i64 0] rfl rfl (one_new _ _ _) ?c2 ?c3 ?c4 ?c5 ?_)
      case c2 => first | (intro u hu; simp at hu; subst hu; rfl) | rfl
      case c3 => unfold maxLen; omega
      case c4 => omega
      case c5 => simp; omega
      intro v1 w1 hown1 hg1 _
      have hb2 : w1.heap[b]? = some (.cells (.slice A (xs.length + k) c :: K.rest).toArray K.ty (0, 0)) := by
        rw [hg1.block b (by simp; omega) (fun e => HE.out e.symm), Below.heap_alloc _ _ _ hlt]
        exact HB.out
      have d1 : w1.cell? ⟨b, 0, none⟩ = some (.slice A (xs.length + k) c) := NatX.cell hb2
      have f1 : w1.frozen? ⟨b, 0, none⟩ = false := Lib.frozen_of_heap hb2 0
      have hb3 : Below B w w1 := (hb1.alloc (by omega) _).grown hg1 (by simp; omega) (fun k hk => (own_lt hown hk).1)
      obtain ⟨A1, cc1, rfl⟩ := own_len hown1
      have hput := NatX.put (ys := xs ++ List.replicate (k + 1) 0) hB hb2 (by rw [← zeros_step, intsV_append]; simpa [intsV, Nat.add_assoc] using hown1)
      have HB2 := Lib.hid hb2
      clear hb2 c1
      go_wp2
      go_roundg (p + 1 - (xs.length + (k + 1)))
      case measure => have := HN.out; omega
      case rel => exact ⟨k + 1, Lib.hid (by omega), Lib.hid rfl, hput, hb3.setCell (p := ⟨b, 0, none⟩) hB _⟩
    · have HP := Lib.hid (zeros_pad xs k p HK.out (by omega))
      obtain ⟨g, cap, rfl, hg1, hg2, hg3⟩ := own_form hown (by omega)
      have c1 : wr.cell? ⟨b, 0, none⟩ = some (.slice (some ⟨g, 0, none⟩) (xs.length + k) cap) := NatX.cell hbk
      have hpl : p < (padL xs (p + 1)).length := by rw [padL_length]; omega
      have hcell := hown.cellAt p (by omega)
      rw [HP.out, intsV_at _ p hpl, padL_at] at hcell
      have hfr := hown.frozenAt p
      have hdg := getD_dig HD.out p
      have hs : xs.length + k = (padL xs (p + 1)).length := by rw [← HP.out, hlen]
      have HST := Lib.hid (NatX.stored (xs := padL xs (p + 1)) hB (by rw [← hs]; exact hbk) (by rw [← hs, ← HP.out]; exact hown) p ((v + xs.getD p 0) % 1000000000))
      have HC := Lib.hid (show addAtC xs p v = (v + xs.getD p 0) / 1000000000 from rfl)
      have HL := Lib.hid (show addAtL xs p v = (padL xs (p + 1)).set p ((v + xs.getD p 0) % 1000000000) from rfl)
      clear hown hbk hs hlen hne
      generalize xs.getD p 0 = dg at hcell hdg HST HC HL
      have hdg0 := hdg.1
      have hdg1 := hdg.2
      clear hdg
      go_wp2
      go_ret
      exact ⟨ret_int HC.out.symm, by rw [HL.out]; exact ⟨HST.out.1.1, hb1.trans HST.out.1.2⟩⟩

/-! ### a number of the call's own with the blocks on which it leans -/
/-- the nat at block b; T: its block and that of its limbs -/
def NatOnX (K : NatK) (T : List Nat) (b : Nat) (xs : List Int) (w : World) : Prop :=
  ∃ v, w.heap[b]? = some (.cells (v :: K.rest).toArray K.ty (0, 0)) ∧ w.ownsRow 0 3 1 v xs.length (intsV xs) ∧ v.ownBlock ≠ some b ∧ T = b :: v.ownBlock.toList
/-- what a method leaves that keeps the blocks -/
def KeptX (K : NatK) (T : List Nat) (b : Nat) (xs : List Int) (w w' : World) : Prop := NatOnX K T b xs w' ∧ Chg T w w'
abbrev NatOn (T : List Nat) (b : Nat) (xs : List Int) (w : World) : Prop := NatOnX natK T b xs w
abbrev Kept (T : List Nat) (b : Nat) (xs : List Int) (w w' : World) : Prop := KeptX natK T b xs w w'
theorem NatOnX.lt {K : NatK} {T : List Nat} {b : Nat} {xs : List Int} {w : World} (h : NatOnX K T b xs w) : b < w.heap.size := by
  obtain ⟨v, hb, _⟩ := h
  exact (Array.getElem?_eq_some_iff.1 hb).1
theorem NatOnX.mem {K : NatK} {T : List Nat} {b : Nat} {xs : List Int} {w : World} (h : NatOnX K T b xs w) : b ∈ T := by
  obtain ⟨v, _, _, _, rfl⟩ := h
  simp
theorem NatOnX.at_ {K : NatK} {T : List Nat} {b : Nat} {xs : List Int} {w : World} (h : NatOnX K T b xs w) : At T (NatOnX K T b xs) w := by
  have hh := h
  obtain ⟨v, hb, ho, hne, rfl⟩ := h
  refine ⟨hh, fun g hg => ?_, fun w' hk => ⟨v, (hk b (by simp)).trans hb, own_stays ho fun g hg => hk g (by simp [hg]), hne, rfl⟩⟩
  rcases List.mem_cons.1 hg with rfl | hg
  · exact (Array.getElem?_eq_some_iff.1 hb).1
  · exact (own_lt ho (by simpa using hg)).2
theorem NatX.on {K : NatK} {B b : Nat} {xs : List Int} {w : World} (h : NatX K B b xs w) : ∃ T, NatOnX K T b xs w ∧ ∀ g ∈ T, B ≤ g := by
  obtain ⟨hB, v, hb, ho, hne⟩ := h
  refine ⟨_, ⟨v, hb, own_zero ho, hne, rfl⟩, fun g hg => ?_⟩
  rcases List.mem_cons.1 hg with rfl | hg
  · exact hB
  · exact (own_lt ho (by simpa using hg)).1
theorem own_raise {w : World} {base n : Nat} {e : TypeId} {v : Value} {xs : List Value} (h : w.ownsRow 0 e 1 v n xs) (hb : ∀ g, v.ownBlock = some g → base ≤ g) : w.ownsRow base e 1 v n xs := by
  obtain ⟨hl, h | ⟨g, cap, cur, rfl, _, r⟩⟩ := h
  · exact ⟨hl, .inl h⟩
  · exact ⟨hl, .inr ⟨g, cap, cur, rfl, hb g rfl, r⟩⟩
theorem NatOnX.natAt {K : NatK} {T : List Nat} {B b : Nat} {xs : List Int} {w : World} (h : NatOnX K T b xs w) (hT : ∀ g ∈ T, B ≤ g) : NatX K B b xs w := by
  obtain ⟨v, hb, ho, hne, rfl⟩ := h
  exact ⟨hT b (by simp), v, hb, own_raise ho fun g hg => hT g (by simp [hg]), hne⟩
theorem KeptX.left {K : NatK} {T : List Nat} {B b : Nat} {xs : List Int} {w w' : World} (h : KeptX K T b xs w w') (hB : B ≤ w.heap.size) (hT : ∀ g ∈ T, B ≤ g) : LeftX K B b xs w w' :=
  ⟨h.1.natAt hT, below_chg (Below.refl _ _) h.2 hB hT⟩
theorem KeptX.trans {K : NatK} {T : List Nat} {b : Nat} {xs ys : List Int} {w w1 w2 : World} (h : KeptX K T b xs w w1) (k : KeptX K T b ys w1 w2) : KeptX K T b ys w w2 := ⟨k.1, h.2.trans k.2⟩
theorem NatX.size {K : NatK} {B b : Nat} {xs : List Int} {w : World} (h : NatX K B b xs w) : B ≤ w.heap.size := by
  have := h.lt
  have := h.1
  omega
theorem NatOnX.put {K : NatK} {T : List Nat} {b : Nat} {v v' : Value} {ys : List Int} {w : World} (hb : w.heap[b]? = some (.cells (v :: K.rest).toArray K.ty (0, 0))) (hown : w.ownsRow 0 3 1 v' ys.length (intsV ys)) (hT : T = b :: v'.ownBlock.toList) :
    NatOnX K T b ys (w.setCell ⟨b, 0, none⟩ v') := by
  obtain ⟨_, u, h1, h2, h3⟩ := NatX.put (Nat.zero_le b) hb hown
  have e : u = v' := by
    have : (w.setCell ⟨b, 0, none⟩ v').heap[b]? = some (.cells (v' :: K.rest).toArray K.ty (0, 0)) := by simp [World.setCell, Array.getElem?_modify, hb]
    rw [this] at h1
    simpa using h1.symm
  subst e
  exact ⟨_, h1, h2, h3, hT⟩
/-- a store into the limbs -/
theorem NatOnX.stored {K : NatK} {b g cap : Nat} {xs : List Int} {w : World} (hb : w.heap[b]? = some (.cells (.slice (some ⟨g, 0, none⟩) xs.length cap :: K.rest).toArray K.ty (0, 0)))
    (hown : w.ownsRow 0 3 1 (.slice (some ⟨g, 0, none⟩) xs.length cap) xs.length (intsV xs)) (hne : (Value.slice (some ⟨g, 0, none⟩) xs.length cap).ownBlock ≠ some b) (p : Nat) (d : Int) :
    KeptX K [b, g] b (xs.set p d) w (w.setCell ⟨g, p, none⟩ (.int .i64 d)) ∧ (w.setCell ⟨g, p, none⟩ (.int .i64 d)).heap[b]? = some (.cells (.slice (some ⟨g, 0, none⟩) xs.length cap :: K.rest).toArray K.ty (0, 0)) ∧
      (w.setCell ⟨g, p, none⟩ (.int .i64 d)).ownsRow 0 3 1 (.slice (some ⟨g, 0, none⟩) (xs.set p d).length cap) (xs.set p d).length (intsV (xs.set p d)) := by
  have hgb : b ≠ g := fun e => hne (by simp [Value.ownBlock, e])
  obtain ⟨ho, hg⟩ := hown.stored p (.int .i64 d)
  have hb2 : (w.setCell ⟨g, p, none⟩ (.int .i64 d)).heap[b]? = some (.cells (.slice (some ⟨g, 0, none⟩) xs.length cap :: K.rest).toArray K.ty (0, 0)) := (Below.heap_setCell _ _ _ _ hgb).trans hb
  have hl : (xs.set p d).length = xs.length := List.length_set
  rw [intsV_set] at ho
  exact ⟨⟨⟨_, hb2, by rw [hl]; exact ho, hne, rfl⟩, (Chg.refl _ _).setCell (p := ⟨g, p, none⟩) (by simp) _⟩, hb2, by rw [hl]; exact ho⟩

set_option maxHeartbeats 1000000 in
set_option maxRecDepth 100000 in
theorem takeAt_on {K : NatK} (T : List Nat) (b : Nat) (xs : List Int) (p : Nat) (v : Int) (w : World) (hl : xs.length ≤ 1048576) (hp : p < xs.length) (hv0 : 0 ≤ v) (hv1 : v ≤ 1000000000000000000) (hd : DigN xs) (h : NatOnX K T b xs w) :
    Calls Tryz.prog 133 #[.pointer (some ⟨b, 0, none⟩), .int .i64 p, .int .i64 v] w fun e w' => e = .returned (.int .i64 (takeAtC xs p v)) ∧ KeptX K T b (takeAtL xs p v) w w' := by
  have hdg := hd.at_ p hp
  have hg : xs.getD p 0 = xs[p] := by rw [List.getD_eq_getElem?_getD, List.getElem?_eq_getElem hp]; rfl
  have HL := Lib.hid (show takeAtL xs p v = xs.set p ((xs[p] - v) % 1000000000) by rw [← hg]; rfl)
  have HC := Lib.hid (show takeAtC xs p v = -((xs[p] - v) / 1000000000) by rw [← hg]; rfl)
  clear hg hd
  obtain ⟨u, hbk, hown, hne, hT⟩ := h
  obtain ⟨g, cap, rfl, hg1, hg2, hg3⟩ := own_form hown (by omega)
  have hT2 : T = [b, g] := hT
  subst hT2
  have c1 : w.cell? ⟨b, 0, none⟩ = some (.slice (some ⟨g, 0, none⟩) xs.length cap) := NatX.cell hbk
  have hcell := hown.cellAt p (by omega)
  rw [intsV_at _ p hp] at hcell
  have hfr := hown.frozenAt p
  have hgb : ¬ b = g := fun e => hne (by simp [Value.ownBlock, e])
  obtain ⟨hs1, hk1, ho1⟩ := NatOnX.stored hbk hown hne p (xs[p] - v % 1000000000)
  have HS1 := Lib.hid hs1
  have hl1 : (xs.set p (xs[p] - v % 1000000000)).length = xs.length := List.length_set
  have HS2 := Lib.hid (NatOnX.stored (xs := xs.set p (xs[p] - v % 1000000000)) (by rw [hl1]; exact hk1) ho1 (by rw [hl1]; exact hne) p (xs[p] - v % 1000000000 + 1000000000))
  rw [List.set_set] at HS2
  clear hown hbk hne hs1 hk1 ho1 hl1 hT
  generalize xs[p] = dg at hcell hdg HS1 HS2 HC HL
  have hdg0 := hdg.1
  have hdg1 := hdg.2
  clear hdg
  by_cases hc : v % 1000000000 ≤ dg
  · have HC2 := Lib.hid (show takeAtC xs p v = v / 1000000000 by rw [HC.out]; omega)
    have HL2 := Lib.hid (show takeAtL xs p v = xs.set p (dg - v % 1000000000) by rw [HL.out]; congr 1; omega)
    clear HC HL
    go_enter Tryz.func133, Tryz.ntmps133
    go_wp2
    go_ret
    exact ⟨ret_int HC2.out.symm, by rw [HL2.out]; exact HS1.out⟩
  · have HC2 := Lib.hid (show takeAtC xs p v = v / 1000000000 + 1 by rw [HC.out]; omega)
    have HL2 := Lib.hid (show takeAtL xs p v = xs.set p (dg - v % 1000000000 + 1000000000) by rw [HL.out]; congr 1; omega)
    clear HC HL
    go_enter Tryz.func133, Tryz.ntmps133
    go_wp2
    go_ret
    exact ⟨ret_int HC2.out.symm, by rw [HL2.out]; exact HS1.out.trans HS2.out.1⟩

set_option maxHeartbeats 1000000 in
set_option maxRecDepth 100000 in
theorem natTrim_on {K : NatK} (T : List Nat) (b : Nat) (xs : List Int) (w : World) (hl : xs.length ≤ 1048576) (h : NatOnX K T b xs w) :
    Calls Tryz.prog 134 #[.pointer (some ⟨b, 0, none⟩)] w fun e w' => e = .returned (.tuple #[]) ∧ KeptX K T b (trimL xs) w w' := by
  have hTm := h.mem
  have HT0 := Lib.hid hTm
  clear hTm
  obtain ⟨v, hbk, hown, hne, hT⟩ := h
  obtain ⟨A, c, e1, hA⟩ := Row.of_own hown
  rw [intsV_length] at e1
  subst e1
  have c1 : w.cell? ⟨b, 0, none⟩ = some (.slice A xs.length c) := NatX.cell hbk
  have f1 : w.frozen? ⟨b, 0, none⟩ = false := Lib.frozen_of_heap hbk 0
  have hcap : xs.length ≤ c := by
    rcases hown.2 with ⟨h1, h2⟩ | ⟨g, cap, cur, e1, _, _, hn, _⟩
    · omega
    · injection e1 with _ _ e3; omega
  have HA := Lib.hid hA
  have HB := Lib.hid hbk
  have HO := Lib.hid hown
  have HTT : Hid (∀ k, T = b :: (Value.slice A k c).ownBlock.toList) := Lib.hid (by intro k; rw [hT]; cases A <;> rfl)
  clear hA hbk hown hne hT
  go_enter Tryz.func134, Tryz.ntmps134
  go_wp2
  go_loop [2] (fun n => ∃ k : Nat, k ≤ xs.length ∧ n = .int .i64 ((k : Int) - 1) ∧ Hid (∀ j (h : j < xs.length), k ≤ j → xs[j] = 0)) (fun n => (intOf n + 1).toNat)
  case atStart => exact ⟨xs.length, Nat.le_refl _, rfl, Lib.hid (fun j h hj => absurd h (by omega))⟩
  case round =>
    obtain ⟨k, hk, rfl, HZ⟩ := hrel
    by_cases h0 : 0 < k
    · obtain ⟨m, rfl⟩ : ∃ m, k = m + 1 := ⟨k - 1, by omega⟩
      have hlt : m < xs.length := by omega
      obtain ⟨a, rfl, _, _, hca⟩ := HA.out m _ (intsV_at xs m hlt)
      have hm1 : ((m + 1 : Nat) : Int) - 1 = (m : Int) := by omega
      rw [hm1]
      clear hm1 h0
      by_cases hz : xs[m] = 0
      · have hzb : (xs[m] == 0) = true := by rw [beq_iff_eq]; exact hz
        have HN : Hid (∀ j (h : j < xs.length), m ≤ j → xs[j] = 0) := Lib.hid (fun j h hj => by
          by_cases e : j = m
          · subst e; exact hz
          · exact HZ.out j h (by omega))
        clear hz
        go_wp2
        go_round
        case rel => exact ⟨m, by omega, rfl, HN⟩
        case measure => simp [intOf]
      · have hzb : (xs[m] == 0) = false := by rw [beq_eq_false_iff_ne]; exact hz
        have HT := Lib.hid (trim_prefix xs (m + 1) hk HZ.out (fun _ _ => hz))
        have HP := Lib.hid (NatOnX.put (ys := xs.take (m + 1)) (v' := .slice (some a) (m + 1) c) HB.out (by
          rw [← intsV_take, List.length_take, show min (m + 1) xs.length = m + 1 from by omega]
          exact own_take (m + 1) hk HO.out) (HTT.out _))
        clear hz
        go_wp2
        go_end0
        exact ⟨rfl, by rw [HT.out]; exact ⟨HP.out, (Chg.refl _ _).setCell (p := ⟨b, 0, none⟩) HT0.out _⟩⟩
    · obtain rfl : k = 0 := by omega
      have HT := Lib.hid (trim_prefix xs 0 hk HZ.out (fun _ h => absurd h (by omega)))
      have HP := Lib.hid (NatOnX.put (ys := xs.take 0) (v' := .slice A 0 c) HB.out (by
          rw [← intsV_take, List.length_take, Nat.zero_min]
          exact own_take 0 hk HO.out) (HTT.out _))
      go_wp2
      go_end0
      exact ⟨rfl, by rw [HT.out]; exact ⟨HP.out, (Chg.refl _ _).setCell (p := ⟨b, 0, none⟩) HT0.out _⟩⟩
theorem natTrim_any {K : NatK} (B b : Nat) (xs : List Int) (w : World) (hl : xs.length ≤ 1048576) (h : NatX K B b xs w) :
    Calls Tryz.prog 134 #[.pointer (some ⟨b, 0, none⟩)] w fun e w' => e = .returned (.tuple #[]) ∧ LeftX K B b (trimL xs) w w' := by
  obtain ⟨T, hT, hB⟩ := h.on
  refine (natTrim_on T b xs w hl hT).mono ?_
  rintro e w' ⟨rfl, hk⟩
  exact ⟨rfl, hk.left h.size hB⟩
end Go.Proofs.YtofehcpapdlcnabGreatDoor

namespace Go.Proofs.YtofehcpapdlcnabGreatDoor
open Go.RowKit

/-- how many limbs addTimes reaches -/
def lenM (x y sh : Nat) : Nat := if y = 0 then x else max x (sh + y)
theorem lenM_succ (x k sh : Nat) : max (lenM x k sh) (sh + k + 1) = lenM x (k + 1) sh := by
  unfold lenM
  rw [if_neg (show ¬ k + 1 = 0 by omega)]
  by_cases h : k = 0
  · rw [if_pos h]; omega
  · rw [if_neg h]; omega
theorem lenM_le (x y sh : Nat) (hx : x ≤ 300000) (hy : y ≤ 300000) (hs : sh ≤ 300000) : lenM x y sh ≤ 600000 := by unfold lenM; split <;> omega
theorem take_val_succ (ys : List Int) (k : Nat) (h : k < ys.length) : nval (ys.take (k + 1)) = nval (ys.take k) + bp k * ys[k] := by
  rw [List.take_succ_eq_append_getElem h, nval_append, List.length_take, show min k ys.length = k by omega]
  show _ + bp k * (ys[k] + 1000000000 * 0) = _
  rw [Int.mul_zero, Int.add_zero]
/-- one step of the first loop -/
def TimesR (xs ys : List Int) (f : Int) (sh k : Nat) (cur : List Int) (cr : Int) : Prop :=
  DigN cur ∧ cur.length = lenM xs.length k sh ∧ nval cur + cr * bp (sh + k) = nval xs + f * bp sh * nval (ys.take k) ∧ (k = 0 → cr = 0)
theorem TimesR.start (xs ys : List Int) (f : Int) (sh : Nat) (hd : DigN xs) : TimesR xs ys f sh 0 xs 0 := by
  refine ⟨hd, rfl, ?_, fun _ => rfl⟩
  rw [List.take_zero]
  show nval xs + 0 * _ = nval xs + f * bp sh * 0
  rw [Int.zero_mul, Int.mul_zero]
theorem TimesR.next {xs ys : List Int} {f : Int} {sh k : Nat} {cur : List Int} {cr : Int} (h : TimesR xs ys f sh k cur cr) (hk : k < ys.length) :
    TimesR xs ys f sh (k + 1) (addAtL cur (sh + k) (ys[k] * f + cr)) (addAtC cur (sh + k) (ys[k] * f + cr)) := by
  obtain ⟨h1, h2, h3, _⟩ := h
  refine ⟨addAt_dig h1 _ _, ?_, ?_, fun h => absurd h (by omega)⟩
  · rw [addAt_length, h2, lenM_succ]
  · have e := addAt_val cur (sh + k) (ys[k] * f + cr)
    have e2 : ys[k] * f * bp (sh + k) = f * bp sh * (bp k * ys[k]) := by
      rw [bp_add]
      simp only [Int.mul_assoc, Int.mul_comm, Int.mul_left_comm]
    rw [show sh + (k + 1) = sh + k + 1 by omega, e, take_val_succ ys k hk, Int.add_mul, Int.mul_add, e2]
    omega
theorem carry_bound {cur : List Int} {p : Nat} {v : Int} (h : DigN cur) (h0 : 0 ≤ v) (h1 : v ≤ 999999999000000000) : 0 ≤ addAtC cur p v ∧ addAtC cur p v ≤ 999999999 := by
  have hd := getD_dig h p
  unfold addAtC
  omega
/-- one step of the second loop -/
def CarryR (M : Nat) (N : Int) (pl : Nat) (cur : List Int) (cr : Int) : Prop :=
  DigN cur ∧ nval cur + cr * bp pl = N ∧ ((cur.length = M ∧ (cr = 0 ∨ pl ≤ M)) ∨ (cr = 0 ∧ cur.length = M + 1 ∧ bp M ≤ N))
theorem CarryR.len {M pl : Nat} {N cr : Int} {cur : List Int} (h : CarryR M N pl cur cr) : cur.length ≤ M + 1 := by
  obtain ⟨_, _, ⟨h, _⟩ | ⟨_, h, _⟩⟩ := h <;> omega
theorem CarryR.place {M pl : Nat} {N cr : Int} {cur : List Int} (h : CarryR M N pl cur cr) (hc : 0 < cr) : pl ≤ M ∧ cur.length = M := by
  obtain ⟨_, _, ⟨h, h2 | h2⟩ | ⟨h, _⟩⟩ := h
  · omega
  · exact ⟨h2, h⟩
  · omega
theorem CarryR.next {M pl : Nat} {N cr : Int} {cur : List Int} (h : CarryR M N pl cur cr) (hc : 0 < cr) (h1 : cr ≤ 999999999) : CarryR M N (pl + 1) (addAtL cur pl cr) (addAtC cur pl cr) := by
  obtain ⟨hp, hl⟩ := h.place hc
  obtain ⟨hd, hv, _⟩ := h
  have e := addAt_val cur pl cr
  refine ⟨addAt_dig hd _ _, by rw [e]; exact hv, ?_⟩
  by_cases he : pl = M
  · subst he
    obtain ⟨e1, e2⟩ := addAt_new cur pl cr hl.symm hc h1
    rw [e1]
    refine .inr ⟨rfl, by rw [addAt_length]; omega, ?_⟩
    rw [e1, e2, Int.zero_mul, Int.add_zero] at e
    rw [← hv, ← e, nval_append, hl]
    have h2 := nval_nonneg cur hd
    have h3 := bp_pos pl
    have h4 : nval [cr] = cr := by show cr + 1000000000 * 0 = cr; omega
    rw [h4]
    have h5 := Int.mul_le_mul_of_nonneg_left (show 1 ≤ cr by omega) (show 0 ≤ bp pl by omega)
    omega
  · exact .inl ⟨by rw [addAt_length]; omega, .inr (by omega)⟩

/-- what addTimes leaves -/
def TimesPost (K : NatK) (B b : Nat) (xs ys : List Int) (f : Int) (sh : Nat) (w w' : World) : Prop :=
  ∃ zs, LeftX K B b zs w w' ∧ DigN zs ∧ nval zs = nval xs + f * bp sh * nval ys ∧ (zs.length = lenM xs.length ys.length sh ∨ (zs.length = lenM xs.length ys.length sh + 1 ∧ bp (lenM xs.length ys.length sh) ≤ nval zs))

theorem addAt_at {K : NatK} (B b : Nat) (xs : List Int) (p : Nat) (pz v : Int) (w : World) (hl : xs.length ≤ 1048576) (hp : p ≤ 1048576) (hv0 : 0 ≤ v) (hv1 : v ≤ 1000000000000000000) (hd : DigN xs) (h : NatX K B b xs w) (hz : pz = p) :
    Calls Tryz.prog 132 #[.pointer (some ⟨b, 0, none⟩), .int .i64 pz, .int .i64 v] w fun e w' => e = .returned (.int .i64 (addAtC xs p v)) ∧ LeftX K B b (addAtL xs p v) w w' := by
  subst hz
  exact addAt_any B b xs p v w hl hp hv0 hv1 hd h

set_option maxHeartbeats 1000000 in
set_option maxRecDepth 100000 in
theorem addTimes_any {K : NatK} (B b : Nat) (xs : List Int) (vy : Value) (ys : List Int) (lo hi : Nat) (f : Int) (sh : Nat) (w : World) (hxl : xs.length ≤ 300000) (hyl : ys.length ≤ 300000) (hsh : sh ≤ 300000) (hf0 : 0 ≤ f) (hf1 : f ≤ 999999999)
    (hdx : DigN xs) (hdy : DigN ys) (hhi : hi ≤ B) (hr : Row w lo hi vy (intsV ys)) (h : NatX K B b xs w) :
    Calls Tryz.prog 101 #[.pointer (some ⟨b, 0, none⟩), vy, .int .i64 f, .int .i64 sh] w fun e w' => e = .returned (.tuple #[]) ∧ TimesPost K B b xs ys f sh w w' := by
  obtain ⟨A, c, rfl, hA⟩ := hr
  rw [intsV_length]
  have HA := Lib.hid hA
  have HDX := Lib.hid hdx
  have HDY := Lib.hid hdy
  clear hA hdx hdy
  go_enter Tryz.func101, Tryz.ntmps101
  go_wp2
  go_loopw [8, 14] (fun a i wr => ∃ (k : Nat) (cur : List Int) (cr : Int), k ≤ ys.length ∧ i = .int .i64 k ∧ a = .int .i64 cr ∧ 0 ≤ cr ∧ cr ≤ 999999999 ∧ Hid (TimesR xs ys f sh k cur cr) ∧ NatX K B b cur wr ∧ Below B w wr) (fun _ i _ => ys.length - (intOf i).toNat)
  case atStart => exact ⟨0, xs, 0, Nat.zero_le _, rfl, rfl, by omega, by omega, Lib.hid (TimesR.start xs ys f sh HDX.out), h, Below.refl _ _⟩
  case round =>
    obtain ⟨k, cur, cr, hk, rfl, rfl, hc0, hc1, HR, hat, hb1⟩ := hrel
    have hcl : cur.length ≤ 600000 := by rw [HR.out.2.1]; exact lenM_le _ _ _ hxl (by omega) hsh
    by_cases hlt : k < ys.length
    · obtain ⟨p, rfl, _, hpb, hca⟩ := HA.out k _ (intsV_at ys k hlt)
      have hca' : wr.cell? (p.add k) = some (.int .i64 ys[k]) := (hb1.cell (by rw [block_add]; omega)).trans hca
      have hdy := HDY.out.at_ k hlt
      have hd0 := hdy.1
      have hd1 := hdy.2
      have hm0 : 0 ≤ ys[k] * f := Int.mul_nonneg hd0 hf0
      have hm1 : ys[k] * f ≤ 999999998000000001 := by
        have := Int.mul_le_mul hd1 hf1 hf0 (by omega)
        omega
      have HN := Lib.hid (HR.out.next hlt)
      have HCB := Lib.hid (carry_bound (p := sh + k) (v := ys[k] * f + cr) HR.out.1 (by omega) (by omega))
      clear hca hdy
      go_wp2_with fail
      refine (addAt_at B b cur (sh + k) _ _ _ (by omega) (by omega) (by omega) (by omega) HR.out.1 hat (by omega)).mono ?_
      rintro e w1 ⟨rfl, hat1, hb2⟩
      clear hm0 hm1 hd0 hd1
      go_wp2
      go_roundw
      case rel => exact ⟨k + 1, _, _, by omega, by go_num, rfl, HCB.out.1, HCB.out.2, HN, hat1, hb1.trans hb2⟩
      case measure => simp [intOf]; omega
    · obtain rfl : k = ys.length := by omega
      have HC : Hid (CarryR (lenM xs.length ys.length sh) (nval xs + f * bp sh * nval ys) (sh + ys.length) cur cr) := Lib.hid (by
        obtain ⟨h1, h2, h3, h4⟩ := HR.out
        rw [List.take_of_length_le (Nat.le_refl _)] at h3
        refine ⟨h1, h3, .inl ⟨h2, ?_⟩⟩
        by_cases hy : ys.length = 0
        · exact .inl (h4 hy)
        · right
          unfold lenM
          rw [if_neg hy]
          omega)
      have hM := lenM_le xs.length ys.length sh hxl hyl hsh
      clear HR
      go_wp2
      go_loopw [8, 11] (fun a i wr => ∃ (pl : Nat) (cur : List Int) (cr : Int), pl ≤ 600001 ∧ i = .int .i64 pl ∧ a = .int .i64 cr ∧ 0 ≤ cr ∧ cr ≤ 999999999 ∧ Hid (CarryR (lenM xs.length ys.length sh) (nval xs + f * bp sh * nval ys) pl cur cr) ∧ NatX K B b cur wr ∧ Below B w wr) (fun _ i _ => lenM xs.length ys.length sh + 1 - (intOf i).toNat)
      case atStart => exact ⟨sh + ys.length, cur, cr, by omega, by go_num, rfl, hc0, hc1, HC, hat, hb1⟩
      case round =>
        clear hat hb1 HC hc0 hc1 hcl
        obtain ⟨pl, cur, cr, hpl, rfl, rfl, hc0, hc1, HC, hat, hb1⟩ := hrel
        have hcl := HC.out.len
        by_cases hpos : 0 < cr
        · have hplm := (HC.out.place hpos).1
          have HN := Lib.hid (HC.out.next hpos hc1)
          have HCB := Lib.hid (carry_bound (p := pl) (v := cr) HC.out.1 hc0 (by omega))
          go_wp2_with fail
          refine (addAt_any B b cur pl cr _ (by omega) (by omega) (by omega) (by omega) HC.out.1 hat).mono ?_
          rintro e w1 ⟨rfl, hat1, hb2⟩
          go_wp2
          go_roundw
          case rel => exact ⟨pl + 1, _, _, by omega, by go_num, rfl, HCB.out.1, HCB.out.2, HN, hat1, hb1.trans hb2⟩
          case measure => simp [intOf]; omega
        · obtain rfl : cr = 0 := by omega
          go_wp2
          go_end0
          refine ⟨rfl, cur, ⟨hat, hb1⟩, HC.out.1, ?_, ?_⟩
          · have := HC.out.2.1
            rw [Int.zero_mul, Int.add_zero] at this
            exact this
          · obtain ⟨_, h2, h3⟩ := HC.out
            rw [Int.zero_mul, Int.add_zero] at h2
            rcases h3 with h3 | h3
            · exact .inl h3.1
            · exact .inr ⟨h3.2.1, by rw [h2]; exact h3.2.2⟩

/-- a row with the blocks on which it leans -/
theorem Row.on {w : World} {lo hi : Nat} {v : Value} {xs : List Value} (h : Row w lo hi v xs) : ∃ S, At S (fun w => Row w lo hi v xs) w ∧ Within S lo hi := by
  have hh := h
  obtain ⟨A, c, rfl, h⟩ := h
  cases xs with
  | nil => exact ⟨[], ⟨hh, fun g hg => absurd hg (by simp), fun w' _ => Row.nil_ A c⟩, fun g hg => absurd hg (by simp)⟩
  | cons x r =>
    obtain ⟨a, rfl, h1, h2, h3⟩ := h 0 x rfl
    have hlt := cell_lt h3
    rw [block_add] at hlt
    refine ⟨[a.block], ⟨hh, fun g hg => by simp at hg; omega, fun w' hk => ⟨_, c, rfl, fun j u hj => ?_⟩⟩, fun g hg => by simp at hg; omega⟩
    obtain ⟨a', e, k1, k2, k3⟩ := h j u hj
    cases e
    refine ⟨a, rfl, k1, k2, ?_⟩
    rw [← k3]
    have hb := hk a.block (by simp)
    unfold World.cell?
    rw [block_add, hb]

/-- one step of takeTimes -/
def TakeR (xs ys : List Int) (f : Int) (sh k pl : Nat) (cur : List Int) (br : Int) : Prop :=
  DigN cur ∧ cur.length = xs.length ∧ nval cur - br * bp pl = nval xs - f * bp sh * nval (ys.take k)
theorem TakeR.start (xs ys : List Int) (f : Int) (sh : Nat) (hd : DigN xs) : TakeR xs ys f sh 0 (sh + 0) xs 0 := by
  refine ⟨hd, rfl, ?_⟩
  rw [List.take_zero, Int.zero_mul]
  show _ = nval xs - f * bp sh * 0
  rw [Int.mul_zero]
theorem TakeR.next {xs ys : List Int} {f : Int} {sh k : Nat} {cur : List Int} {br : Int} (h : TakeR xs ys f sh k (sh + k) cur br) (hk : k < ys.length) (hl : sh + ys.length ≤ xs.length) :
    TakeR xs ys f sh (k + 1) (sh + (k + 1)) (takeAtL cur (sh + k) (ys[k] * f + br)) (takeAtC cur (sh + k) (ys[k] * f + br)) := by
  obtain ⟨a1, a2, a3⟩ := h
  refine ⟨takeAt_dig a1 _ _, by rw [takeAt_length, a2], ?_⟩
  have e2 : ys[k] * f * bp (sh + k) = f * bp sh * (bp k * ys[k]) := by
    rw [bp_add]
    simp only [Int.mul_assoc, Int.mul_comm, Int.mul_left_comm]
  rw [show sh + (k + 1) = sh + k + 1 by omega, takeAt_val cur (sh + k) _ (by omega), take_val_succ ys k hk, Int.add_mul, Int.mul_add, e2]
  omega
theorem TakeR.next2 {xs ys : List Int} {f : Int} {sh k pl : Nat} {cur : List Int} {br : Int} (h : TakeR xs ys f sh k pl cur br) (hl : pl < xs.length) :
    TakeR xs ys f sh k (pl + 1) (takeAtL cur pl br) (takeAtC cur pl br) := by
  obtain ⟨a1, a2, a3⟩ := h
  refine ⟨takeAt_dig a1 _ _, by rw [takeAt_length, a2], ?_⟩
  rw [takeAt_val cur pl _ (by omega)]
  exact a3
/-- the last borrow finds a limb -/
theorem TakeR.room {xs ys : List Int} {f : Int} {sh pl : Nat} {cur : List Int} {br : Int} (h : TakeR xs ys f sh ys.length pl cur br) (hle : f * bp sh * nval ys ≤ nval xs) (hb : 0 < br) : pl < xs.length := by
  obtain ⟨a1, a2, a3⟩ := h
  rw [List.take_of_length_le (Nat.le_refl _)] at a3
  rcases Nat.lt_or_ge pl xs.length with h | h
  · exact h
  · have h1 := nval_lt cur a1
    have h2 := bp_mono (show cur.length ≤ pl by omega)
    have h3 := bp_pos pl
    have h4 := Int.mul_le_mul_of_nonneg_right (show 1 ≤ br by omega) (show 0 ≤ bp pl by omega)
    omega
theorem TakeR.done {xs ys : List Int} {f : Int} {sh pl : Nat} {cur : List Int} (h : TakeR xs ys f sh ys.length pl cur 0) : trimL cur = limbs (nval xs - f * bp sh * nval ys).toNat := by
  obtain ⟨a1, a2, a3⟩ := h
  rw [List.take_of_length_le (Nat.le_refl _), Int.zero_mul] at a3
  rw [trim_limbs cur a1]
  congr 2
  omega

theorem takeAt_onz {K : NatK} (T : List Nat) (b : Nat) (xs : List Int) (p : Nat) (pz v : Int) (w : World) (hl : xs.length ≤ 1048576) (hp : p < xs.length) (hv0 : 0 ≤ v) (hv1 : v ≤ 1000000000000000000) (hd : DigN xs) (h : NatOnX K T b xs w) (hz : pz = p) :
    Calls Tryz.prog 133 #[.pointer (some ⟨b, 0, none⟩), .int .i64 pz, .int .i64 v] w fun e w' => e = .returned (.int .i64 (takeAtC xs p v)) ∧ KeptX K T b (takeAtL xs p v) w w' := by
  subst hz
  exact takeAt_on T b xs p v w hl hp hv0 hv1 hd h

set_option maxHeartbeats 1000000 in
set_option maxRecDepth 100000 in
theorem takeTimes_on {K : NatK} (T S : List Nat) (b : Nat) (xs : List Int) (vy : Value) (ys : List Int) (lo hi : Nat) (f : Int) (sh : Nat) (w : World) (hxl : xs.length ≤ 1048576) (hyl : sh + ys.length ≤ xs.length) (hf0 : 0 ≤ f) (hf1 : f ≤ 999999999)
    (hdx : DigN xs) (hdy : DigN ys) (hle : f * bp sh * nval ys ≤ nval xs) (hST : ∀ g ∈ S, g ∉ T) (hr : At S (fun w => Row w lo hi vy (intsV ys)) w) (h : NatOnX K T b xs w) :
    Calls Tryz.prog 102 #[.pointer (some ⟨b, 0, none⟩), vy, .int .i64 f, .int .i64 sh] w fun e w' => e = .returned (.tuple #[]) ∧ KeptX K T b (limbs (nval xs - f * bp sh * nval ys).toNat) w w' := by
  have HST := Lib.hid hST
  have HR0 := Lib.hid hr
  obtain ⟨A, c, rfl, _⟩ := hr.here
  rw [intsV_length]
  rw [intsV_length] at HR0
  have HDX := Lib.hid hdx
  have HDY := Lib.hid hdy
  have HLE := Lib.hid hle
  clear hdx hdy hr hST hle
  go_enter Tryz.func102, Tryz.ntmps102
  go_wp2
  go_loopw [8, 14] (fun a i wr => ∃ (k : Nat) (cur : List Int) (br : Int), k ≤ ys.length ∧ i = .int .i64 k ∧ a = .int .i64 br ∧ 0 ≤ br ∧ br ≤ 999999999 ∧ Hid (TakeR xs ys f sh k (sh + k) cur br) ∧ KeptX K T b cur w wr) (fun _ i _ => ys.length - (intOf i).toNat)
  case atStart => exact ⟨0, xs, 0, Nat.zero_le _, rfl, rfl, by omega, by omega, Lib.hid (TakeR.start xs ys f sh HDX.out), h, Chg.refl _ _⟩
  case round =>
    obtain ⟨k, cur, br, hk, rfl, rfl, hc0, hc1, HR, hat⟩ := hrel
    have hcl : cur.length ≤ 1048576 := by rw [HR.out.2.1]; exact hxl
    by_cases hlt : k < ys.length
    · obtain ⟨A', c', e, hA⟩ := (HR0.out.chg hat.2 HST.out).here
      injection e with e1 e2 e3
      subst e1 e3
      clear e2
      obtain ⟨p, rfl, _, hpb, hca⟩ := hA k _ (intsV_at ys k hlt)
      clear hA
      have hdy := HDY.out.at_ k hlt
      have hd0 := hdy.1
      have hd1 := hdy.2
      have hm0 : 0 ≤ ys[k] * f := Int.mul_nonneg hd0 hf0
      have hm1 : ys[k] * f ≤ 999999998000000001 := by
        have := Int.mul_le_mul hd1 hf1 hf0 (by omega)
        omega
      have HN := Lib.hid (HR.out.next hlt hyl)
      have HCB := Lib.hid (takeAt_bound HR.out.1 (sh + k) (ys[k] * f + br) (by omega) (by omega))
      clear hdy
      go_wp2_with fail
      refine (takeAt_onz T b cur (sh + k) _ _ _ hcl (by rw [HR.out.2.1]; omega) (by omega) (by omega) HR.out.1 hat.1 (by omega)).mono ?_
      rintro e w1 ⟨rfl, hat1⟩
      clear hm0 hm1 hd0 hd1
      go_wp2
      go_roundw
      case rel => exact ⟨k + 1, _, _, by omega, by go_num, rfl, HCB.out.1, HCB.out.2, HN, hat.trans hat1⟩
      case measure => simp [intOf]; omega
    · obtain rfl : k = ys.length := by omega
      go_wp2
      go_loopw [8, 11] (fun a i wr => ∃ (pl : Nat) (cur : List Int) (br : Int), pl ≤ xs.length ∧ i = .int .i64 pl ∧ a = .int .i64 br ∧ 0 ≤ br ∧ br ≤ 999999999 ∧ Hid (TakeR xs ys f sh ys.length pl cur br) ∧ KeptX K T b cur w wr) (fun _ i _ => xs.length - (intOf i).toNat)
      case atStart => exact ⟨sh + ys.length, cur, br, hyl, by go_num, rfl, hc0, hc1, HR, hat⟩
      case round =>
        clear hat HR hc0 hc1 hcl
        obtain ⟨pl, cur, br, hpl, rfl, rfl, hc0, hc1, HR, hat⟩ := hrel
        have hcl : cur.length ≤ 1048576 := by rw [HR.out.2.1]; exact hxl
        by_cases hpos : 0 < br
        · have hplm := HR.out.room HLE.out hpos
          have HN := Lib.hid (HR.out.next2 hplm)
          have HCB := Lib.hid (takeAt_bound HR.out.1 pl br (by omega) (by omega))
          go_wp2_with fail
          refine (takeAt_on T b cur pl br _ hcl (by rw [HR.out.2.1]; omega) (by omega) (by omega) HR.out.1 hat.1).mono ?_
          rintro e w1 ⟨rfl, hat1⟩
          go_wp2
          go_roundw
          case rel => exact ⟨pl + 1, _, _, by omega, by go_num, rfl, HCB.out.1, HCB.out.2, HN, hat.trans hat1⟩
          case measure => simp [intOf]; omega
        · obtain rfl : br = 0 := by omega
          have HF := Lib.hid HR.out.done
          go_wp2_with fail
          refine (natTrim_on T b cur _ hcl hat.1).mono ?_
          rintro e w1 ⟨rfl, hat1⟩
          go_wp2
          go_end0
          exact ⟨rfl, by rw [← HF.out]; exact hat.trans hat1⟩
theorem natTake_any {K : NatK} (B b : Nat) (xs : List Int) (vy : Value) (ys : List Int) (lo hi : Nat) (w : World) (hxl : xs.length ≤ 1048576) (hyl : ys.length ≤ xs.length)
    (hdx : DigN xs) (hdy : DigN ys) (hle : nval ys ≤ nval xs) (hhi : hi ≤ B) (hr : Row w lo hi vy (intsV ys)) (h : NatX K B b xs w) :
    Calls Tryz.prog 102 #[.pointer (some ⟨b, 0, none⟩), vy, .int .i64 1, .int .i64 0] w fun e w' => e = .returned (.tuple #[]) ∧ LeftX K B b (limbs (nval xs - nval ys).toNat) w w' := by
  obtain ⟨T, hT, hB⟩ := h.on
  obtain ⟨S, hS, hW⟩ := hr.on
  have e1 : 1 * bp 0 * nval ys = nval ys := by show 1 * 1 * nval ys = nval ys; omega
  refine (takeTimes_on T S b xs vy ys lo hi 1 0 w hxl (by omega) (by omega) (by omega) hdx hdy (by omega) (fun g hg hm => by have := hB g hm; have := (hW g hg).2; omega) hS hT).mono ?_
  rintro e w' ⟨rfl, hk⟩
  rw [e1] at hk
  exact ⟨rfl, hk.left h.size hB⟩
end Go.Proofs.YtofehcpapdlcnabGreatDoor

namespace Go.Proofs.YtofehcpapdlcnabGreatDoor
open Go.RowKit

theorem add_limbs {a b zs : List Int} (oa : natOkB a = true) (ob : natOkB b = true) (hd : DigN zs) (hv : nval zs = nval a + 1 * bp 0 * nval b)
    (hl : zs.length = lenM a.length b.length 0 ∨ (zs.length = lenM a.length b.length 0 + 1 ∧ bp (lenM a.length b.length 0) ≤ nval zs)) : zs = limbs (nval a + nval b).toNat := by
  have hv2 : nval zs = nval a + nval b := by
    have : bp 0 = 1 := rfl
    rw [this, Int.one_mul, Int.one_mul] at hv
    exact hv
  have na := nval_nonneg a (natOk_parts oa).1
  have nb := nval_nonneg b (natOk_parts ob).1
  rw [← hv2]
  apply limbs_of_ge zs hd
  intro h0
  rcases hl with hl | ⟨hl, hg⟩
  · unfold lenM at hl
    by_cases hb : b.length = 0
    · rw [if_pos hb] at hl
      have := ok_ge oa (by omega)
      rw [hl]
      omega
    · rw [if_neg hb] at hl
      have h2 := ok_ge ob (by omega)
      by_cases hab : b.length ≤ a.length
      · have h1 := ok_ge oa (by omega)
        rw [hl, show max a.length (0 + b.length) = a.length by omega]
        omega
      · rw [hl, show max a.length (0 + b.length) = b.length by omega]
        omega
  · rw [hl, show lenM a.length b.length 0 + 1 - 1 = lenM a.length b.length 0 by omega]
    exact hg
/-- the cases of bad arguments are told by one lemma of the walk: both are right -/
theorem addN_ok {a b : List Int} (oa : natOkB a = true) (ob : natOkB b = true) : addN a b = natRes (nval a + nval b) := by unfold addN; rw [if_pos ⟨oa, ob⟩]
theorem mulN_ok {a b : List Int} (oa : natOkB a = true) (ob : natOkB b = true) : mulN a b = natRes (nval a * nval b) := by unfold mulN; rw [if_pos ⟨oa, ob⟩]

set_option maxHeartbeats 1000000 in
set_option maxRecDepth 100000 in
theorem implNatAdd_any (va vb : Value) (a b : List Int) (la ha lb hb : Nat) (w : World) (hal : a.length ≤ 1048576) (hbl : b.length ≤ 1048576) (_ : ha ≤ w.heap.size) (hhb : hb ≤ w.heap.size)
    (hra : Row w la ha va (intsV a)) (hrb : Row w lb hb vb (intsV b)) :
    Calls Tryz.prog 163 #[va, vb] w (NewInts (addN a b) w) := by
  by_cases oa : natOkB a = true
  · by_cases ob : natOkB b = true
    · have HN := Lib.hid (addN_ok oa ob)
      have OA := Lib.hid oa
      have OB := Lib.hid ob
      have pa := (natOk_parts oa).2.1
      have pb := (natOk_parts ob).2.1
      go_enter Tryz.func163, Tryz.ntmps163
      go_wp2_with fail
      refine (implNatOk_same va a la ha _ (by omega) hra).mono ?_
      rintro e w' ⟨rfl, rfl⟩
      rw [oa]
      go_wp2_with fail
      refine (implNatOk_same vb b lb hb _ (by omega) hrb).mono ?_
      rintro e w' ⟨rfl, rfl⟩
      rw [ob]
      clear oa ob
      go_wp2_with fail
      refine (copyNat_any va a la ha _ hal hra).mono ?_
      rintro e w1 ⟨p, rfl, hat, hb1⟩
      go_wp2_with fail
      refine (addTimes_any w.heap.size p a vb b lb hb 1 0 _ (by omega) (by omega) (by omega) (by omega) (by omega) (natOk_parts OA.out).1 (natOk_parts OB.out).1 hhb (hrb.below hb1 hhb) hat).mono ?_
      rintro e w2 ⟨rfl, zs, ⟨hat2, hb2⟩, hd, hv, hl⟩
      have HZ := Lib.hid (add_limbs OA.out OB.out hd hv hl)
      have hzl : zs.length ≤ 101 := by
        rcases hl with hl | ⟨hl, _⟩
        · rw [hl]; unfold lenM; split <;> omega
        · rw [hl]; unfold lenM; split <;> omega
      clear hv hl hd
      go_wp2_with fail
      refine (natResult_any w.heap.size p zs _ (by omega) hat2).mono ?_
      rintro e w3 hpost
      obtain ⟨rfl, v3, rfl, ho⟩ := hpost
      go_wp2
      go_ret
      exact ⟨_, rfl, by rw [HN.out]; unfold natRes; rw [← HZ.out]; exact ho, hb1.trans hb2⟩
    · have ob' : natOkB b = false := by simpa using ob
      have HN := Lib.hid (show addN a b = [] by unfold addN; rw [if_neg (fun h => ob h.2)])
      clear ob
      go_enter Tryz.func163, Tryz.ntmps163
      go_wp2_with fail
      refine (implNatOk_same va a la ha _ (by omega) hra).mono ?_
      rintro e w' ⟨rfl, rfl⟩
      rw [oa]
      go_wp2_with fail
      refine (implNatOk_same vb b lb hb _ (by omega) hrb).mono ?_
      rintro e w' ⟨rfl, rfl⟩
      rw [ob']
      go_wp2
      go_ret
      rw [HN.out]
      exact new_nil (Below.refl _ _)
  · have oa' : natOkB a = false := by simpa using oa
    have HN := Lib.hid (show addN a b = [] by unfold addN; rw [if_neg (fun h => oa h.1)])
    clear oa
    go_enter Tryz.func163, Tryz.ntmps163
    go_wp2_with fail
    refine (implNatOk_same va a la ha _ (by omega) hra).mono ?_
    rintro e w' ⟨rfl, rfl⟩
    rw [oa']
    go_wp2
    go_ret
    rw [HN.out]
    exact new_nil (Below.refl _ _)

theorem lens_of_le {a b : List Int} (oa : natOkB a = true) (ob : natOkB b = true) (h : nval b ≤ nval a) : b.length ≤ a.length := by
  rcases Nat.lt_or_ge a.length b.length with hl | hl
  · have := nval_short a b (natOk_parts oa).1 (natOk_parts ob).1 hl (natOk_parts ob).2.2
    omega
  · exact hl
/-- the product so far -/
def MulR (a b : List Int) (i : Nat) (cur : List Int) : Prop :=
  DigN cur ∧ nval cur = nval (a.take i) * nval b ∧ cur.length ≤ i + b.length ∧ (cur.length ≤ i + b.length - 1 ∨ bp (cur.length - 1) ≤ nval cur) ∧ (i = 0 → cur = []) ∧ (b.length = 0 → cur = [])
theorem MulR.start (a b : List Int) : MulR a b 0 [] := by
  refine ⟨(fun d hd => by cases hd), ?_, by simp, .inl (by simp), fun _ => rfl, fun _ => rfl⟩
  rw [List.take_zero]
  show (0 : Int) = 0 * nval b
  rw [Int.zero_mul]
theorem MulR.next {a b cur zs : List Int} {i : Nat} (h : MulR a b i cur) (hi : i < a.length) (hd : DigN zs) (hv : nval zs = nval cur + a[i] * bp i * nval b)
    (hl : zs.length = lenM cur.length b.length i ∨ (zs.length = lenM cur.length b.length i + 1 ∧ bp (lenM cur.length b.length i) ≤ nval zs)) : MulR a b (i + 1) zs := by
  obtain ⟨h1, h2, h3, h4, h5, h6⟩ := h
  have hval : nval zs = nval (a.take (i + 1)) * nval b := by
    rw [hv, h2, take_val_succ a i hi, Int.add_mul, Int.mul_comm a[i]]
  unfold lenM at hl
  by_cases hb : b.length = 0
  · have hb0 : b = [] := List.eq_nil_of_length_eq_zero hb
    have hc0 := h6 hb
    subst hb0
    subst hc0
    rw [if_pos hb] at hl
    have hz : nval zs = 0 := by rw [hval]; exact Int.mul_zero _
    have hzs : zs = [] := by
      rcases hl with hl | ⟨_, hg⟩
      · exact List.eq_nil_of_length_eq_zero hl
      · have := bp_pos (([] : List Int).length)
        omega
    subst hzs
    exact ⟨hd, hval, by simp, .inl (by simp), fun _ => rfl, fun _ => rfl⟩
  · rw [if_neg hb, show max cur.length (i + b.length) = i + b.length by omega] at hl
    refine ⟨hd, hval, by omega, ?_, fun h => absurd h (by omega), fun h => absurd h hb⟩
    rcases hl with hl | ⟨hl, hg⟩
    · exact .inl (by omega)
    · right
      rw [hl, show i + b.length + 1 - 1 = i + b.length by omega]
      exact hg
theorem MulR.done {a b cur : List Int} (h : MulR a b a.length cur) (oa : natOkB a = true) (ob : natOkB b = true) : cur = limbs (nval a * nval b).toNat := by
  obtain ⟨h1, h2, h3, h4, h5, h6⟩ := h
  rw [List.take_of_length_le (Nat.le_refl _)] at h2
  rw [← h2]
  apply limbs_of_ge cur h1
  intro h0
  rcases h4 with h4 | h4
  · have ha : 0 < a.length := by
      rcases Nat.eq_zero_or_pos a.length with e | e
      · rw [h5 e] at h0; simp at h0
      · exact e
    have hb : 0 < b.length := by
      rcases Nat.eq_zero_or_pos b.length with e | e
      · rw [h6 e] at h0; simp at h0
      · exact e
    have ga := ok_ge oa ha
    have gb := ok_ge ob hb
    have pa := bp_pos (a.length - 1)
    have pb := bp_pos (b.length - 1)
    have hm := Int.mul_le_mul ga gb (by omega) (by omega)
    rw [← bp_add, ← h2] at hm
    have := bp_mono (show cur.length - 1 ≤ a.length - 1 + (b.length - 1) by omega)
    omega
  · exact h4

set_option maxHeartbeats 1000000 in
set_option maxRecDepth 100000 in
theorem implNatMul_any (va vb : Value) (a b : List Int) (la ha lb hb : Nat) (w : World) (hal : a.length ≤ 1048576) (hbl : b.length ≤ 1048576) (hha : ha ≤ w.heap.size) (hhb : hb ≤ w.heap.size)
    (hra : Row w la ha va (intsV a)) (hrb : Row w lb hb vb (intsV b)) :
    Calls Tryz.prog 154 #[va, vb] w (NewInts (mulN a b) w) := by
  by_cases oa : natOkB a = true
  · by_cases ob : natOkB b = true
    · have HN := Lib.hid (mulN_ok oa ob)
      have OA := Lib.hid oa
      have OB := Lib.hid ob
      have pa := (natOk_parts oa).2.1
      have pb := (natOk_parts ob).2.1
      have ra := hra
      obtain ⟨A, ca, rfl, hA⟩ := hra
      rw [intsV_length] at ra ⊢
      have HA := Lib.hid hA
      clear hA
      go_enter Tryz.func154, Tryz.ntmps154
      go_wp2_with fail
      refine (implNatOk_same _ a la ha _ (by omega) ra).mono ?_
      rintro e w' ⟨rfl, rfl⟩
      rw [oa]
      go_wp2_with fail
      refine (implNatOk_same vb b lb hb _ (by omega) hrb).mono ?_
      rintro e w' ⟨rfl, rfl⟩
      rw [ob]
      clear oa ob
      go_wp2
      go_loopw [18] (fun i wr => ∃ (k : Nat) (cur : List Int), k ≤ a.length ∧ i = .int .i64 k ∧ Hid (MulR a b k cur) ∧ NatAt w.heap.size w.heap.size cur wr ∧ Below w.heap.size w wr) (fun i _ => a.length - (intOf i).toNat)
      case atStart => exact ⟨0, [], Nat.zero_le _, rfl, Lib.hid (MulR.start a b), NatAt.new (Nat.le_refl _) (World.ownsRow_nil _ _ _ _), (Below.refl _ _).alloc (Nat.le_refl _) _⟩
      case round =>
        obtain ⟨k, cur, hk, rfl, HM, hat, hb1⟩ := hrel
        have hcl : cur.length ≤ 100 := by have := HM.out.2.2.1; omega
        by_cases hlt : k < a.length
        · obtain ⟨p, rfl, _, hpb, hca⟩ := HA.out k _ (intsV_at a k hlt)
          have hca' : wr.cell? (p.add k) = some (.int .i64 a[k]) := (hb1.cell (by rw [block_add]; omega)).trans hca
          have hda := (natOk_parts OA.out).1.at_ k hlt
          have hd0 := hda.1
          have hd1 := hda.2
          clear hca hda
          go_wp2_with fail
          refine (addTimes_any w.heap.size w.heap.size cur vb b lb hb a[k] k _ (by omega) (by omega) (by omega) hd0 hd1 HM.out.1 (natOk_parts OB.out).1 hhb (hrb.below hb1 hhb) hat).mono ?_
          rintro e w2 ⟨rfl, zs, ⟨hat2, hb2⟩, hd, hv, hl⟩
          have HM2 := Lib.hid (HM.out.next hlt hd hv hl)
          clear hd hv hl hd0 hd1
          go_wp2
          go_roundw
          case rel => exact ⟨k + 1, zs, by omega, by go_num, HM2, hat2, hb1.trans hb2⟩
          case measure => simp [intOf]; omega
        · obtain rfl : k = a.length := by omega
          have HZ := Lib.hid (HM.out.done OA.out OB.out)
          go_wp2_with fail
          refine (natResult_any w.heap.size w.heap.size cur _ (by omega) hat).mono ?_
          rintro e w3 hpost
          obtain ⟨rfl, v3, rfl, ho⟩ := hpost
          go_wp2
          go_ret
          exact ⟨_, rfl, by rw [HN.out]; unfold natRes; rw [← HZ.out]; exact ho, hb1⟩
    · have ob' : natOkB b = false := by simpa using ob
      have HN := Lib.hid (show mulN a b = [] by unfold mulN; rw [if_neg (fun h => ob h.2)])
      clear ob
      go_enter Tryz.func154, Tryz.ntmps154
      go_wp2_with fail
      refine (implNatOk_same va a la ha _ (by omega) hra).mono ?_
      rintro e w' ⟨rfl, rfl⟩
      rw [oa]
      go_wp2_with fail
      refine (implNatOk_same vb b lb hb _ (by omega) hrb).mono ?_
      rintro e w' ⟨rfl, rfl⟩
      rw [ob']
      go_wp2
      go_ret
      rw [HN.out]
      exact new_nil (Below.refl _ _)
  · have oa' : natOkB a = false := by simpa using oa
    have HN := Lib.hid (show mulN a b = [] by unfold mulN; rw [if_neg (fun h => oa h.1)])
    clear oa
    go_enter Tryz.func154, Tryz.ntmps154
    go_wp2_with fail
    refine (implNatOk_same va a la ha _ (by omega) hra).mono ?_
    rintro e w' ⟨rfl, rfl⟩
    rw [oa']
    go_wp2
    go_ret
    rw [HN.out]
    exact new_nil (Below.refl _ _)
end Go.Proofs.YtofehcpapdlcnabGreatDoor

namespace Go.Proofs.YtofehcpapdlcnabGreatDoor
open Go.RowKit

set_option maxHeartbeats 400000 in
set_option maxRecDepth 100000 in
theorem limbAt_any (v : Value) (xs : List Int) (p : Int) (lo hi : Nat) (w : World) (_hl : xs.length ≤ 1048576) (hr : Row w lo hi v (intsV xs)) :
    Calls Tryz.prog 180 #[v, .int .i64 p] w fun e w' => e = .returned (.int .i64 (if p < 0 then 0 else xs.getD p.toNat 0)) ∧ w = w' := by
  obtain ⟨A, c, rfl, hA⟩ := hr
  rw [intsV_length]
  by_cases h0 : p < 0
  · rw [if_pos h0]
    go_enter Tryz.func180, Tryz.ntmps180
    go_wp2
    go_ret
    exact ⟨rfl, rfl⟩
  · rw [if_neg h0]
    obtain ⟨n, rfl⟩ := Int.eq_ofNat_of_zero_le (show 0 ≤ p by omega)
    rw [Int.toNat_natCast]
    by_cases h1 : n < xs.length
    · obtain ⟨a, rfl, _, _, hca⟩ := hA n _ (intsV_at xs n h1)
      rw [List.getD_eq_getElem?_getD, List.getElem?_eq_getElem h1, Option.getD_some]
      clear h0
      generalize xs[n] = x at *
      go_enter Tryz.func180, Tryz.ntmps180
      go_wp2
      go_ret
      exact ⟨rfl, rfl⟩
    · rw [List.getD_eq_getElem?_getD, List.getElem?_eq_none (by omega)]
      clear h0
      go_enter Tryz.func180, Tryz.ntmps180
      go_wp2
      go_ret
      exact ⟨rfl, rfl⟩
end Go.Proofs.YtofehcpapdlcnabGreatDoor

namespace Go.Proofs.YtofehcpapdlcnabGreatDoor
open Go.RowKit

/-- a limb, zeros above the last one and below the first one -/
def limbA (xs : List Int) (p : Int) : Int := if p < 0 then 0 else xs.getD p.toNat 0
theorem limbA_dig {xs : List Int} (h : DigN xs) (p : Int) : 0 ≤ limbA xs p ∧ limbA xs p ≤ 999999999 := by
  unfold limbA
  split
  · omega
  · exact getD_dig h _
theorem limbA_nat (xs : List Int) (p : Nat) : limbA xs p = xs.getD p 0 := by unfold limbA; rw [if_neg (by omega), Int.toNat_natCast]
theorem nval_down (xs : List Int) (k : Nat) : nval (xs.drop k) = xs.getD k 0 + 1000000000 * nval (xs.drop (k + 1)) := by
  rcases Nat.lt_or_ge k xs.length with h | h
  · rw [nval_drop xs k h, List.getD_eq_getElem?_getD, List.getElem?_eq_getElem h, Option.getD_some]
  · rw [List.drop_of_length_le h, List.drop_of_length_le (by omega), List.getD_eq_getElem?_getD, List.getElem?_eq_none h]
    rfl
theorem nval_split (xs : List Int) (k : Nat) : nval xs = nval (xs.take k) + bp k * nval (xs.drop k) := by
  rcases Nat.lt_or_ge k xs.length with h | h
  · conv => lhs; rw [← List.take_append_drop k xs]
    rw [nval_append, List.length_take, show min k xs.length = k by omega]
  · rw [List.drop_of_length_le h, List.take_of_length_le h]
    show _ = _ + bp k * 0
    rw [Int.mul_zero, Int.add_zero]
theorem nval_low {xs : List Int} (h : DigN xs) (k : Nat) : bp k * nval (xs.drop k) ≤ nval xs := by
  have h1 := nval_split xs k
  have h2 := nval_nonneg _ (h.take k)
  omega
theorem bp_succ (k : Nat) : bp (k + 1) = 1000000000 * bp k := rfl
/-- three limbs of a number, times the place of the middle one -/
theorem three_le {xs : List Int} (h : DigN xs) (p : Nat) : ((limbA xs (p + 1) * 1000000000 + limbA xs p) * 1000000000 + limbA xs ((p : Int) - 1)) * bp p ≤ nval xs * 1000000000 := by
  have e1 : limbA xs ((p : Int) + 1) = xs.getD (p + 1) 0 := limbA_nat xs (p + 1)
  rw [e1, limbA_nat]
  have n2 := nval_nonneg _ (h.drop (p + 1 + 1))
  have d0 := nval_down xs p
  have d1 := nval_down xs (p + 1)
  cases p with
  | zero =>
    have e2 : limbA xs ((0 : Nat) - 1 : Int) = 0 := by unfold limbA; rw [if_pos (by decide)]
    rw [e2]
    rw [List.drop_zero] at d0
    show _ * 1 ≤ _
    omega
  | succ p =>
    have e2 : limbA xs (((p + 1 : Nat) : Int) - 1) = xs.getD p 0 := by
      rw [show ((p + 1 : Nat) : Int) - 1 = (p : Int) by omega, limbA_nat]
    rw [e2]
    have dm := nval_down xs p
    have hlow := nval_low h p
    have hp := bp_pos p
    have hmul : bp p * ((xs.getD (p + 1 + 1) 0 * 1000000000 + xs.getD (p + 1) 0) * 1000000000 + xs.getD p 0) ≤ bp p * nval (xs.drop p) := Int.mul_le_mul_of_nonneg_left (by omega) (by omega)
    rw [bp_succ, Int.mul_comm _ (1000000000 * bp p), Int.mul_assoc]
    omega
/-- two limbs of a number and one more, times the place of the upper one -/
theorem two_ge {ys : List Int} (h : DigN ys) (h0 : 0 < ys.length) : nval ys * 1000000000 ≤ (limbA ys ((ys.length : Int) - 1) * 1000000000 + limbA ys ((ys.length : Int) - 1 - 1) + 1) * bp (ys.length - 1) := by
  obtain ⟨n, hn⟩ : ∃ n, ys.length = n + 1 := ⟨ys.length - 1, by omega⟩
  have e1 : limbA ys ((ys.length : Int) - 1) = ys.getD n 0 := by rw [hn, show ((n + 1 : Nat) : Int) - 1 = (n : Int) by omega, limbA_nat]
  have hz : nval (ys.drop (n + 1)) = 0 := by rw [List.drop_of_length_le (by omega)]; rfl
  have d0 := nval_down ys n
  rw [hz] at d0
  rw [e1, hn, Nat.add_sub_cancel, show ((n + 1 : Nat) : Int) - 1 - 1 = (n : Int) - 1 by omega]
  cases n with
  | zero =>
    have e2 : limbA ys ((0 : Nat) - 1 : Int) = 0 := by unfold limbA; rw [if_pos (by decide)]
    rw [e2]
    rw [List.drop_zero] at d0
    show _ ≤ _ * 1
    omega
  | succ n =>
    have e2 : limbA ys (((n + 1 : Nat) : Int) - 1) = ys.getD n 0 := by
      rw [show ((n + 1 : Nat) : Int) - 1 = (n : Int) by omega, limbA_nat]
    rw [e2]
    have dm := nval_down ys n
    have hs := nval_split ys n
    have ht := nval_lt _ (h.take n)
    have hp := bp_pos n
    rw [List.length_take, show min n ys.length = n by omega] at ht
    have hmul : bp n * nval (ys.drop n) = bp n * (ys.getD (n + 1) 0 * 1000000000 + ys.getD n 0) := by congr 1; omega
    rw [bp_succ, Int.mul_comm _ (1000000000 * bp n), Int.mul_assoc, Int.mul_add]
    omega
/-- the guess -/
def guessN (cur ys : List Int) (sh : Nat) : Int :=
  ((limbA cur ((sh : Int) + ((ys.length : Int) - 1) + 1) * 1000000000 + limbA cur ((sh : Int) + ((ys.length : Int) - 1))) * 1000000000 + limbA cur ((sh : Int) + ((ys.length : Int) - 1) - 1)) /
    (limbA ys ((ys.length : Int) - 1) * 1000000000 + limbA ys ((ys.length : Int) - 1 - 1) + 1)
theorem guess_nonneg {cur ys : List Int} (hc : DigN cur) (hy : DigN ys) (sh : Nat) : 0 ≤ guessN cur ys sh := by
  have a := limbA_dig hc ((sh : Int) + ((ys.length : Int) - 1) + 1)
  have b := limbA_dig hc ((sh : Int) + ((ys.length : Int) - 1))
  have c := limbA_dig hc ((sh : Int) + ((ys.length : Int) - 1) - 1)
  have d := limbA_dig hy ((ys.length : Int) - 1)
  have e := limbA_dig hy ((ys.length : Int) - 1 - 1)
  exact Int.ediv_nonneg (by omega) (by omega)
theorem guess_le {cur ys : List Int} (hc : DigN cur) (hy : DigN ys) (h0 : 0 < ys.length) (sh : Nat) : guessN cur ys sh * (nval ys * bp sh) ≤ nval cur := by
  obtain ⟨n, hn⟩ : ∃ n, ys.length = n + 1 := ⟨ys.length - 1, by omega⟩
  have hA := three_le hc (sh + n)
  have hB := two_ge hy h0
  have hg0 := guess_nonneg hc hy sh
  have d := limbA_dig hy ((ys.length : Int) - 1)
  have e := limbA_dig hy ((ys.length : Int) - 1 - 1)
  unfold guessN at hg0 ⊢
  rw [hn, Nat.add_sub_cancel] at hB
  rw [hn] at hg0 d e ⊢
  rw [show (((n + 1 : Nat) : Int) - 1) = (n : Int) by omega] at hB hg0 d e ⊢
  rw [show ((sh + n : Nat) : Int) = (sh : Int) + (n : Int) by omega] at hA
  generalize hU : limbA ys (n : Int) * 1000000000 + limbA ys ((n : Int) - 1) + 1 = U at *
  generalize (limbA cur ((sh : Int) + (n : Int) + 1) * 1000000000 + limbA cur ((sh : Int) + (n : Int))) * 1000000000 + limbA cur ((sh : Int) + (n : Int) - 1) = N3 at *
  have hU0 : 0 < U := by omega
  have hq : N3 / U * U ≤ N3 := Int.ediv_mul_le N3 (by omega)
  generalize N3 / U = q at *
  have hps := bp_pos sh
  have hpn := bp_pos n
  have h1 : q * bp sh * (nval ys * 1000000000) ≤ q * bp sh * (U * bp n) := Int.mul_le_mul_of_nonneg_left hB (Int.mul_nonneg hg0 (by omega))
  have h2 : q * U * bp (sh + n) ≤ N3 * bp (sh + n) := Int.mul_le_mul_of_nonneg_right hq (by have := bp_pos (sh + n); omega)
  have e1 : q * bp sh * (U * bp n) = q * U * bp (sh + n) := by rw [bp_add]; simp only [Int.mul_assoc, Int.mul_comm, Int.mul_left_comm]
  have e2 : q * bp sh * (nval ys * 1000000000) = q * (nval ys * bp sh) * 1000000000 := by simp only [Int.mul_assoc, Int.mul_comm, Int.mul_left_comm]
  rw [e1, e2] at h1
  omega
/-- below a limb, where the number is below the divisor one place up -/
theorem factor_lt {g N D : Int} (hD : 0 < D) (h1 : g * D ≤ N) (h2 : N < 1000000000 * D) : g < 1000000000 := by
  by_cases h : g < 1000000000
  · exact h
  · have := Int.mul_le_mul_of_nonneg_right (show 1000000000 ≤ g by omega) (show 0 ≤ D by omega)
    omega

theorem add64_run (x y : Nat) (w : World) : (callFunc 181 #[.int .u64 x, .int .u64 y, .int .u64 0]).run Tryz.prog w =
    .ok (.value (.tuple #[.int .u64 (((x + y) % 18446744073709551616 : Nat) : Int), .int .u64 (((x + y) / 18446744073709551616 : Nat) : Int)])) w := by
  rw [run_callFunc_extern Tryz.func181 (by kernel_rfl) (by kernel_rfl) (by kernel_rfl) (e := add64Entry) (by kernel_rfl), run_add64 x y 0 (by omega) (by omega) (by omega) (by omega)]
  simp only [Result.andThen]
  congr 5 <;> omega

theorem limbAt_A (v : Value) (xs : List Int) (p : Int) (lo hi : Nat) (w : World) (hl : xs.length ≤ 1048576) (hr : Row w lo hi v (intsV xs)) :
    Calls Tryz.prog 180 #[v, .int .i64 p] w fun e w' => e = .returned (.int .i64 (limbA xs p)) ∧ w = w' := limbAt_any v xs p lo hi w hl hr
/-- the words of the division in guess -/
theorem guess_words {F l3 U : Int} (hF0 : 0 ≤ F) (hF1 : F ≤ 999999999999999999) (hl0 : 0 ≤ l3) (hl1 : l3 ≤ 999999999) (hU0 : 1000000001 ≤ U) (hU1 : U ≤ 1000000000000000000) :
    F.toNat * 1000000000 / 18446744073709551616 + (F.toNat * 1000000000 % 18446744073709551616 + l3.toNat) / 18446744073709551616 < U.toNat ∧
    ((((F.toNat * 1000000000 / 18446744073709551616 + (F.toNat * 1000000000 % 18446744073709551616 + l3.toNat) / 18446744073709551616) * 18446744073709551616 + (F.toNat * 1000000000 % 18446744073709551616 + l3.toNat) % 18446744073709551616) / U.toNat : Nat) : Int) = (F * 1000000000 + l3) / U := by
  refine ⟨by omega, ?_⟩
  have e : (F.toNat * 1000000000 / 18446744073709551616 + (F.toNat * 1000000000 % 18446744073709551616 + l3.toNat) / 18446744073709551616) * 18446744073709551616 + (F.toNat * 1000000000 % 18446744073709551616 + l3.toNat) % 18446744073709551616 = F.toNat * 1000000000 + l3.toNat := by omega
  rw [e, Int.natCast_ediv]
  congr 1 <;> omega
set_option maxHeartbeats 1000000 in
set_option maxRecDepth 100000 in
theorem guess_any (b : Nat) (v : Value) (cur : List Int) (vy : Value) (ys : List Int) (lo hi lo2 hi2 : Nat) (sh : Nat) (w : World) (hcl : cur.length ≤ 1048576) (hyl : ys.length ≤ 1048576) (hsh : sh ≤ 1048576)
    (hdc : DigN cur) (hdy : DigN ys) (hy0 : 0 < ys.length) (hyt : ys.getLastD 1 ≠ 0) (hN : nval cur < 1000000000 * (nval ys * bp sh))
    (hv : w.cell? ⟨b, 0, none⟩ = some v) (hrc : Row w lo2 hi2 v (intsV cur)) (hry : Row w lo hi vy (intsV ys)) :
    Calls Tryz.prog 179 #[.pointer (some ⟨b, 0, none⟩), vy, .int .i64 sh] w fun e w' => e = .returned (.int .i64 (guessN cur ys sh)) ∧ ∃ q, w.drewN q = w' := by
  have hg0 := guess_nonneg hdc hdy sh
  have hgl := guess_le hdc hdy hy0 sh
  have hy1 := nval_ge ys hdy hyt hy0
  have hD : 0 < nval ys * bp sh := Int.mul_pos (by have := bp_pos (ys.length - 1); omega) (bp_pos sh)
  have hg1 := factor_lt hD hgl hN
  have hd1 := limbA_dig hdy ((ys.length : Int) - 1)
  have hd2 := limbA_dig hdy ((ys.length : Int) - 1 - 1)
  have hc1 := limbA_dig hdc ((sh : Int) + ((ys.length : Int) - 1) + 1)
  have hc2 := limbA_dig hdc ((sh : Int) + ((ys.length : Int) - 1))
  have hc3 := limbA_dig hdc ((sh : Int) + ((ys.length : Int) - 1) - 1)
  have hlast : limbA ys ((ys.length : Int) - 1) ≠ 0 ∧ ys[ys.length - 1]'(by omega) = limbA ys ((ys.length : Int) - 1) := by
    have e : limbA ys ((ys.length : Int) - 1) = ys[ys.length - 1]'(by omega) := by
      rw [show ((ys.length : Int) - 1) = ((ys.length - 1 : Nat) : Int) by omega, limbA_nat, List.getD_eq_getElem?_getD, List.getElem?_eq_getElem (by omega), Option.getD_some]
    refine ⟨?_, e.symm⟩
    rw [e]
    intro h
    apply hyt
    rw [List.getLastD_eq_getLast?, List.getLast?_eq_getElem?, List.getElem?_eq_getElem (by omega), Option.getD_some, h]
  have hcell := hry
  obtain ⟨A, c, rfl, hA⟩ := hcell
  rw [intsV_length] at hry ⊢
  obtain ⟨a, rfl, _, _, hca⟩ := hA (ys.length - 1) _ (intsV_at ys (ys.length - 1) (by omega))
  rw [hlast.2] at hca
  have hU0 : 1000000001 ≤ limbA ys ((ys.length : Int) - 1) * 1000000000 + limbA ys ((ys.length : Int) - 1 - 1) + 1 := by have := hlast.1; omega
  have hU1 : limbA ys ((ys.length : Int) - 1) * 1000000000 + limbA ys ((ys.length : Int) - 1 - 1) + 1 ≤ 1000000000000000000 := by omega
  have hF0 : 0 ≤ limbA cur ((sh : Int) + ((ys.length : Int) - 1) + 1) * 1000000000 + limbA cur ((sh : Int) + ((ys.length : Int) - 1)) := by omega
  have hF1 : limbA cur ((sh : Int) + ((ys.length : Int) - 1) + 1) * 1000000000 + limbA cur ((sh : Int) + ((ys.length : Int) - 1)) ≤ 999999999999999999 := by omega
  have HW := Lib.hid (guess_words hF0 hF1 hc3.1 hc3.2 hU0 hU1)
  have HG : Hid (guessN cur ys sh = ((limbA cur ((sh : Int) + ((ys.length : Int) - 1) + 1) * 1000000000 + limbA cur ((sh : Int) + ((ys.length : Int) - 1))) * 1000000000 + limbA cur ((sh : Int) + ((ys.length : Int) - 1) - 1)) /
    (limbA ys ((ys.length : Int) - 1) * 1000000000 + limbA ys ((ys.length : Int) - 1 - 1) + 1)) := Lib.hid rfl
  unfold guessN at hg0 hg1
  clear hN hgl hy1 hD hlast hyt hA
  have hadd := add64_run
  go_enter Tryz.func179, Tryz.ntmps179
  go_wp2
  go_quiet ((go_at_call 180; exact quiet_at rfl (limbAt_A _ ys _ lo hi _ hyl (hry.drewN _))))
  go_wp2
  go_quiet ((go_at_call 180; exact quiet_at rfl (limbAt_A _ cur _ lo2 hi2 _ hcl (hrc.drewN _))))
  generalize limbA cur ((sh : Int) + ((ys.length : Int) - 1) + 1) = C1 at *
  generalize limbA cur ((sh : Int) + ((ys.length : Int) - 1)) = C2 at *
  obtain ⟨F, hF⟩ : ∃ F : Nat, C1 * 1000000000 + C2 = (F : Int) := ⟨_, (Int.toNat_of_nonneg hF0).symm⟩
  rw [hF, Int.toNat_natCast] at HW
  rw [hF] at hg0 hg1 hF1 HG ⊢
  have hc11 := hc1.1
  have hc12 := hc1.2
  have hc21 := hc2.1
  have hc22 := hc2.2
  have hd11 := hd1.1
  have hd12 := hd1.2
  have hd21 := hd2.1
  have hd22 := hd2.2
  obtain ⟨U, hU⟩ : ∃ U : Nat, limbA ys ((ys.length : Int) - 1) * 1000000000 + limbA ys ((ys.length : Int) - 1 - 1) + 1 = (U : Int) := ⟨_, (Int.toNat_of_nonneg (by omega)).symm⟩
  rw [hU, Int.toNat_natCast] at HW
  rw [hU] at hg0 hg1 hU1 hU0 HG ⊢
  clear hc1 hc2 hd1 hd2
  obtain ⟨l3, hl3⟩ : ∃ l3 : Nat, limbA cur ((sh : Int) + ((ys.length : Int) - 1) - 1) = (l3 : Int) := ⟨_, (Int.toNat_of_nonneg hc3.1).symm⟩
  rw [hl3, Int.toNat_natCast] at HW
  rw [hl3] at hg0 hg1 hc3 HG
  have hl31 := hc3.2
  have hF2 : F * 1000000000 / 18446744073709551616 ≤ 1000000000 := by omega
  clear hc3 hd11 hd12 hd21 hd22 hc11 hc12 hc21 hc22
  go_wp2_with fail
  refine (Tryz.bits_Mul64 F 1000000000 (by omega) (by omega) _).mono ?_
  rintro e w1 ⟨rfl, rfl⟩
  have hm := Nat.mod_lt (F * 1000000000) (show 0 < 18446744073709551616 by omega)
  obtain ⟨h1, hh1⟩ : ∃ h1, F * 1000000000 / 18446744073709551616 = h1 := ⟨_, rfl⟩
  obtain ⟨m1, hm1⟩ : ∃ m1, F * 1000000000 % 18446744073709551616 = m1 := ⟨_, rfl⟩
  rw [hh1] at HW hF2 ⊢
  rw [hm1] at HW hm ⊢
  clear hh1 hm1
  go_wp2_with fail
  refine (limbAt_A v cur _ lo2 hi2 _ hcl (hrc.drewN _)).mono ?_
  rintro e w1 ⟨rfl, rfl⟩
  rw [hl3]
  have hHW := HW.out
  have hm2 := Nat.mod_lt (m1 + l3) (show 0 < 18446744073709551616 by omega)
  have hh2 : (m1 + l3) / 18446744073709551616 ≤ 1 := by omega
  rw [hHW.2.symm] at hg0 hg1
  have hHW1 := hHW.1
  have HQ := Lib.hid (HG.out.trans hHW.2.symm)
  clear hHW HW HG
  obtain ⟨c1, hc1⟩ : ∃ c1, (m1 + l3) / 18446744073709551616 = c1 := ⟨_, rfl⟩
  obtain ⟨m2, hc2⟩ : ∃ m2, (m1 + l3) % 18446744073709551616 = m2 := ⟨_, rfl⟩
  rw [hc1] at HQ hg0 hg1 hHW1 hh2
  rw [hc2] at HQ hg0 hg1 hm2
  have hc1i : ((m1 : Int) + (l3 : Int)) / 18446744073709551616 = (c1 : Int) := by omega
  have hc2i : ((m1 : Int) + (l3 : Int)) % 18446744073709551616 = (m2 : Int) := by omega
  obtain ⟨h2, hh3⟩ : ∃ h2 : Nat, (h1 : Int) + (c1 : Int) = (h2 : Int) := ⟨h1 + c1, by omega⟩
  rw [show h1 + c1 = h2 by omega] at HQ hg0 hg1 hHW1
  go_wp2_with fail
  refine (div64_any h2 m2 U hHW1 hm2 (by omega) _).mono ?_
  rintro e w1 ⟨⟨r, rfl⟩, n2, rfl⟩
  generalize (h2 * 18446744073709551616 + m2) / U = q at *
  go_wp2_with fail
  go_ret
  exact ⟨ret_int HQ.out.symm, _, rfl⟩
end Go.Proofs.YtofehcpapdlcnabGreatDoor

namespace Go.Proofs.YtofehcpapdlcnabGreatDoor
open Go.RowKit Go.Extern.Stop Go.Stop Go.Extern

theorem isTypeOf (v : Value) (w : World) : (Extern.ReflectliteType.typeOf #[.iface 186 v]).run Tryz.prog w = .ok (.iface 174 (.agg #[.pointer (some ⟨4, 186, none⟩)])) w := by kernel_rfl
theorem isComparable (w : World) : ((Extern.ReflectliteType.method fun t => do Extern.Rtype.noPackHeld "Comparable" t; (fun a => Value.bool a.comparable) <$> typeInfo t) #[.agg #[.pointer (some ⟨4, 186, none⟩)]]).run Tryz.prog w = .ok (.bool true) w := by kernel_rfl
theorem isMethodComparable (v : Value) (w : World) : (Go.method 322 174 v "Comparable").run Tryz.prog w = .ok (203, v) w := by kernel_rfl
theorem isComp : (Tryz.prog.info? 186).map (·.comparable) = some true := by kernel_rfl
theorem isSize : (Tryz.prog.info? 210).map (·.size) = some 1 := by kernel_rfl
/-- the sentinel is at hand -/
def Sen (w : World) : Prop := ∃ a : Addr, w.cell? ⟨1, 0, none⟩ = some (.iface 186 (.pointer (some a)))
theorem Sen.below {w w' : World} (h : Sen w) (hb : Below w.heap.size w w') : Sen w' := by
  obtain ⟨a, ha⟩ := h
  exact ⟨a, (hb.cell (cell_lt ha)).trans ha⟩

set_option maxHeartbeats 1000000 in
set_option maxRecDepth 100000 in
theorem is_same (a : Addr) (w : World) :
    Calls Tryz.prog 161 #[.iface 186 (.pointer (some a)), .iface 186 (.pointer (some a))] w fun e w' => e = .returned (.bool true) ∧ w = w' := by
  obtain ⟨i, hi, hcmp⟩ := Option.map_eq_some_iff.1 isComp
  obtain ⟨j, hj, hjs⟩ := Option.map_eq_some_iff.1 isSize
  have h8 := @run_callFunc_extern Tryz.prog 166 _ Extern.ReflectliteType.typeOf Tryz.func166 (by kernel_rfl) (by kernel_rfl) (by kernel_rfl) (by kernel_rfl)
  have h32 := @run_callFunc_extern Tryz.prog 203 _ (Extern.ReflectliteType.method fun t => do Extern.Rtype.noPackHeld "Comparable" t; pure (.bool (← typeInfo t).comparable)) Tryz.func203 (by kernel_rfl) (by kernel_rfl) (by kernel_rfl) (by kernel_rfl)
  have tT := isTypeOf
  have cT := isComparable
  have mR := isMethodComparable
  have heq := run_eql_iface_ptr_same (P := Tryz.prog) w a Tryz.underlying159 Tryz.underlying186 hi hcmp hj
  go_enter Tryz.func161, Tryz.ntmps161
  go_wp2
  refine wp_loop_rounds 1 ?_
  rw [rounds_succ]
  go_wp2
  go_ret
  exact ⟨rfl, rfl⟩
set_option maxHeartbeats 400000 in
set_option maxRecDepth 100000 in
theorem is_nil (b : Addr) (w : World) :
    Calls Tryz.prog 161 #[.nilIface, .iface 186 (.pointer (some b))] w fun e w' => e = .returned (.bool false) ∧ w = w' := by
  have hn := run_eql_iface_nil_left (P := Tryz.prog) w 186 (.pointer (some b)) Tryz.underlying159
  go_enter Tryz.func161, Tryz.ntmps161
  go_wp2
  go_ret
  exact ⟨rfl, rfl⟩
end Go.Proofs.YtofehcpapdlcnabGreatDoor

namespace Go.Proofs.YtofehcpapdlcnabGreatDoor
open Go.RowKit

/-- a number without zeros at its end -/
def Trim (xs : List Int) : Prop := DigN xs ∧ xs.getLastD 1 ≠ 0
theorem limbs_trim (n : Nat) : Trim (limbs n) := ⟨limbs_digN n, limbs_lastN n⟩
theorem Trim.drop {xs : List Int} (h : Trim xs) (k : Nat) : Trim (xs.drop k) := by
  refine ⟨h.1.drop k, ?_⟩
  rcases Nat.lt_or_ge k xs.length with hk | hk
  · have h2 := h.2
    rw [List.getLastD_eq_getLast?, List.getLast?_eq_getElem?, List.getElem?_drop]
    rw [List.getLastD_eq_getLast?, List.getLast?_eq_getElem?] at h2
    rw [List.length_drop, show k + (xs.length - k - 1) = xs.length - 1 by omega]
    exact h2
  · rw [List.drop_of_length_le hk]
    decide
theorem nval_shift {xs : List Int} (h : DigN xs) (k : Nat) : nval (xs.drop k) = nval xs / bp k := by
  have h1 := nval_split xs k
  have hp := bp_pos k
  have h2 := nval_nonneg _ (h.take k)
  have h3 : nval (xs.take k) < bp k := by
    have h4 := nval_lt _ (h.take k)
    have h5 := bp_mono (show (xs.take k).length ≤ k by rw [List.length_take]; omega)
    omega
  rw [h1, Int.add_mul_ediv_left _ _ (by omega), Int.ediv_eq_zero_of_lt h2 h3, Int.zero_add]
/-- whether the divisor, shifted, goes into the number -/
def holdsB (N Y : Int) (sh : Nat) : Bool := decide (Y * bp sh ≤ N)
theorem holds_iff (N Y : Int) (sh : Nat) : Y * bp sh ≤ N ↔ Y ≤ N / bp sh := (Int.le_ediv_iff_mul_le (bp_pos sh)).symm

theorem drop_row {w : World} {lo hi : Nat} {A : Option Addr} {n c : Nat} {xs : List Value} (h : Row w lo hi (.slice A n c) xs) (k : Nat) (_hk : k ≤ xs.length) : n = xs.length ∧ Row w lo hi (.slice (A.map (·.add k)) (n - k) (c - k)) (xs.drop k) := by
  obtain ⟨A', c', e, h⟩ := h
  injection e with e1 e2 e3
  subst e1 e2 e3
  refine ⟨rfl, A.map (·.add k), _, by rw [List.length_drop], fun j u hj => ?_⟩
  rw [List.getElem?_drop] at hj
  obtain ⟨a, rfl, h1, h2, h3⟩ := h _ _ hj
  refine ⟨_, rfl, by rw [block_add]; exact h1, by rw [block_add]; exact h2, ?_⟩
  rw [← h3]
  congr 1
  unfold Addr.add
  by_cases hk0 : k = 0 <;> by_cases hj0 : j = 0 <;> simp_all [Nat.add_assoc]

set_option maxHeartbeats 1000000 in
set_option maxRecDepth 100000 in
theorem holds_any (b : Nat) (v : Value) (cur : List Int) (vy : Value) (ys : List Int) (lo hi lo2 hi2 : Nat) (sh : Nat) (w : World) (hcl : cur.length ≤ 1048576) (hyl : ys.length ≤ 1048576) (hsh : sh ≤ 1048576)
    (hc : Trim cur) (hy : Trim ys) (hy0 : 0 < ys.length) (hv : w.cell? ⟨b, 0, none⟩ = some v) (hrc : Row w lo2 hi2 v (intsV cur)) (hcap : ∀ A n c, v = .slice A n c → n ≤ c) (hry : Row w lo hi vy (intsV ys)) :
    Calls Tryz.prog 178 #[.pointer (some ⟨b, 0, none⟩), vy, .int .i64 sh] w fun e w' => e = .returned (.bool (holdsB (nval cur) (nval ys) sh)) ∧ ∃ q, w.drewN q = w' := by
  have hcell := hrc
  obtain ⟨A, c, rfl, hA⟩ := hcell
  have hcp := hcap _ _ _ rfl
  rw [intsV_length] at hrc hv hcp
  clear hA hcap
  by_cases hs : sh < cur.length
  · obtain ⟨-, hd⟩ := drop_row hrc sh (by rw [intsV_length]; omega)
    rw [show (intsV cur).drop sh = intsV (cur.drop sh) by simp [intsV]] at hd
    obtain ⟨a, rfl⟩ : ∃ a, A = some a := by
      obtain ⟨A', c', e, hA⟩ := hrc
      obtain ⟨a, e2, _⟩ := hA 0 _ (intsV_at cur 0 (by omega))
      injection e with e1
      exact ⟨a, e1.trans e2⟩
    have HV := Lib.hid (show holdsB (nval cur) (nval ys) sh = decide (0 ≤ cmpI (nval (cur.drop sh)) (nval ys)) by
      unfold holdsB
      rw [nval_shift hc.1, Bool.eq_iff_iff, decide_eq_true_eq, decide_eq_true_eq, holds_iff]
      unfold cmpI
      constructor
      · intro h; rw [if_neg (by omega)]; split <;> omega
      · intro h
        by_cases hlt : nval cur / bp sh < nval ys
        · rw [if_pos hlt] at h; omega
        · omega)
    have hcm : cmpI (nval (cur.drop sh)) (nval ys) = -1 ∨ cmpI (nval (cur.drop sh)) (nval ys) = 0 ∨ cmpI (nval (cur.drop sh)) (nval ys) = 1 := by unfold cmpI; split; exact .inl rfl; split; exact .inr (.inr rfl); exact .inr (.inl rfl)
    go_enter Tryz.func178, Tryz.ntmps178
    go_wp2_with fail
    refine (compareLimbs_any _ vy (cur.drop sh) ys _ _ _ _ _ (by rw [List.length_drop]; omega) (by omega) (hc.drop sh) hy hd hry).mono ?_
    rintro e w1 ⟨rfl, q, rfl⟩
    have HV2 := HV.out
    generalize cmpI (nval (cur.drop sh)) (nval ys) = z at *
    go_wp2
    go_ret
    exact ⟨ret_bool HV.out.symm, q, rfl⟩
  · have HV := Lib.hid (show holdsB (nval cur) (nval ys) sh = false by
      unfold holdsB
      rw [decide_eq_false_iff_not]
      intro h
      have h1 := nval_lt cur hc.1
      have h2 := bp_mono (show cur.length ≤ sh by omega)
      have h3 := nval_ge ys hy.1 hy.2 hy0
      have h4 := Int.mul_le_mul_of_nonneg_right (show 1 ≤ nval ys by have := bp_pos (ys.length - 1); omega) (show 0 ≤ bp sh by have := bp_pos sh; omega)
      omega)
    go_enter Tryz.func178, Tryz.ntmps178
    go_wp2
    go_ret
    exact ⟨ret_bool HV.out.symm, 0, rfl⟩

theorem NatOn.reads {T : List Nat} {b : Nat} {xs : List Int} {w : World} (h : NatOn T b xs w) : ∃ v, w.cell? ⟨b, 0, none⟩ = some v ∧ Row w 0 w.heap.size v (intsV xs) ∧ (∀ A n c, v = .slice A n c → n ≤ c) := by
  obtain ⟨v, hb, ho, _, _⟩ := h
  refine ⟨v, by rw [Lib.cell_of_heap hb]; rfl, Row.of_own ho, ?_⟩
  rintro A n c rfl
  rcases ho.2 with ⟨h1, h2⟩ | ⟨g, cap, cur, e1, _, _, hn, _⟩
  · injection h1 with h3 h4 h5; omega
  · injection e1 with h3 h4 h5; omega
theorem NatOn.drewN {T : List Nat} {b : Nat} {xs : List Int} {w : World} (h : NatOn T b xs w) (q : Nat) : NatOn T b xs (w.drewN q) := h
theorem Kept.drewN {T : List Nat} {b : Nat} {xs : List Int} {w w' : World} (h : Kept T b xs w w') (q : Nat) : Kept T b xs w (w'.drewN q) := ⟨h.1, ⟨h.2.os, h.2.tape, h.2.output, h.2.size, h.2.block⟩⟩
theorem limbs_small (m n : Int) (h0 : 0 ≤ m) (h : m ≤ n) (k : Nat) (hk : (limbs n.toNat).length ≤ k) : (limbs m.toNat).length ≤ k := Nat.le_trans (limbs_mono h0 h) hk
/-- where the divisor goes in, the number is long enough -/
theorem holds_long {N : Int} {ys : List Int} {sh : Nat} (hN : 0 ≤ N) (hy : Trim ys) (hy0 : 0 < ys.length) (h : nval ys * bp sh ≤ N) : sh + ys.length ≤ (limbs N.toNat).length := by
  have h1 := nval_lt _ (limbs_digN N.toNat)
  rw [limbs_toNat N hN] at h1
  have h2 := nval_ge ys hy.1 hy.2 hy0
  have h3 := Int.mul_le_mul_of_nonneg_right h2 (show 0 ≤ bp sh by have := bp_pos sh; omega)
  rw [← bp_add] at h3
  rcases Nat.lt_or_ge (limbs N.toNat).length (sh + ys.length) with hl | hl
  · have := bp_mono (show (limbs N.toNat).length ≤ ys.length - 1 + sh by omega)
    omega
  · exact hl
/-- one round of takeMost -/
theorem most_next {N0 N t D g : Int} (hD : 0 < D) (h0 : N0 < 1000000000 * D) (hN : N = N0 - t * D) (hg : g * D ≤ N) (_ht : 0 ≤ t) : t + g < 1000000000 ∧ N - g * D = N0 - (t + g) * D ∧ 0 ≤ N - g * D := by
  have e : (t + g) * D = t * D + g * D := Int.add_mul _ _ _
  refine ⟨factor_lt hD (N := N0) (by omega) h0, by omega, by omega⟩
theorem most_done {N0 N t D : Int} (hD : 0 < D) (hN : N = N0 - t * D) (h0 : 0 ≤ N) (h1 : N < D) : t = N0 / D ∧ N = N0 % D := by
  have e : N0 = N + t * D := by omega
  rw [e, Int.add_mul_ediv_right _ _ (by omega), Int.ediv_eq_zero_of_lt h0 h1, Int.add_mul_emod_self_right, Int.emod_eq_of_lt h0 h1]
  exact ⟨by omega, rfl⟩

set_option maxHeartbeats 1000000 in
set_option maxRecDepth 100000 in
theorem takeMost_on (T S : List Nat) (b : Nat) (xs : List Int) (vy : Value) (ys : List Int) (lo hi sh : Nat) (w : World) (hxl : xs.length ≤ 1048576) (hyl : ys.length ≤ 1048576) (hsh : sh ≤ 1048576)
    (hx : Trim xs) (hy : Trim ys) (hy0 : 0 < ys.length) (hN : nval xs < 1000000000 * (nval ys * bp sh)) (hST : ∀ g ∈ S, g ∉ T) (hr : At S (fun w => Row w lo hi vy (intsV ys)) w) (h : NatOn T b xs w) :
    Calls Tryz.prog 165 #[.pointer (some ⟨b, 0, none⟩), vy, .int .i64 sh] w fun e w' =>
      e = .returned (.int .i64 (nval xs / (nval ys * bp sh))) ∧ Kept T b (limbs (nval xs % (nval ys * bp sh)).toNat) w w' := by
  have hx0 := nval_nonneg xs hx.1
  have hxe : xs = limbs (nval xs).toNat := by rw [← trim_limbs xs hx.1, trim_last xs hx.2]
  have hy1 := nval_ge ys hy.1 hy.2 hy0
  have hD : 0 < nval ys * bp sh := Int.mul_pos (by have := bp_pos (ys.length - 1); omega) (bp_pos sh)
  rw [hxe] at h hxl
  have HST := Lib.hid hST
  have HR0 := Lib.hid hr
  have HY := Lib.hid hy
  have HY0 := Lib.hid hy0
  have HN := Lib.hid hN
  have HD := Lib.hid hD
  have HX := Lib.hid hx0
  have HXL := Lib.hid hxl
  clear hx hy hN hST hr hxe hx0 hD hy1 hy0 hxl
  generalize nval xs = N0 at *
  go_enter Tryz.func165, Tryz.ntmps165
  go_wp2
  go_loopg [7] N0.toNat (fun n t wr => ∃ (N tt : Int), t = .int .i64 tt ∧ 0 ≤ tt ∧ tt ≤ 999999999 ∧ Hid (n = N.toNat ∧ 0 ≤ N ∧ N ≤ N0 ∧ N = N0 - tt * (nval ys * bp sh)) ∧ Kept T b (limbs N.toNat) w wr)
  case atStart => exact ⟨N0, 0, rfl, by omega, by omega, Lib.hid ⟨rfl, HX.out, Int.le_refl _, by omega⟩, h, Chg.refl _ _⟩
  case round =>
    obtain ⟨N, tt, rfl, ht0, ht1, HI, hat⟩ := hrel
    obtain ⟨v, hv, hrc, hcp⟩ := NatOn.reads hat.1
    have hrow := HR0.out.chg hat.2 HST.out
    have hlen := limbs_small N N0 HI.out.2.1 HI.out.2.2.1 _ HXL.out
    have hnv := limbs_toNat N HI.out.2.1
    by_cases hge : nval ys * bp sh ≤ N
    · have HB := Lib.hid (show holdsB (nval (limbs N.toNat)) (nval ys) sh = true by unfold holdsB; rw [hnv]; exact decide_eq_true hge)
      have hgl := guess_le (limbs_digN N.toNat) HY.out.1 HY0.out sh
      have hg0 := guess_nonneg (limbs_digN N.toNat) HY.out.1 sh
      rw [hnv] at hgl
      have HNB := Lib.hid (show nval (limbs N.toNat) < 1000000000 * (nval ys * bp sh) by rw [hnv]; have := HN.out; have := HI.out.2.2.1; omega)
      have HLL := Lib.hid (holds_long HI.out.2.1 HY.out HY0.out hge)
      have hmax : max 1 (guessN (limbs N.toNat) ys sh) * (nval ys * bp sh) ≤ N := by
        rcases Int.le_total 1 (guessN (limbs N.toNat) ys sh) with h1 | h1
        · rw [Int.max_eq_right h1]; exact hgl
        · rw [Int.max_eq_left h1]; omega
      have hm1 : 1 ≤ max 1 (guessN (limbs N.toNat) ys sh) := Int.le_max_left _ _
      have hnext := most_next HD.out HN.out HI.out.2.2.2 hmax ht0
      have hmle : max 1 (guessN (limbs N.toNat) ys sh) ≤ 999999999 := by have := hnext.1; omega
      have HM := Lib.hid hmax
      have HNX := Lib.hid hnext
      have htm : tt + max 1 (guessN (limbs N.toNat) ys sh) ≤ 999999999 := by have := hnext.1; omega
      clear hge hgl hmax hnext
      go_wp2_with fail
      refine (holds_any b v _ vy ys _ _ _ _ sh _ hlen hyl hsh (limbs_trim _) HY.out HY0.out hv hrc hcp hrow.here).mono ?_
      rintro e w1 ⟨rfl, q1, rfl⟩
      rw [HB.out]
      go_wp2_with fail
      refine (guess_any b v _ vy ys _ _ _ _ sh (wr.drewN q1) hlen hyl hsh (limbs_digN _) HY.out.1 HY0.out HY.out.2 HNB.out hv (hrc.drewN _) (hrow.here.drewN _)).mono ?_
      rintro e w1 ⟨rfl, q2, rfl⟩
      generalize guessN (limbs N.toNat) ys sh = gz at *
      go_wp2_with fail
      clear hg0
      generalize max 1 gz = g at *
      have hle : g * bp sh * nval ys ≤ nval (limbs N.toNat) := by
        rw [hnv, Int.mul_assoc, Int.mul_comm (bp sh)]
        exact HM.out
      refine (takeTimes_on T S b (limbs N.toNat) vy ys lo hi g sh (wr.drewN (q1 + q2)) hlen HLL.out (by omega) (by omega) (limbs_digN _) HY.out.1 hle HST.out (hrow.drewN _) hat.1).mono ?_
      rintro e w1 ⟨rfl, hat1⟩
      rw [hnv, Int.mul_assoc, Int.mul_comm (bp sh)] at hat1
      have HK := Lib.hid (show Kept T b (limbs (N - g * (nval ys * bp sh)).toNat) w w1 from (hat.drewN (q1 + q2)).trans hat1)
      have hpos : 1 * (nval ys * bp sh) ≤ g * (nval ys * bp sh) := Int.mul_le_mul_of_nonneg_right hm1 (by have := HD.out; omega)
      have HP := Lib.hid hpos
      clear hpos hle hat1 hlen hnv hv hrc hcp hrow
      go_wp2_with fail
      go_roundg (N - g * (nval ys * bp sh)).toNat
      case measure =>
        have h1 := HI.out.1
        have h2 := HP.out
        have h3 := HD.out
        have h4 := HNX.out.2.2
        omega
      case rel => exact ⟨N - g * (nval ys * bp sh), tt + g, rfl, by omega, htm, Lib.hid ⟨rfl, HNX.out.2.2, by have := HI.out.2.2.1; have := HP.out; have := HD.out; omega, HNX.out.2.1⟩, HK.out⟩
    · have HB := Lib.hid (show holdsB (nval (limbs N.toNat)) (nval ys) sh = false by unfold holdsB; rw [hnv]; exact decide_eq_false hge)
      have HE := Lib.hid (most_done HD.out HI.out.2.2.2 HI.out.2.1 (by omega))
      clear hge
      go_wp2_with fail
      refine (holds_any b v _ vy ys _ _ _ _ sh _ hlen hyl hsh (limbs_trim _) HY.out HY0.out hv hrc hcp hrow.here).mono ?_
      rintro e w1 ⟨rfl, q1, rfl⟩
      rw [HB.out]
      go_wp2_with fail
      go_ret
      exact ⟨ret_int HE.out.1, by rw [← HE.out.2]; exact hat.drewN q1⟩

theorem NatAt.chg {T : List Nat} {B b : Nat} {xs : List Int} {w w' : World} (h : NatAt B b xs w) (c : Chg T w w') (hT : ∀ g ∈ T, g < B) : NatAt B b xs w' := by
  obtain ⟨U, hU, hB⟩ := h.on
  exact (hU.at_.chg c (fun g hg hm => by have := hB g hg; have := hT g hm; omega)).here.natAt hB
theorem NatOn.belowB {T : List Nat} {B b : Nat} {xs : List Int} {w w' : World} (h : NatOn T b xs w) (hb : Below B w w') (hT : ∀ g ∈ T, g < B) : NatOn T b xs w' :=
  (h.at_.move (fun g hg => hb.block g (hT g hg)) hb.size).here
theorem chg_below {T : List Nat} {w w1 w2 : World} (c : Chg T w w1) (hb : Below w.heap.size w1 w2) : Chg T w w2 :=
  ⟨hb.os.trans c.os, hb.tape.trans c.tape, hb.output.trans c.output, Nat.le_trans c.size hb.size, fun i hi hn => (hb.block i hi).trans (c.block i hi hn)⟩

/-- a long division that has come down to place k -/
def DivideR (X Y : Int) (M k : Nat) (N : Int) (qs : List Int) : Prop :=
  0 ≤ N ∧ N ≤ X ∧ N < Y * bp k ∧ X = N + Y * nval qs ∧ DigN qs ∧ qs.length ≤ M ∧ ∀ j, j < k → qs.getD j 0 = 0
theorem DivideR.start {xs ys : List Int} (hx : Trim xs) (hy : Trim ys) (hy0 : 0 < ys.length) (M : Nat) : DivideR (nval xs) (nval ys) M ((xs.length : Int) - (ys.length : Int) + 1).toNat (nval xs) [] := by
  have h1 := nval_lt xs hx.1
  have h2 := nval_ge ys hy.1 hy.2 hy0
  refine ⟨nval_nonneg xs hx.1, Int.le_refl _, ?_, (by show _ = _ + nval ys * 0; rw [Int.mul_zero, Int.add_zero]), (fun d hd => by cases hd), Nat.zero_le _, fun j _ => by simp⟩
  generalize hk : ((xs.length : Int) - (ys.length : Int) + 1).toNat = k
  have h3 := Int.mul_le_mul_of_nonneg_right h2 (show 0 ≤ bp k by have := bp_pos k; omega)
  rw [← bp_add] at h3
  have h4 := bp_mono (show xs.length ≤ ys.length - 1 + k by omega)
  omega
theorem getD_set_other (xs : List Int) (p j : Nat) (d : Int) (h : j ≠ p) : (xs.set p d).getD j 0 = xs.getD j 0 := by
  rw [List.getD_eq_getElem?_getD, List.getElem?_set_ne (Ne.symm h), List.getD_eq_getElem?_getD]
theorem getD_pad (xs : List Int) (n j : Nat) : (padL xs n).getD j 0 = xs.getD j 0 := by
  unfold padL
  rw [List.getD_eq_getElem?_getD, List.getD_eq_getElem?_getD]
  rcases Nat.lt_or_ge j xs.length with h | h
  · rw [List.getElem?_append_left h]
  · rw [List.getElem?_append_right h, List.getElem?_replicate, List.getElem?_eq_none h]
    split <;> rfl
theorem DivideR.next {X Y : Int} {M k : Nat} {N : Int} {qs : List Int} (h : DivideR X Y M (k + 1) N qs) (hY : 0 < Y) (hM : k < M) :
    0 ≤ N / (Y * bp k) ∧ N / (Y * bp k) ≤ 999999999 ∧ DivideR X Y M k (N % (Y * bp k)) (addAtL qs k (N / (Y * bp k))) := by
  obtain ⟨h0, hX, h1, h2, h3, h4, h5⟩ := h
  have hD : 0 < Y * bp k := Int.mul_pos hY (bp_pos k)
  have hq0 : 0 ≤ N / (Y * bp k) := Int.ediv_nonneg h0 (by omega)
  have hr0 := Int.emod_nonneg N (show Y * bp k ≠ 0 by omega)
  have hr1 := Int.emod_lt_of_pos N hD
  have he := Int.emod_add_mul_ediv N (Y * bp k)
  rw [bp_succ, Int.mul_left_comm] at h1
  have hq1 : N / (Y * bp k) < 1000000000 := Int.ediv_lt_of_lt_mul hD h1
  have hg := h5 k (Nat.lt_succ_self _)
  have hC : addAtC qs k (N / (Y * bp k)) = 0 := by unfold addAtC; rw [hg]; omega
  have hv := addAt_val qs k (N / (Y * bp k))
  rw [hC, Int.zero_mul, Int.add_zero] at hv
  refine ⟨hq0, by omega, hr0, ?_, hr1, ?_, addAt_dig h3 _ _, by rw [addAt_length]; omega, ?_⟩
  · have := Int.mul_nonneg (show 0 ≤ Y * bp k by omega) hq0
    omega
  · rw [hv, Int.mul_add, h2]
    have e : Y * (N / (Y * bp k) * bp k) = Y * bp k * (N / (Y * bp k)) := by rw [Int.mul_comm (N / (Y * bp k)), Int.mul_assoc]
    rw [e]
    omega
  · intro j hj
    unfold addAtL
    rw [getD_set_other _ _ _ _ (by omega), getD_pad]
    exact h5 j (by omega)
theorem DivideR.done {X Y : Int} {M : Nat} {N : Int} {qs : List Int} (h : DivideR X Y M 0 N qs) (hY : 0 < Y) : N = X % Y ∧ trimL qs = limbs (X / Y).toNat := by
  obtain ⟨h0, hX, h1, h2, h3, _, _⟩ := h
  have h1' : N < Y := by rw [show bp 0 = 1 from rfl, Int.mul_one] at h1; exact h1
  rw [trim_limbs qs h3, h2, Int.add_mul_ediv_left _ _ (by omega), Int.ediv_eq_zero_of_lt h0 h1', Int.zero_add, Int.add_mul_emod_self_left, Int.emod_eq_of_lt h0 h1']
  exact ⟨rfl, rfl⟩

/-- what divide leaves: the quotient, new; the rest in the number itself -/
def DividePost (T : List Nat) (b : Nat) (X Y : Int) (w : World) (e : Ending) (w' : World) : Prop :=
  ∃ v, e = .returned (.tuple #[v, .nilIface]) ∧ w'.ownsRow w.heap.size 3 1 v (limbs (X / Y).toNat).length (intsV (limbs (X / Y).toNat)) ∧ Kept T b (limbs (X % Y).toNat) w w'

set_option maxHeartbeats 1000000 in
set_option maxRecDepth 100000 in
theorem divide_on (T S : List Nat) (b : Nat) (xs : List Int) (vy : Value) (ys : List Int) (lo hi : Nat) (w : World) (hxl : xs.length ≤ 300000) (hyl : ys.length ≤ 300000)
    (hx : Trim xs) (hy : Trim ys) (hy0 : 0 < ys.length) (hST : ∀ g ∈ S, g ∉ T) (hr : At S (fun w => Row w lo hi vy (intsV ys)) w) (h : NatOn T b xs w) :
    Calls Tryz.prog 160 #[.pointer (some ⟨b, 0, none⟩), vy] w (DividePost T b (nval xs) (nval ys) w) := by
  have hxe : xs = limbs (nval xs).toNat := by rw [← trim_limbs xs hx.1, trim_last xs hx.2]
  have hY : 0 < nval ys := by have := nval_ge ys hy.1 hy.2 hy0; have := bp_pos (ys.length - 1); omega
  have hz : ((ys.length : Int) == 0) = false := by rw [beq_eq_false_iff_ne]; omega
  have HST := Lib.hid hST
  have HR0 := Lib.hid hr
  have HY := Lib.hid hy
  have HY0 := Lib.hid hy0
  have HYP := Lib.hid hY
  have hTlt : ∀ g ∈ T, g < w.heap.size := h.at_.lt
  have HTL := Lib.hid hTlt
  have hbl := h.lt
  obtain ⟨v0, hv0, hrc0, hcp0⟩ := NatOn.reads h
  obtain ⟨A0, c0, rfl, _⟩ := hrc0
  rw [intsV_length] at hv0
  have hvy := hr.here
  obtain ⟨A, c, rfl, _⟩ := hvy
  rw [intsV_length] at HR0 ⊢
  have HS := Lib.hid (DivideR.start hx hy hy0 (max xs.length 1))
  have HX0 := Lib.hid (show NatOn T b (limbs (nval xs).toNat) w by rw [← hxe]; exact h)
  have HXL := Lib.hid (show (limbs (nval xs).toNat).length ≤ 300000 by rw [← hxe]; exact hxl)
  clear hx hy hST hr hxe h hcp0 hY hTlt hy0
  go_enter Tryz.func160, Tryz.ntmps160
  have hva : ∀ o, (w.alloc o).cell? ⟨b, 0, none⟩ = some (.slice A0 xs.length c0) := fun o => (World.cell?_alloc_past _ _ _ hbl).trans hv0
  go_wp2
  go_loopw [7] (fun s wr => ∃ (z N : Int) (qs : List Int), s = .int .i64 z ∧ -300000 ≤ z ∧ z + 1 ≤ max xs.length 1 ∧ Hid (DivideR (nval xs) (nval ys) (max xs.length 1) (z + 1).toNat N qs) ∧ NatOn T b (limbs N.toNat) wr ∧ NatAt w.heap.size w.heap.size qs wr ∧ Chg T w wr) (fun s _ => (intOf s + 1).toNat)
  case atStart =>
    refine ⟨_, _, [], rfl, by omega, by have := HY0.out; omega, HS, ?_, NatAt.new (Nat.le_refl _) (World.ownsRow_nil _ _ _ _), Chg.of_below ((Below.refl _ _).alloc (Nat.le_refl _) _)⟩
    exact (HX0.out.at_.below ((Below.refl _ _).alloc (Nat.le_refl _) _)).here
  case round =>
    obtain ⟨z, N, qs, rfl, hz0, hz1, HD, hat, hq, hc⟩ := hrel
    by_cases hge : 0 ≤ z
    · obtain ⟨k, rfl⟩ := Int.eq_ofNat_of_zero_le hge
      have hk1 : ((k : Int) + 1).toNat = k + 1 := by omega
      rw [hk1] at HD
      obtain ⟨hq0, hq1, hnext⟩ := HD.out.next HYP.out (by omega)
      have HN := Lib.hid hnext
      have hN0 := HD.out.1
      have hnv := limbs_toNat N hN0
      have HNB := Lib.hid (show nval (limbs N.toNat) < 1000000000 * (nval ys * bp k) by
        rw [hnv]
        have := HD.out.2.2.1
        rw [bp_succ, Int.mul_left_comm] at this
        exact this)
      have hlen := limbs_small N (nval xs) hN0 HD.out.2.1 _ HXL.out
      have hqsl := HD.out.2.2.2.2.2.1
      have HDQ := Lib.hid HD.out.2.2.2.2.1
      have hrow := HR0.out.chg hc HST.out
      clear hge hnext hk1
      go_wp2_with fail
      refine (takeMost_on T S b (limbs N.toNat) _ ys lo hi k wr (by omega) (by omega) (by omega) (limbs_trim _) HY.out HY0.out HNB.out HST.out hrow hat).mono ?_
      rintro e w1 ⟨rfl, hat1⟩
      rw [hnv] at hat1 ⊢
      have hqa := hq.chg hat1.2 HTL.out
      have hc1 := hc.trans hat1.2
      have hon1 := hat1.1
      have HKI := Lib.hid (show (((k : Nat) : Int) - 1 + 1).toNat = k by omega)
      generalize N / (nval ys * bp k) = q at *
      generalize N % (nval ys * bp k) = N' at *
      clear hat1 hat hq hc hrow hnv hN0
      go_wp2_with fail
      refine (addAt_any w.heap.size w.heap.size qs k q _ (by omega) (by omega) hq0 (by omega) HDQ.out hqa).mono ?_
      rintro e w2 ⟨rfl, hq2, hb2⟩
      have hon2 := NatOn.belowB hon1 hb2 HTL.out
      have hc2 := chg_below hc1 hb2
      clear hqa hon1 hc1
      go_wp2
      go_roundw
      case rel => exact ⟨(k : Int) - 1, N', _, rfl, by omega, by omega, by rw [HKI.out]; exact HN, hon2, hq2, hc2⟩
      case measure => simp [intOf]
    · have HE := Lib.hid (show (z + 1).toNat = 0 by omega)
      rw [HE.out] at HD
      have HF := Lib.hid (HD.out.done HYP.out)
      have hqsl := HD.out.2.2.2.2.2.1
      go_wp2_with fail
      refine (natTrim_any w.heap.size w.heap.size qs _ (by omega) hq).mono ?_
      rintro e w1 ⟨rfl, hq1, hb1⟩
      have hon1 := NatOn.belowB hat hb1 HTL.out
      have hc1 := chg_below hc hb1
      rw [HF.out.2] at hq1
      obtain ⟨_, v, hvb, hown, _⟩ := hq1
      have hcv : w1.cell? ⟨w.heap.size, 0, none⟩ = some v := by rw [Lib.cell_of_heap hvb]; rfl
      have HO := Lib.hid hown
      have HB := Lib.hid hvb
      clear hvb hown
      go_wp2
      go_ret2
      exact ⟨v, rfl, HO.out, by rw [← HF.out.1]; exact hon1, hc1⟩
set_option maxHeartbeats 400000 in
set_option maxRecDepth 100000 in
theorem divide_zero (b : Nat) (A : Option Addr) (c : Nat) (x : Value) (w : World) (hs : w.cell? ⟨1, 0, none⟩ = some x) :
    Calls Tryz.prog 160 #[.pointer (some ⟨b, 0, none⟩), .slice A 0 c] w fun e w' => e = .returned (.tuple #[.slice none 0 0, x]) ∧ ∃ q, w.drewN q = w' := by
  go_enter Tryz.func160, Tryz.ntmps160
  go_wp2
  go_quiet (fail)
  go_wp2
  go_ret2
  exact ⟨rfl, _, rfl⟩
/-- the limbs' row with the blocks on which it leans -/
theorem NatOn.rowAt {T : List Nat} {b : Nat} {xs : List Int} {w : World} (h : NatOn T b xs w) : ∃ v, w.cell? ⟨b, 0, none⟩ = some v ∧ At T (fun w' => Row w' 0 w.heap.size v (intsV xs)) w := by
  have hat := h.at_
  obtain ⟨v, hb, ho, _, rfl⟩ := h
  refine ⟨v, by rw [Lib.cell_of_heap hb]; rfl, Row.of_own ho, hat.lt, fun w' hk => ?_⟩
  have hr := Row.of_own ho
  obtain ⟨_, ⟨rfl, _⟩ | ⟨g, cap, cur, rfl, _⟩⟩ := ho
  · obtain ⟨A, c, e, h⟩ := hr
    injection e with e1 e2 e3
    subst e1
    refine ⟨none, c, by rw [← e2, ← e3], fun j u hj => ?_⟩
    obtain ⟨a, e4, _⟩ := h j u hj
    cases e4
  · obtain ⟨A, c, e, h⟩ := hr
    injection e with e1 e2 e3
    subst e1
    refine ⟨some ⟨g, 0, none⟩, c, by rw [← e2, ← e3], fun j u hj => ?_⟩
    obtain ⟨a, e4, k1, k2, k3⟩ := h j u hj
    cases e4
    refine ⟨_, rfl, k1, k2, ?_⟩
    rw [← k3]
    have hg := hk g (by simp [Value.ownBlock])
    unfold World.cell?
    rw [block_add, hg]
end Go.Proofs.YtofehcpapdlcnabGreatDoor

namespace Go.Proofs.YtofehcpapdlcnabGreatDoor
open Go.RowKit

theorem Below.of_chg {T : List Nat} {B : Nat} {w w1 w2 : World} (hb : Below B w w1) (c : Chg T w1 w2) (hB : B ≤ w1.heap.size) (hT : ∀ g ∈ T, B ≤ g) : Below B w w2 := below_chg hb c hB hT
theorem ok_trim {xs : List Int} (h : natOkB xs = true) : Trim xs := ok_dig h
/-- a row at hand, with blocks below B -/
theorem Row.onB {w : World} {lo hi B : Nat} {v : Value} {xs : List Value} (h : Row w lo hi v xs) (hB : hi ≤ B) : ∃ S, At S (fun w => Row w lo hi v xs) w ∧ ∀ g ∈ S, g < B := by
  obtain ⟨S, h1, h2⟩ := h.on
  exact ⟨S, h1, fun g hg => by have := (h2 g hg).2; omega⟩

set_option maxHeartbeats 1000000 in
set_option maxRecDepth 100000 in
theorem implNatDiv_any (va vb : Value) (a b : List Int) (la ha lb hb_ : Nat) (w : World) (hal : a.length ≤ 1048576) (hbl : b.length ≤ 1048576) (_hha : ha ≤ w.heap.size) (hhb : hb_ ≤ w.heap.size)
    (hra : Row w la ha va (intsV a)) (hrb : Row w lb hb_ vb (intsV b)) (hs : Sen w) :
    Calls Tryz.prog 146 #[va, vb] w (TwoRows (divN a b).1 (divN a b).2 w) := by
  by_cases oa : natOkB a = true
  · by_cases ob : natOkB b = true
    · have ha50 := (natOk_parts oa).2.1
      have hb50 := (natOk_parts ob).2.1
      have OA := Lib.hid oa
      have OB := Lib.hid ob
      by_cases h0 : 0 < b.length
      · have HV := Lib.hid (show divN a b = (limbs (nval a / nval b).toNat, limbs (nval a % nval b).toNat) by unfold divN; rw [if_pos ⟨oa, ob, h0⟩])
        have H0 := Lib.hid h0
        clear h0
        go_enter Tryz.func146, Tryz.ntmps146
        go_wp2_with fail
        refine (implNatOk_same va a la ha _ (by omega) hra).mono ?_
        rintro e w' ⟨rfl, rfl⟩
        rw [oa]
        go_wp2_with fail
        refine (implNatOk_same vb b lb hb_ _ (by omega) hrb).mono ?_
        rintro e w' ⟨rfl, rfl⟩
        rw [ob]
        clear oa ob
        go_wp2_with fail
        refine (copyNat_any va a la ha _ hal hra).mono ?_
        rintro e w1 ⟨bn, rfl, hat, b1⟩
        obtain ⟨T, hT, hTB⟩ := hat.on
        obtain ⟨S, hS, hSB⟩ := (hrb.below b1 hhb).onB hhb
        have hTlt := hT.at_.lt
        have HTB := Lib.hid hTB
        have HTL := Lib.hid hTlt
        have hst : ∀ g ∈ S, g ∉ T := fun g hg hm => by have := hSB g hg; have := hTB g hm; omega
        have HST := Lib.hid hst
        clear hSB hTB hst hTlt
        go_wp2_with fail
        refine (divide_on T S bn a vb b lb hb_ _ (by omega) (by omega) (ok_trim OA.out) (ok_trim OB.out) H0.out HST.out hS hT).mono ?_
        rintro e w2 ⟨v2, rfl, o2, hk2⟩
        have b2 : Below w.heap.size w w2 := Below.of_chg b1 hk2.2 b1.size HTB.out
        obtain ⟨es, hes⟩ := hs.below b2
        go_wp2_with fail
        refine (is_nil es _).mono ?_
        rintro e w' ⟨rfl, rfl⟩
        have hon := hk2.1
        obtain ⟨v3, hb3, o3, _, hTe⟩ := hon
        have hc3 : w2.cell? ⟨bn, 0, none⟩ = some v3 := by rw [Lib.cell_of_heap hb3]; rfl
        have HO3 := Lib.hid o3
        have HO2 := Lib.hid o2
        have HTE := Lib.hid hTe
        clear o3 o2 hTe hb3 hk2
        go_wp2
        go_quiet (fail)
        go_wp2
        go_ret2
        have hz1 := b1.size
        refine ⟨v2, v3, rfl, ?_, ?_, ?_, below_drewN b2 _⟩
        · rw [HV.out]
          exact own_base HO2.out hz1
        · rw [HV.out]
          exact own_raise HO3.out (fun g hg => HTB.out g (by rw [HTE.out, hg]; simp))
        · intro x y hx hy hxy
          have h1 := (own_lt HO2.out hx).1
          have h2 := HTL.out y (by rw [HTE.out, hy]; simp)
          omega
      · have HV := Lib.hid (show divN a b = ([], []) by unfold divN; rw [if_neg (fun h => h0 h.2.2)])
        obtain rfl : b = [] := List.eq_nil_of_length_eq_zero (by omega)
        have hrb0 := hrb
        obtain ⟨Ab, cb, rfl, _⟩ := hrb0
        clear h0
        go_enter Tryz.func146, Tryz.ntmps146
        go_wp2_with fail
        refine (implNatOk_same va a la ha _ (by omega) hra).mono ?_
        rintro e w' ⟨rfl, rfl⟩
        rw [oa]
        go_wp2_with fail
        refine (implNatOk_same _ [] lb hb_ _ (by simp) hrb).mono ?_
        rintro e w' ⟨rfl, rfl⟩
        rw [ob]
        clear oa ob
        go_wp2_with fail
        refine (copyNat_any va a la ha _ hal hra).mono ?_
        rintro e w1 ⟨bn, rfl, hat, b1⟩
        obtain ⟨es, hes⟩ := hs.below b1
        go_wp2_with fail
        refine (divide_zero bn Ab cb _ _ hes).mono ?_
        rintro e w2 ⟨rfl, q, rfl⟩
        go_wp2_with fail
        refine (is_same es _).mono ?_
        rintro e w' ⟨rfl, rfl⟩
        go_wp2
        go_ret2
        rw [HV.out]
        exact two_nil (below_drewN b1 _)
    · have ob' : natOkB b = false := by simpa using ob
      have HV := Lib.hid (show divN a b = ([], []) by unfold divN; rw [if_neg (fun h => ob h.2.1)])
      clear ob
      go_enter Tryz.func146, Tryz.ntmps146
      go_wp2_with fail
      refine (implNatOk_same va a la ha _ (by omega) hra).mono ?_
      rintro e w' ⟨rfl, rfl⟩
      rw [oa]
      go_wp2_with fail
      refine (implNatOk_same vb b lb hb_ _ (by omega) hrb).mono ?_
      rintro e w' ⟨rfl, rfl⟩
      rw [ob']
      go_wp2
      go_ret2
      rw [HV.out]
      exact two_nil (Below.refl _ _)
  · have oa' : natOkB a = false := by simpa using oa
    have HV := Lib.hid (show divN a b = ([], []) by unfold divN; rw [if_neg (fun h => oa h.1)])
    clear oa
    go_enter Tryz.func146, Tryz.ntmps146
    go_wp2_with fail
    refine (implNatOk_same va a la ha _ (by omega) hra).mono ?_
    rintro e w' ⟨rfl, rfl⟩
    rw [oa']
    go_wp2
    go_ret2
    rw [HV.out]
    exact two_nil (Below.refl _ _)
/-- the two numbers of Euclid's algorithm -/
def EuclS (w : World) (G n : Nat) (x y : Value) (wr : World) : Prop :=
  ∃ (X Y bx by_ : Nat) (Tx Ty : List Nat), n = Y ∧ Nat.gcd X Y = G ∧ (limbs X).length ≤ 50 ∧ (limbs Y).length ≤ 50 ∧ x = .pointer (some ⟨bx, 0, none⟩) ∧ y = .pointer (some ⟨by_, 0, none⟩) ∧
    NatOn Tx bx (limbs X) wr ∧ NatOn Ty by_ (limbs Y) wr ∧ (∀ g ∈ Ty, g ∉ Tx) ∧ (∀ g ∈ Tx, w.heap.size ≤ g) ∧ (∀ g ∈ Ty, w.heap.size ≤ g) ∧ Below w.heap.size w wr
set_option maxHeartbeats 1000000 in
set_option maxRecDepth 100000 in
theorem implNatGcd_any (va vb : Value) (a b : List Int) (la ha lb hb_ : Nat) (w : World) (hal : a.length ≤ 1048576) (hbl : b.length ≤ 1048576) (hhb : hb_ ≤ w.heap.size)
    (hra : Row w la ha va (intsV a)) (hrb : Row w lb hb_ vb (intsV b)) (hs : Sen w) :
    Calls Tryz.prog 145 #[va, vb] w (NewInts (gcdN a b) w) := by
  by_cases oa : natOkB a = true
  · by_cases ob : natOkB b = true
    · have HV := Lib.hid (show gcdN a b = limbs (Nat.gcd (nval a).toNat (nval b).toNat) by unfold gcdN; rw [if_pos ⟨oa, ob⟩])
      have LA := Lib.hid (natOk_limbs oa)
      have LB := Lib.hid (natOk_limbs ob)
      have ha50 := (natOk_parts oa).2.1
      have hb50 := (natOk_parts ob).2.1
      go_enter Tryz.func145, Tryz.ntmps145
      go_wp2_with fail
      refine (implNatOk_same va a la ha _ (by omega) hra).mono ?_
      rintro e w' ⟨rfl, rfl⟩
      rw [oa]
      go_wp2_with fail
      refine (implNatOk_same vb b lb hb_ _ (by omega) hrb).mono ?_
      rintro e w' ⟨rfl, rfl⟩
      rw [ob]
      clear oa ob
      go_wp2_with fail
      refine (copyNat_any va a la ha _ hal hra).mono ?_
      rintro e w1 ⟨bx, rfl, hatx, b1⟩
      go_wp2_with fail
      refine (copyNat_any vb b lb hb_ _ hbl (hrb.below b1 hhb)).mono ?_
      rintro e w2 ⟨by_, rfl, haty, b2⟩
      obtain ⟨Tx, hTx, hBx⟩ := hatx.on
      obtain ⟨Ty, hTy, hBy⟩ := haty.on
      have hz := b1.size
      have HS : Hid (EuclS w (Nat.gcd (nval a).toNat (nval b).toNat) (nval b).toNat (.pointer (some ⟨bx, 0, none⟩)) (.pointer (some ⟨by_, 0, none⟩)) w2) := Lib.hid
        ⟨(nval a).toNat, (nval b).toNat, bx, by_, Tx, Ty, rfl, rfl, by rw [← LA.out]; exact ha50, by rw [← LB.out]; exact hb50, rfl, rfl, by rw [← LA.out]; exact (hTx.at_.below b2).here, by rw [← LB.out]; exact hTy,
          fun g hg hm => by have := hBy g hg; have := hTx.at_.lt g hm; omega, hBx, fun g hg => by have := hBy g hg; omega, Below.next b1 b2⟩
      clear hTx hTy hBx hBy hatx haty hz
      go_wp2
      go_loopg [5, 6] (nval b).toNat (fun n x y wr => EuclS w (Nat.gcd (nval a).toNat (nval b).toNat) n x y wr)
      case atStart => exact HS.out
      case round =>
        clear HS b1 b2
        obtain ⟨X, Y, bx, by_, Tx, Ty, hn, hG, hX, hY, rfl, rfl, hx, hy, hap, hBx, hBy, hb⟩ := hrel
        have HNE := Lib.hid hn
        have HG := Lib.hid hG
        have HAP := Lib.hid hap
        have HBX := Lib.hid hBx
        have HBY := Lib.hid hBy
        obtain ⟨v, hcv, hrow⟩ := NatOn.rowAt hy
        clear hn hG hap hBx hBy
        by_cases hpos : 0 < Y
        · have hlen : 0 < (limbs Y).length := by rw [limbs_pos Y (by omega)]; simp
          go_wp2_with fail
          refine (divide_on Tx Ty bx (limbs X) v (limbs Y) 0 wr.heap.size wr (by omega) (by omega) (limbs_trim X) (limbs_trim Y) hlen HAP.out hrow hx).mono ?_
          rintro e w3 ⟨q, rfl, _, hk⟩
          rw [limbs_val, limbs_val] at hk
          have b3 : Below w.heap.size w w3 := Below.of_chg hb hk.2 hb.size HBX.out
          have hy3 := (hy.at_.chg hk.2 HAP.out).here
          obtain ⟨es, hes⟩ := hs.below b3
          rw [show ((X : Int) % (Y : Int)).toNat = X % Y by omega] at hk
          have hx3 := hk.1
          clear hk hx hy hb hrow hcv
          go_wp2_with fail
          refine (is_nil es _).mono ?_
          rintro e w' ⟨rfl, rfl⟩
          have hmod := Nat.mod_lt X hpos
          have hml : (limbs (X % Y)).length ≤ 50 := Nat.le_trans (by have := limbs_mono (m := ((X % Y : Nat) : Int)) (n := (Y : Int)) (by omega) (by omega); rw [Int.toNat_natCast, Int.toNat_natCast] at this; exact this) hY
          have HR : Hid (EuclS w (Nat.gcd (nval a).toNat (nval b).toNat) (X % Y) (.pointer (some ⟨by_, 0, none⟩)) (.pointer (some ⟨bx, 0, none⟩)) w3) := Lib.hid
            ⟨Y, X % Y, by_, bx, Ty, Tx, rfl, (gcd_step X Y).trans HG.out, hY, hml, rfl, rfl, hy3, hx3, apart_symm HAP.out, HBY.out, HBX.out, b3⟩
          clear hx3 hy3 b3
          go_wp2
          go_roundg (X % Y)
          case measure => rw [HNE.out]; exact hmod
          case rel => exact HR.out
        · obtain rfl : Y = 0 := by omega
          have hv0 : ∃ A c, v = .slice A 0 c := by
            obtain ⟨A, c, e, _⟩ := hrow.here
            rw [limbs_none] at e
            exact ⟨A, c, e⟩
          obtain ⟨A0, c0, rfl⟩ := hv0
          obtain ⟨es, hes⟩ := hs.below hb
          obtain ⟨u, hbu, ou, _, hTe⟩ := hx
          have hcu : wr.cell? ⟨bx, 0, none⟩ = some u := by rw [Lib.cell_of_heap hbu]; rfl
          have HU := Lib.hid ou
          have HTE := Lib.hid hTe
          have HGX := Lib.hid (show Nat.gcd (nval a).toNat (nval b).toNat = X by rw [← HG.out, Nat.gcd_zero_right])
          clear ou hTe hbu
          go_wp2_with fail
          refine (divide_zero bx A0 c0 _ _ hes).mono ?_
          rintro e w3 ⟨rfl, q, rfl⟩
          go_wp2_with fail
          refine (is_same es _).mono ?_
          rintro e w' ⟨rfl, rfl⟩
          go_wp2
          go_ret
          exact ⟨u, rfl, by rw [HV.out, HGX.out]; exact own_raise HU.out (fun g hg => HBX.out g (by rw [HTE.out, hg]; simp)), below_drewN hb q⟩
    · have ob' : natOkB b = false := by simpa using ob
      have HV := Lib.hid (show gcdN a b = [] by unfold gcdN; rw [if_neg (fun h => ob h.2)])
      clear ob
      go_enter Tryz.func145, Tryz.ntmps145
      go_wp2_with fail
      refine (implNatOk_same va a la ha _ (by omega) hra).mono ?_
      rintro e w' ⟨rfl, rfl⟩
      rw [oa]
      go_wp2_with fail
      refine (implNatOk_same vb b lb hb_ _ (by omega) hrb).mono ?_
      rintro e w' ⟨rfl, rfl⟩
      rw [ob']
      go_wp2
      go_ret
      rw [HV.out]
      exact new_nil (Below.refl _ _)
  · have oa' : natOkB a = false := by simpa using oa
    have HV := Lib.hid (show gcdN a b = [] by unfold gcdN; rw [if_neg (fun h => oa h.1)])
    clear oa
    go_enter Tryz.func145, Tryz.ntmps145
    go_wp2_with fail
    refine (implNatOk_same va a la ha _ (by omega) hra).mono ?_
    rintro e w' ⟨rfl, rfl⟩
    rw [oa']
    go_wp2
    go_ret
    rw [HV.out]
    exact new_nil (Below.refl _ _)
end Go.Proofs.YtofehcpapdlcnabGreatDoor

namespace Go.Proofs.YtofehcpapdlcnabGreatDoor
open Go.RowKit

set_option maxHeartbeats 400000 in
set_option maxRecDepth 100000 in
theorem implIntOk_any (v : Value) (x : SI) (w : World) (hl : x.2.length ≤ 1048576) (h : RdS w v x) :
    Calls Tryz.prog 94 #[v] w fun e w' => e = .returned (.bool (okS x)) ∧ Below w.heap.size w w' := by
  obtain ⟨n, xs⟩ := x
  obtain ⟨u, rfl, hp⟩ := h
  obtain ⟨A, c, rfl⟩ := row_form hp
  rw [intsV_length] at hp ⊢
  simp only at hl hp ⊢
  have hbx : Below w.heap.size w (w.alloc (.cells #[.bool n, .slice A xs.length c] 29)) := below_al (Below.refl _ _) _
  have HV := Lib.hid (show okS (n, xs) = (natOkB xs && (!n || decide (0 < xs.length))) from rfl)
  by_cases ok : natOkB xs = true
  · rw [ok] at HV
    go_enter Tryz.func94, Tryz.ntmps94
    go_wp2_with fail
    refine (implNatOk_same _ xs 0 w.heap.size _ (by omega) (hp.below hbx (Nat.le_refl _))).mono ?_
    rintro e w1 ⟨rfl, rfl⟩
    rw [ok]
    by_cases hz : xs.length = 0
    · have hb : ((xs.length : Int) == 0) = true := by rw [hz]; rfl
      have hd : decide (0 < xs.length) = false := decide_eq_false (by omega)
      rw [hd] at HV
      clear hz hd
      cases n <;>
      · go_wp2
        go_ret
        exact ⟨ret_bool (by rw [HV.out]; rfl), hbx⟩
    · have hb : ((xs.length : Int) == 0) = false := by rw [beq_eq_false_iff_ne]; omega
      have hd : decide (0 < xs.length) = true := decide_eq_true (by omega)
      rw [hd] at HV
      clear hz hd
      cases n <;>
      · go_wp2
        go_ret
        exact ⟨ret_bool (by rw [HV.out]; rfl), hbx⟩
  · have ok' : natOkB xs = false := by simpa using ok
    rw [ok'] at HV
    clear ok
    go_enter Tryz.func94, Tryz.ntmps94
    go_wp2_with fail
    refine (implNatOk_same _ xs 0 w.heap.size _ (by omega) (hp.below hbx (Nat.le_refl _))).mono ?_
    rintro e w1 ⟨rfl, rfl⟩
    rw [ok']
    go_wp2
    go_ret
    exact ⟨ret_bool (by rw [HV.out]; rfl), hbx⟩

theorem Below.drew1 {B : Nat} {w w1 : World} (h : Below B w w1) : Below B w w1.drew := ⟨h.os, h.tape, h.output, h.size, h.block⟩
end Go.Proofs.YtofehcpapdlcnabGreatDoor
