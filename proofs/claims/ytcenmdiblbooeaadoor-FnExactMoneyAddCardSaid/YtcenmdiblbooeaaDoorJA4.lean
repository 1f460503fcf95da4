/-
  What addAt, addTimes, takeAt, take and trim of impl.nat do to a number of the call's own.
  What addTimes and take of impl.nat do to a number of the call's own.
  What NatAdd, NatSub and NatMul of package impl return.
  Chapter 5 of package impl: what its functions on signed numbers return.
  Chapter 5 of package impl: products, sums and differences.
  Chapter 5 of package impl: sums and differences.
  Chapter 5 of package impl: the signed number of an int.
  Chapter 5 of package impl: the number of a signed one, its order and its sign.
-/
import Derived.Deep.LoopGhost
import Derived.Deep.RegionHeld3
import Derived.Deep.DeepCutAuto
import Derived.Deep.Cut
import Derived.Deep.CutBlock
import Derived.Test.YtcenmdiblbooeaaDoorJA3
namespace Go.Proofs.YtcenmdiblbooeaaDoor
open Go.RowKit

/-- what a method leaves: the number, and all below B as it was -/
def LeftX (K : NatK) (B b : Nat) (xs : List Int) (w w' : World) : Prop := NatX K B b xs w' ∧ Below B w w'
abbrev Left (B b : Nat) (xs : List Int) (w w' : World) : Prop := LeftX natK B b xs w w'
theorem zeros_step (xs : List Int) (k : Nat) : xs ++ List.replicate k 0 ++ [(0 : Int)] = xs ++ List.replicate (k + 1) 0 := by
  rw [List.append_assoc, List.replicate_succ']
theorem zeros_pad (xs : List Int) (k p : Nat) (h : xs.length + k ≤ p + 1 ∨ k = 0) (h2 : p < xs.length + k) : xs ++ List.replicate k 0 = padL xs (p + 1) := by
  unfold padL
  rw [show p + 1 - xs.length = k by omega]
theorem intsV_append (xs ys : List Int) : intsV (xs ++ ys) = intsV xs ++ intsV ys := by simp [intsV]

/-- a store into the limbs of a nat -/
theorem NatX.stored {K : NatK} {B b g cap : Nat} {xs : List Int} {w : World} (hB : B ≤ b) (hb : w.heap[b]? = some (.cells (.slice (some ⟨g, 0, none⟩) xs.length cap :: K.rest).toArray K.ty (0, 0)))
    (hown : w.ownsRow B 3 1 (.slice (some ⟨g, 0, none⟩) xs.length cap) xs.length (intsV xs)) (p : Nat) (d : Int) :
    LeftX K B b (xs.set p d) w (w.setCell ⟨g, p, none⟩ (.int .i64 d)) ∧ (w.setCell ⟨g, p, none⟩ (.int .i64 d)).heap[b]? = some (.cells (.slice (some ⟨g, 0, none⟩) xs.length cap :: K.rest).toArray K.ty (0, 0)) ∧
      (w.setCell ⟨g, p, none⟩ (.int .i64 d)).ownsRow B 3 1 (.slice (some ⟨g, 0, none⟩) (xs.set p d).length cap) (xs.set p d).length (intsV (xs.set p d)) := by
  have hne := Lib.ownBlock_ne hown hb K.ne
  have hgb : b ≠ g := fun e => hne (by simp [Value.ownBlock, e])
  obtain ⟨ho, hg⟩ := hown.stored p (.int .i64 d)
  have hlt := own_lt hown (g := g) rfl
  have hbs : B ≤ w.heap.size := by omega
  have hb2 : (w.setCell ⟨g, p, none⟩ (.int .i64 d)).heap[b]? = some (.cells (.slice (some ⟨g, 0, none⟩) xs.length cap :: K.rest).toArray K.ty (0, 0)) := (Below.heap_setCell _ _ _ _ hgb).trans hb
  have hl : (xs.set p d).length = xs.length := List.length_set
  rw [intsV_set] at ho
  refine ⟨⟨⟨hB, _, hb2, by rw [hl]; exact ho, hne⟩, (Below.refl _ _).setCell (p := ⟨g, p, none⟩) hlt.1 _⟩, hb2, by rw [hl]; exact ho⟩

set_option maxHeartbeats 1000000 in
set_option maxRecDepth 100000 in
theorem addAt_any {K : NatK} (B b : Nat) (xs : List Int) (p : Nat) (v : Int) (w : World) (hl : xs.length ≤ 1048576) (hp : p ≤ 1048576) (hv0 : 0 ≤ v) (hv1 : v ≤ 1000000000000000000) (hd : DigN xs) (h : NatX K B b xs w) :
    Calls Tryd.prog 133 #[.pointer (some ⟨b, 0, none⟩), .int .i64 p, .int .i64 v] w fun e w' => e = .returned (.int .i64 (addAtC xs p v)) ∧ LeftX K B b (addAtL xs p v) w w' := by
  obtain ⟨i0, hi0, hz0, hz1, hz2⟩ := info_parts intInfo
  have HD := Lib.hid hd
  clear hd
  go_enter Tryd.func133, Tryd.ntmps133
  go_wp2
  go_loopg [] (p + 1 - xs.length) (fun n wr => ∃ k : Nat, Hid (xs.length + k ≤ p + 1 ∨ k = 0) ∧ Hid (n = p + 1 - (xs.length + k)) ∧ NatX K B b (xs ++ List.replicate k 0) wr ∧ Below B w wr)
  case atStart => exact ⟨0, Lib.hid (Or.inr rfl), Lib.hid (by omega), by simpa using h, Below.refl _ _⟩
  case round =>
    obtain ⟨k, HK, HN, hat, hb1⟩ := hrel
    have hlt := hat.lt
    obtain ⟨hB, u, hbk, hown, hne⟩ := hat
    have hlen : (xs ++ List.replicate k (0 : Int)).length = xs.length + k := by simp
    have hxk : xs.length + k ≤ 1048577 := by rcases HK.out with h | h <;> omega
    rw [hlen] at hown
    by_cases hc : xs.length + k ≤ p
    · obtain ⟨A, c, rfl⟩ := own_len hown
      have c1 : wr.cell? ⟨b, 0, none⟩ = some (.slice A (xs.length + k) c) := NatX.cell hbk
      have HB := Lib.hid hbk
      have HE := Lib.hid hne
      clear hbk hne hlen
      go_wp2_with (at_builtin; refine wpList_append_own _ rfl _ _ 23 rfl B 3 i0 (.int .i64 0) 1 8 Tryd.underlying23 hi0 hz0 hz1 hz2 rfl (by decide) _ _ _ rfl (own_alloc hown _) ⟨wr.heap.size, 0, none⟩ 1 1 [.int .i64 0] rfl rfl (one_new _ _ _) ?c2 ?c3 ?c4 ?c5 ?_)
      case c2 => first | (intro u hu; simp at hu; subst hu; rfl) | rfl
      case c3 => unfold maxLen; omega
      case c4 => omega
      case c5 => simp; omega
      intro v1 w1 hown1 hg1 _
      have hb2 : w1.heap[b]? = some (.cells (.slice A (xs.length + k) c :: K.rest).toArray K.ty (0, 0)) := by
        rw [hg1.block b (by simp; omega) (fun e => HE.out e.symm), Below.heap_alloc _ _ _ hlt]
        exact HB.out
      have d1 : w1.cell? ⟨b, 0, none⟩ = some (.slice A (xs.length + k) c) := NatX.cell hb2
      have f1 : w1.frozen? ⟨b, 0, none⟩ = false := Lib.frozen_of_heap hb2 0
      have hb3 : Below B w w1 := (hb1.alloc (by omega) _).grown hg1 (by simp; omega) (fun k hk => (own_lt hown hk).1)
      obtain ⟨A1, cc1, rfl⟩ := own_len hown1
      have hput := NatX.put (ys := xs ++ List.replicate (k + 1) 0) hB hb2 (by rw [← zeros_step, intsV_append]; simpa [intsV, Nat.add_assoc] using hown1)
      have HB2 := Lib.hid hb2
      clear hb2 c1
      go_wp2
      go_roundg (p + 1 - (xs.length + (k + 1)))
      case measure => have := HN.out; omega
      case rel => exact ⟨k + 1, Lib.hid (by omega), Lib.hid rfl, hput, hb3.setCell (p := ⟨b, 0, none⟩) hB _⟩
    · have HP := Lib.hid (zeros_pad xs k p HK.out (by omega))
      obtain ⟨g, cap, rfl, hg1, hg2, hg3⟩ := own_form hown (by omega)
      have c1 : wr.cell? ⟨b, 0, none⟩ = some (.slice (some ⟨g, 0, none⟩) (xs.length + k) cap) := NatX.cell hbk
      have hpl : p < (padL xs (p + 1)).length := by rw [padL_length]; omega
      have hcell := hown.cellAt p (by omega)
      rw [HP.out, intsV_at _ p hpl, padL_at] at hcell
      have hfr := hown.frozenAt p
      have hdg := getD_dig HD.out p
      have hs : xs.length + k = (padL xs (p + 1)).length := by rw [← HP.out, hlen]
      have HST := Lib.hid (NatX.stored (xs := padL xs (p + 1)) hB (by rw [← hs]; exact hbk) (by rw [← hs, ← HP.out]; exact hown) p ((v + xs.getD p 0) % 1000000000))
      have HC := Lib.hid (show addAtC xs p v = (v + xs.getD p 0) / 1000000000 from rfl)
      have HL := Lib.hid (show addAtL xs p v = (padL xs (p + 1)).set p ((v + xs.getD p 0) % 1000000000) from rfl)
      clear hown hbk hs hlen hne
      generalize xs.getD p 0 = dg at hcell hdg HST HC HL
      have hdg0 := hdg.1
      have hdg1 := hdg.2
      clear hdg
      go_wp2
      go_ret
      exact ⟨ret_int HC.out.symm, by rw [HL.out]; exact ⟨HST.out.1.1, hb1.trans HST.out.1.2⟩⟩

/-! ### a number of the call's own with the blocks on which it leans -/
/-- the nat at block b; T: its block and that of its limbs -/
def NatOnX (K : NatK) (T : List Nat) (b : Nat) (xs : List Int) (w : World) : Prop :=
  ∃ v, w.heap[b]? = some (.cells (v :: K.rest).toArray K.ty (0, 0)) ∧ w.ownsRow 0 3 1 v xs.length (intsV xs) ∧ v.ownBlock ≠ some b ∧ T = b :: v.ownBlock.toList
/-- what a method leaves that keeps the blocks -/
def KeptX (K : NatK) (T : List Nat) (b : Nat) (xs : List Int) (w w' : World) : Prop := NatOnX K T b xs w' ∧ Chg T w w'
abbrev NatOn (T : List Nat) (b : Nat) (xs : List Int) (w : World) : Prop := NatOnX natK T b xs w
abbrev Kept (T : List Nat) (b : Nat) (xs : List Int) (w w' : World) : Prop := KeptX natK T b xs w w'
theorem NatOnX.lt {K : NatK} {T : List Nat} {b : Nat} {xs : List Int} {w : World} (h : NatOnX K T b xs w) : b < w.heap.size := by
  obtain ⟨v, hb, _⟩ := h
  exact (Array.getElem?_eq_some_iff.1 hb).1
theorem NatOnX.mem {K : NatK} {T : List Nat} {b : Nat} {xs : List Int} {w : World} (h : NatOnX K T b xs w) : b ∈ T := by
  obtain ⟨v, _, _, _, rfl⟩ := h
  simp
theorem NatOnX.at_ {K : NatK} {T : List Nat} {b : Nat} {xs : List Int} {w : World} (h : NatOnX K T b xs w) : At T (NatOnX K T b xs) w := by
  have hh := h
  obtain ⟨v, hb, ho, hne, rfl⟩ := h
  refine ⟨hh, fun g hg => ?_, fun w' hk => ⟨v, (hk b (by simp)).trans hb, own_stays ho fun g hg => hk g (by simp [hg]), hne, rfl⟩⟩
  rcases List.mem_cons.1 hg with rfl | hg
  · exact (Array.getElem?_eq_some_iff.1 hb).1
  · exact (own_lt ho (by simpa using hg)).2
theorem NatX.on {K : NatK} {B b : Nat} {xs : List Int} {w : World} (h : NatX K B b xs w) : ∃ T, NatOnX K T b xs w ∧ ∀ g ∈ T, B ≤ g := by
  obtain ⟨hB, v, hb, ho, hne⟩ := h
  refine ⟨_, ⟨v, hb, own_zero ho, hne, rfl⟩, fun g hg => ?_⟩
  rcases List.mem_cons.1 hg with rfl | hg
  · exact hB
  · exact (own_lt ho (by simpa using hg)).1
theorem own_raise {w : World} {base n : Nat} {e : TypeId} {v : Value} {xs : List Value} (h : w.ownsRow 0 e 1 v n xs) (hb : ∀ g, v.ownBlock = some g → base ≤ g) : w.ownsRow base e 1 v n xs := by
  obtain ⟨hl, h | ⟨g, cap, cur, rfl, _, r⟩⟩ := h
  · exact ⟨hl, .inl h⟩
  · exact ⟨hl, .inr ⟨g, cap, cur, rfl, hb g rfl, r⟩⟩
theorem NatOnX.natAt {K : NatK} {T : List Nat} {B b : Nat} {xs : List Int} {w : World} (h : NatOnX K T b xs w) (hT : ∀ g ∈ T, B ≤ g) : NatX K B b xs w := by
  obtain ⟨v, hb, ho, hne, rfl⟩ := h
  exact ⟨hT b (by simp), v, hb, own_raise ho fun g hg => hT g (by simp [hg]), hne⟩
theorem KeptX.left {K : NatK} {T : List Nat} {B b : Nat} {xs : List Int} {w w' : World} (h : KeptX K T b xs w w') (hB : B ≤ w.heap.size) (hT : ∀ g ∈ T, B ≤ g) : LeftX K B b xs w w' :=
  ⟨h.1.natAt hT, below_chg (Below.refl _ _) h.2 hB hT⟩
theorem KeptX.trans {K : NatK} {T : List Nat} {b : Nat} {xs ys : List Int} {w w1 w2 : World} (h : KeptX K T b xs w w1) (k : KeptX K T b ys w1 w2) : KeptX K T b ys w w2 := ⟨k.1, h.2.trans k.2⟩
theorem NatX.size {K : NatK} {B b : Nat} {xs : List Int} {w : World} (h : NatX K B b xs w) : B ≤ w.heap.size := by
  have := h.lt
  have := h.1
  omega
theorem NatOnX.put {K : NatK} {T : List Nat} {b : Nat} {v v' : Value} {ys : List Int} {w : World} (hb : w.heap[b]? = some (.cells (v :: K.rest).toArray K.ty (0, 0))) (hown : w.ownsRow 0 3 1 v' ys.length (intsV ys)) (hT : T = b :: v'.ownBlock.toList) :
    NatOnX K T b ys (w.setCell ⟨b, 0, none⟩ v') := by
  obtain ⟨_, u, h1, h2, h3⟩ := NatX.put (Nat.zero_le b) hb hown
  have e : u = v' := by
    have : (w.setCell ⟨b, 0, none⟩ v').heap[b]? = some (.cells (v' :: K.rest).toArray K.ty (0, 0)) := by simp [World.setCell, Array.getElem?_modify, hb]
    rw [this] at h1
    simpa using h1.symm
  subst e
  exact ⟨_, h1, h2, h3, hT⟩
/-- a store into the limbs -/
theorem NatOnX.stored {K : NatK} {b g cap : Nat} {xs : List Int} {w : World} (hb : w.heap[b]? = some (.cells (.slice (some ⟨g, 0, none⟩) xs.length cap :: K.rest).toArray K.ty (0, 0)))
    (hown : w.ownsRow 0 3 1 (.slice (some ⟨g, 0, none⟩) xs.length cap) xs.length (intsV xs)) (hne : (Value.slice (some ⟨g, 0, none⟩) xs.length cap).ownBlock ≠ some b) (p : Nat) (d : Int) :
    KeptX K [b, g] b (xs.set p d) w (w.setCell ⟨g, p, none⟩ (.int .i64 d)) ∧ (w.setCell ⟨g, p, none⟩ (.int .i64 d)).heap[b]? = some (.cells (.slice (some ⟨g, 0, none⟩) xs.length cap :: K.rest).toArray K.ty (0, 0)) ∧
      (w.setCell ⟨g, p, none⟩ (.int .i64 d)).ownsRow 0 3 1 (.slice (some ⟨g, 0, none⟩) (xs.set p d).length cap) (xs.set p d).length (intsV (xs.set p d)) := by
  have hgb : b ≠ g := fun e => hne (by simp [Value.ownBlock, e])
  obtain ⟨ho, hg⟩ := hown.stored p (.int .i64 d)
  have hb2 : (w.setCell ⟨g, p, none⟩ (.int .i64 d)).heap[b]? = some (.cells (.slice (some ⟨g, 0, none⟩) xs.length cap :: K.rest).toArray K.ty (0, 0)) := (Below.heap_setCell _ _ _ _ hgb).trans hb
  have hl : (xs.set p d).length = xs.length := List.length_set
  rw [intsV_set] at ho
  exact ⟨⟨⟨_, hb2, by rw [hl]; exact ho, hne, rfl⟩, (Chg.refl _ _).setCell (p := ⟨g, p, none⟩) (by simp) _⟩, hb2, by rw [hl]; exact ho⟩

set_option maxHeartbeats 1000000 in
set_option maxRecDepth 100000 in
theorem takeAt_on {K : NatK} (T : List Nat) (b : Nat) (xs : List Int) (p : Nat) (v : Int) (w : World) (hl : xs.length ≤ 1048576) (hp : p < xs.length) (hv0 : 0 ≤ v) (hv1 : v ≤ 1000000000000000000) (hd : DigN xs) (h : NatOnX K T b xs w) :
    Calls Tryd.prog 140 #[.pointer (some ⟨b, 0, none⟩), .int .i64 p, .int .i64 v] w fun e w' => e = .returned (.int .i64 (takeAtC xs p v)) ∧ KeptX K T b (takeAtL xs p v) w w' := by
  have hdg := hd.at_ p hp
  have hg : xs.getD p 0 = xs[p] := by rw [List.getD_eq_getElem?_getD, List.getElem?_eq_getElem hp]; rfl
  have HL := Lib.hid (show takeAtL xs p v = xs.set p ((xs[p] - v) % 1000000000) by rw [← hg]; rfl)
  have HC := Lib.hid (show takeAtC xs p v = -((xs[p] - v) / 1000000000) by rw [← hg]; rfl)
  clear hg hd
  obtain ⟨u, hbk, hown, hne, hT⟩ := h
  obtain ⟨g, cap, rfl, hg1, hg2, hg3⟩ := own_form hown (by omega)
  have hT2 : T = [b, g] := hT
  subst hT2
  have c1 : w.cell? ⟨b, 0, none⟩ = some (.slice (some ⟨g, 0, none⟩) xs.length cap) := NatX.cell hbk
  have hcell := hown.cellAt p (by omega)
  rw [intsV_at _ p hp] at hcell
  have hfr := hown.frozenAt p
  have hgb : ¬ b = g := fun e => hne (by simp [Value.ownBlock, e])
  obtain ⟨hs1, hk1, ho1⟩ := NatOnX.stored hbk hown hne p (xs[p] - v % 1000000000)
  have HS1 := Lib.hid hs1
  have hl1 : (xs.set p (xs[p] - v % 1000000000)).length = xs.length := List.length_set
  have HS2 := Lib.hid (NatOnX.stored (xs := xs.set p (xs[p] - v % 1000000000)) (by rw [hl1]; exact hk1) ho1 (by rw [hl1]; exact hne) p (xs[p] - v % 1000000000 + 1000000000))
  rw [List.set_set] at HS2
  clear hown hbk hne hs1 hk1 ho1 hl1 hT
  generalize xs[p] = dg at hcell hdg HS1 HS2 HC HL
  have hdg0 := hdg.1
  have hdg1 := hdg.2
  clear hdg
  by_cases hc : v % 1000000000 ≤ dg
  · have HC2 := Lib.hid (show takeAtC xs p v = v / 1000000000 by rw [HC.out]; omega)
    have HL2 := Lib.hid (show takeAtL xs p v = xs.set p (dg - v % 1000000000) by rw [HL.out]; congr 1; omega)
    clear HC HL
    go_enter Tryd.func140, Tryd.ntmps140
    go_wp2
    go_ret
    exact ⟨ret_int HC2.out.symm, by rw [HL2.out]; exact HS1.out⟩
  · have HC2 := Lib.hid (show takeAtC xs p v = v / 1000000000 + 1 by rw [HC.out]; omega)
    have HL2 := Lib.hid (show takeAtL xs p v = xs.set p (dg - v % 1000000000 + 1000000000) by rw [HL.out]; congr 1; omega)
    clear HC HL
    go_enter Tryd.func140, Tryd.ntmps140
    go_wp2
    go_ret
    exact ⟨ret_int HC2.out.symm, by rw [HL2.out]; exact HS1.out.trans HS2.out.1⟩

set_option maxHeartbeats 1000000 in
set_option maxRecDepth 100000 in
theorem natTrim_on {K : NatK} (T : List Nat) (b : Nat) (xs : List Int) (w : World) (hl : xs.length ≤ 1048576) (h : NatOnX K T b xs w) :
    Calls Tryd.prog 141 #[.pointer (some ⟨b, 0, none⟩)] w fun e w' => e = .returned (.tuple #[]) ∧ KeptX K T b (trimL xs) w w' := by
  have hTm := h.mem
  have HT0 := Lib.hid hTm
  clear hTm
  obtain ⟨v, hbk, hown, hne, hT⟩ := h
  obtain ⟨A, c, e1, hA⟩ := Row.of_own hown
  rw [intsV_length] at e1
  subst e1
  have c1 : w.cell? ⟨b, 0, none⟩ = some (.slice A xs.length c) := NatX.cell hbk
  have f1 : w.frozen? ⟨b, 0, none⟩ = false := Lib.frozen_of_heap hbk 0
  have hcap : xs.length ≤ c := by
    rcases hown.2 with ⟨h1, h2⟩ | ⟨g, cap, cur, e1, _, _, hn, _⟩
    · omega
    · injection e1 with _ _ e3; omega
  have HA := Lib.hid hA
  have HB := Lib.hid hbk
  have HO := Lib.hid hown
  have HTT : Hid (∀ k, T = b :: (Value.slice A k c).ownBlock.toList) := Lib.hid (by intro k; rw [hT]; cases A <;> rfl)
  clear hA hbk hown hne hT
  go_enter Tryd.func141, Tryd.ntmps141
  go_wp2
  go_loop [2] (fun n => ∃ k : Nat, k ≤ xs.length ∧ n = .int .i64 ((k : Int) - 1) ∧ Hid (∀ j (h : j < xs.length), k ≤ j → xs[j] = 0)) (fun n => (intOf n + 1).toNat)
  case atStart => exact ⟨xs.length, Nat.le_refl _, rfl, Lib.hid (fun j h hj => absurd h (by omega))⟩
  case round =>
    obtain ⟨k, hk, rfl, HZ⟩ := hrel
    by_cases h0 : 0 < k
    · obtain ⟨m, rfl⟩ : ∃ m, k = m + 1 := ⟨k - 1, by omega⟩
      have hlt : m < xs.length := by omega
      obtain ⟨a, rfl, _, _, hca⟩ := HA.out m _ (intsV_at xs m hlt)
      have hm1 : ((m + 1 : Nat) : Int) - 1 = (m : Int) := by omega
      rw [hm1]
      clear hm1 h0
      by_cases hz : xs[m] = 0
      · have hzb : (xs[m] == 0) = true := by rw [beq_iff_eq]; exact hz
        have HN : Hid (∀ j (h : j < xs.length), m ≤ j → xs[j] = 0) := Lib.hid (fun j h hj => by
          by_cases e : j = m
          · subst e; exact hz
          · exact HZ.out j h (by omega))
        clear hz
        go_wp2
        go_round
        case rel => exact ⟨m, by omega, rfl, HN⟩
        case measure => simp [intOf]
      · have hzb : (xs[m] == 0) = false := by rw [beq_eq_false_iff_ne]; exact hz
        have HT := Lib.hid (trim_prefix xs (m + 1) hk HZ.out (fun _ _ => hz))
        have HP := Lib.hid (NatOnX.put (ys := xs.take (m + 1)) (v' := .slice (some a) (m + 1) c) HB.out (by
          rw [← intsV_take, List.length_take, show min (m + 1) xs.length = m + 1 from by omega]
          exact own_take (m + 1) hk HO.out) (HTT.out _))
        clear hz
        go_wp2
        go_end0
        exact ⟨rfl, by rw [HT.out]; exact ⟨HP.out, (Chg.refl _ _).setCell (p := ⟨b, 0, none⟩) HT0.out _⟩⟩
    · obtain rfl : k = 0 := by omega
      have HT := Lib.hid (trim_prefix xs 0 hk HZ.out (fun _ h => absurd h (by omega)))
      have HP := Lib.hid (NatOnX.put (ys := xs.take 0) (v' := .slice A 0 c) HB.out (by
          rw [← intsV_take, List.length_take, Nat.zero_min]
          exact own_take 0 hk HO.out) (HTT.out _))
      go_wp2
      go_end0
      exact ⟨rfl, by rw [HT.out]; exact ⟨HP.out, (Chg.refl _ _).setCell (p := ⟨b, 0, none⟩) HT0.out _⟩⟩
theorem natTrim_any {K : NatK} (B b : Nat) (xs : List Int) (w : World) (hl : xs.length ≤ 1048576) (h : NatX K B b xs w) :
    Calls Tryd.prog 141 #[.pointer (some ⟨b, 0, none⟩)] w fun e w' => e = .returned (.tuple #[]) ∧ LeftX K B b (trimL xs) w w' := by
  obtain ⟨T, hT, hB⟩ := h.on
  refine (natTrim_on T b xs w hl hT).mono ?_
  rintro e w' ⟨rfl, hk⟩
  exact ⟨rfl, hk.left h.size hB⟩
end Go.Proofs.YtcenmdiblbooeaaDoor

namespace Go.Proofs.YtcenmdiblbooeaaDoor
open Go.RowKit

/-- how many limbs addTimes reaches -/
def lenM (x y sh : Nat) : Nat := if y = 0 then x else max x (sh + y)
theorem lenM_succ (x k sh : Nat) : max (lenM x k sh) (sh + k + 1) = lenM x (k + 1) sh := by
  unfold lenM
  rw [if_neg (show ¬ k + 1 = 0 by omega)]
  by_cases h : k = 0
  · rw [if_pos h]; omega
  · rw [if_neg h]; omega
theorem lenM_le (x y sh : Nat) (hx : x ≤ 300000) (hy : y ≤ 300000) (hs : sh ≤ 300000) : lenM x y sh ≤ 600000 := by unfold lenM; split <;> omega
theorem take_val_succ (ys : List Int) (k : Nat) (h : k < ys.length) : nval (ys.take (k + 1)) = nval (ys.take k) + bp k * ys[k] := by
  rw [List.take_succ_eq_append_getElem h, nval_append, List.length_take, show min k ys.length = k by omega]
  show _ + bp k * (ys[k] + 1000000000 * 0) = _
  rw [Int.mul_zero, Int.add_zero]
/-- one step of the first loop -/
def TimesR (xs ys : List Int) (f : Int) (sh k : Nat) (cur : List Int) (cr : Int) : Prop :=
  DigN cur ∧ cur.length = lenM xs.length k sh ∧ nval cur + cr * bp (sh + k) = nval xs + f * bp sh * nval (ys.take k) ∧ (k = 0 → cr = 0)
theorem TimesR.start (xs ys : List Int) (f : Int) (sh : Nat) (hd : DigN xs) : TimesR xs ys f sh 0 xs 0 := by
  refine ⟨hd, rfl, ?_, fun _ => rfl⟩
  rw [List.take_zero]
  show nval xs + 0 * _ = nval xs + f * bp sh * 0
  rw [Int.zero_mul, Int.mul_zero]
theorem TimesR.next {xs ys : List Int} {f : Int} {sh k : Nat} {cur : List Int} {cr : Int} (h : TimesR xs ys f sh k cur cr) (hk : k < ys.length) :
    TimesR xs ys f sh (k + 1) (addAtL cur (sh + k) (ys[k] * f + cr)) (addAtC cur (sh + k) (ys[k] * f + cr)) := by
  obtain ⟨h1, h2, h3, _⟩ := h
  refine ⟨addAt_dig h1 _ _, ?_, ?_, fun h => absurd h (by omega)⟩
  · rw [addAt_length, h2, lenM_succ]
  · have e := addAt_val cur (sh + k) (ys[k] * f + cr)
    have e2 : ys[k] * f * bp (sh + k) = f * bp sh * (bp k * ys[k]) := by
      rw [bp_add]
      simp only [Int.mul_assoc, Int.mul_comm, Int.mul_left_comm]
    rw [show sh + (k + 1) = sh + k + 1 by omega, e, take_val_succ ys k hk, Int.add_mul, Int.mul_add, e2]
    omega
theorem carry_bound {cur : List Int} {p : Nat} {v : Int} (h : DigN cur) (h0 : 0 ≤ v) (h1 : v ≤ 999999999000000000) : 0 ≤ addAtC cur p v ∧ addAtC cur p v ≤ 999999999 := by
  have hd := getD_dig h p
  unfold addAtC
  omega
/-- one step of the second loop -/
def CarryR (M : Nat) (N : Int) (pl : Nat) (cur : List Int) (cr : Int) : Prop :=
  DigN cur ∧ nval cur + cr * bp pl = N ∧ ((cur.length = M ∧ (cr = 0 ∨ pl ≤ M)) ∨ (cr = 0 ∧ cur.length = M + 1 ∧ bp M ≤ N))
theorem CarryR.len {M pl : Nat} {N cr : Int} {cur : List Int} (h : CarryR M N pl cur cr) : cur.length ≤ M + 1 := by
  obtain ⟨_, _, ⟨h, _⟩ | ⟨_, h, _⟩⟩ := h <;> omega
theorem CarryR.place {M pl : Nat} {N cr : Int} {cur : List Int} (h : CarryR M N pl cur cr) (hc : 0 < cr) : pl ≤ M ∧ cur.length = M := by
  obtain ⟨_, _, ⟨h, h2 | h2⟩ | ⟨h, _⟩⟩ := h
  · omega
  · exact ⟨h2, h⟩
  · omega
theorem CarryR.next {M pl : Nat} {N cr : Int} {cur : List Int} (h : CarryR M N pl cur cr) (hc : 0 < cr) (h1 : cr ≤ 999999999) : CarryR M N (pl + 1) (addAtL cur pl cr) (addAtC cur pl cr) := by
  obtain ⟨hp, hl⟩ := h.place hc
  obtain ⟨hd, hv, _⟩ := h
  have e := addAt_val cur pl cr
  refine ⟨addAt_dig hd _ _, by rw [e]; exact hv, ?_⟩
  by_cases he : pl = M
  · subst he
    obtain ⟨e1, e2⟩ := addAt_new cur pl cr hl.symm hc h1
    rw [e1]
    refine .inr ⟨rfl, by rw [addAt_length]; omega, ?_⟩
    rw [e1, e2, Int.zero_mul, Int.add_zero] at e
    rw [← hv, ← e, nval_append, hl]
    have h2 := nval_nonneg cur hd
    have h3 := bp_pos pl
    have h4 : nval [cr] = cr := by show cr + 1000000000 * 0 = cr; omega
    rw [h4]
    have h5 := Int.mul_le_mul_of_nonneg_left (show 1 ≤ cr by omega) (show 0 ≤ bp pl by omega)
    omega
  · exact .inl ⟨by rw [addAt_length]; omega, .inr (by omega)⟩

/-- what addTimes leaves -/
def TimesPost (K : NatK) (B b : Nat) (xs ys : List Int) (f : Int) (sh : Nat) (w w' : World) : Prop :=
  ∃ zs, LeftX K B b zs w w' ∧ DigN zs ∧ nval zs = nval xs + f * bp sh * nval ys ∧ (zs.length = lenM xs.length ys.length sh ∨ (zs.length = lenM xs.length ys.length sh + 1 ∧ bp (lenM xs.length ys.length sh) ≤ nval zs))

theorem addAt_at {K : NatK} (B b : Nat) (xs : List Int) (p : Nat) (pz v : Int) (w : World) (hl : xs.length ≤ 1048576) (hp : p ≤ 1048576) (hv0 : 0 ≤ v) (hv1 : v ≤ 1000000000000000000) (hd : DigN xs) (h : NatX K B b xs w) (hz : pz = p) :
    Calls Tryd.prog 133 #[.pointer (some ⟨b, 0, none⟩), .int .i64 pz, .int .i64 v] w fun e w' => e = .returned (.int .i64 (addAtC xs p v)) ∧ LeftX K B b (addAtL xs p v) w w' := by
  subst hz
  exact addAt_any B b xs p v w hl hp hv0 hv1 hd h

set_option maxHeartbeats 1000000 in
set_option maxRecDepth 100000 in
theorem addTimes_any {K : NatK} (B b : Nat) (xs : List Int) (vy : Value) (ys : List Int) (lo hi : Nat) (f : Int) (sh : Nat) (w : World) (hxl : xs.length ≤ 300000) (hyl : ys.length ≤ 300000) (hsh : sh ≤ 300000) (hf0 : 0 ≤ f) (hf1 : f ≤ 999999999)
    (hdx : DigN xs) (hdy : DigN ys) (hhi : hi ≤ B) (hr : Row w lo hi vy (intsV ys)) (h : NatX K B b xs w) :
    Calls Tryd.prog 119 #[.pointer (some ⟨b, 0, none⟩), vy, .int .i64 f, .int .i64 sh] w fun e w' => e = .returned (.tuple #[]) ∧ TimesPost K B b xs ys f sh w w' := by
  obtain ⟨A, c, rfl, hA⟩ := hr
  rw [intsV_length]
  have HA := Lib.hid hA
  have HDX := Lib.hid hdx
  have HDY := Lib.hid hdy
  clear hA hdx hdy
  go_enter Tryd.func119, Tryd.ntmps119
  go_wp2
  go_loopw [8, 14] (fun a i wr => ∃ (k : Nat) (cur : List Int) (cr : Int), k ≤ ys.length ∧ i = .int .i64 k ∧ a = .int .i64 cr ∧ 0 ≤ cr ∧ cr ≤ 999999999 ∧ Hid (TimesR xs ys f sh k cur cr) ∧ NatX K B b cur wr ∧ Below B w wr) (fun _ i _ => ys.length - (intOf i).toNat)
  case atStart => exact ⟨0, xs, 0, Nat.zero_le _, rfl, rfl, by omega, by omega, Lib.hid (TimesR.start xs ys f sh HDX.out), h, Below.refl _ _⟩
  case round =>
    obtain ⟨k, cur, cr, hk, rfl, rfl, hc0, hc1, HR, hat, hb1⟩ := hrel
    have hcl : cur.length ≤ 600000 := by rw [HR.out.2.1]; exact lenM_le _ _ _ hxl (by omega) hsh
    by_cases hlt : k < ys.length
    · obtain ⟨p, rfl, _, hpb, hca⟩ := HA.out k _ (intsV_at ys k hlt)
      have hca' : wr.cell? (p.add k) = some (.int .i64 ys[k]) := (hb1.cell (by rw [block_add]; omega)).trans hca
      have hdy := HDY.out.at_ k hlt
      have hd0 := hdy.1
      have hd1 := hdy.2
      have hm0 : 0 ≤ ys[k] * f := Int.mul_nonneg hd0 hf0
      have hm1 : ys[k] * f ≤ 999999998000000001 := by
        have := Int.mul_le_mul hd1 hf1 hf0 (by omega)
        omega
      have HN := Lib.hid (HR.out.next hlt)
      have HCB := Lib.hid (carry_bound (p := sh + k) (v := ys[k] * f + cr) HR.out.1 (by omega) (by omega))
      clear hca hdy
      go_wp2_with fail
      refine (addAt_at B b cur (sh + k) _ _ _ (by omega) (by omega) (by omega) (by omega) HR.out.1 hat (by omega)).mono ?_
      rintro e w1 ⟨rfl, hat1, hb2⟩
      clear hm0 hm1 hd0 hd1
      go_wp2
      go_roundw
      case rel => exact ⟨k + 1, _, _, by omega, by go_num, rfl, HCB.out.1, HCB.out.2, HN, hat1, hb1.trans hb2⟩
      case measure => simp [intOf]; omega
    · obtain rfl : k = ys.length := by omega
      have HC : Hid (CarryR (lenM xs.length ys.length sh) (nval xs + f * bp sh * nval ys) (sh + ys.length) cur cr) := Lib.hid (by
        obtain ⟨h1, h2, h3, h4⟩ := HR.out
        rw [List.take_of_length_le (Nat.le_refl _)] at h3
        refine ⟨h1, h3, .inl ⟨h2, ?_⟩⟩
        by_cases hy : ys.length = 0
        · exact .inl (h4 hy)
        · right
          unfold lenM
          rw [if_neg hy]
          omega)
      have hM := lenM_le xs.length ys.length sh hxl hyl hsh
      clear HR
      go_wp2
      go_loopw [8, 11] (fun a i wr => ∃ (pl : Nat) (cur : List Int) (cr : Int), pl ≤ 600001 ∧ i = .int .i64 pl ∧ a = .int .i64 cr ∧ 0 ≤ cr ∧ cr ≤ 999999999 ∧ Hid (CarryR (lenM xs.length ys.length sh) (nval xs + f * bp sh * nval ys) pl cur cr) ∧ NatX K B b cur wr ∧ Below B w wr) (fun _ i _ => lenM xs.length ys.length sh + 1 - (intOf i).toNat)
      case atStart => exact ⟨sh + ys.length, cur, cr, by omega, by go_num, rfl, hc0, hc1, HC, hat, hb1⟩
      case round =>
        clear hat hb1 HC hc0 hc1 hcl
        obtain ⟨pl, cur, cr, hpl, rfl, rfl, hc0, hc1, HC, hat, hb1⟩ := hrel
        have hcl := HC.out.len
        by_cases hpos : 0 < cr
        · have hplm := (HC.out.place hpos).1
          have HN := Lib.hid (HC.out.next hpos hc1)
          have HCB := Lib.hid (carry_bound (p := pl) (v := cr) HC.out.1 hc0 (by omega))
          go_wp2_with fail
          refine (addAt_any B b cur pl cr _ (by omega) (by omega) (by omega) (by omega) HC.out.1 hat).mono ?_
          rintro e w1 ⟨rfl, hat1, hb2⟩
          go_wp2
          go_roundw
          case rel => exact ⟨pl + 1, _, _, by omega, by go_num, rfl, HCB.out.1, HCB.out.2, HN, hat1, hb1.trans hb2⟩
          case measure => simp [intOf]; omega
        · obtain rfl : cr = 0 := by omega
          go_wp2
          go_end0
          refine ⟨rfl, cur, ⟨hat, hb1⟩, HC.out.1, ?_, ?_⟩
          · have := HC.out.2.1
            rw [Int.zero_mul, Int.add_zero] at this
            exact this
          · obtain ⟨_, h2, h3⟩ := HC.out
            rw [Int.zero_mul, Int.add_zero] at h2
            rcases h3 with h3 | h3
            · exact .inl h3.1
            · exact .inr ⟨h3.2.1, by rw [h2]; exact h3.2.2⟩

/-- a row with the blocks on which it leans -/
theorem Row.on {w : World} {lo hi : Nat} {v : Value} {xs : List Value} (h : Row w lo hi v xs) : ∃ S, At S (fun w => Row w lo hi v xs) w ∧ Within S lo hi := by
  have hh := h
  obtain ⟨A, c, rfl, h⟩ := h
  cases xs with
  | nil => exact ⟨[], ⟨hh, fun g hg => absurd hg (by simp), fun w' _ => Row.nil_ A c⟩, fun g hg => absurd hg (by simp)⟩
  | cons x r =>
    obtain ⟨a, rfl, h1, h2, h3⟩ := h 0 x rfl
    have hlt := cell_lt h3
    rw [block_add] at hlt
    refine ⟨[a.block], ⟨hh, fun g hg => by simp at hg; omega, fun w' hk => ⟨_, c, rfl, fun j u hj => ?_⟩⟩, fun g hg => by simp at hg; omega⟩
    obtain ⟨a', e, k1, k2, k3⟩ := h j u hj
    cases e
    refine ⟨a, rfl, k1, k2, ?_⟩
    rw [← k3]
    have hb := hk a.block (by simp)
    unfold World.cell?
    rw [block_add, hb]

/-- one step of takeTimes -/
def TakeR (xs ys : List Int) (f : Int) (sh k pl : Nat) (cur : List Int) (br : Int) : Prop :=
  DigN cur ∧ cur.length = xs.length ∧ nval cur - br * bp pl = nval xs - f * bp sh * nval (ys.take k)
theorem TakeR.start (xs ys : List Int) (f : Int) (sh : Nat) (hd : DigN xs) : TakeR xs ys f sh 0 (sh + 0) xs 0 := by
  refine ⟨hd, rfl, ?_⟩
  rw [List.take_zero, Int.zero_mul]
  show _ = nval xs - f * bp sh * 0
  rw [Int.mul_zero]
theorem TakeR.next {xs ys : List Int} {f : Int} {sh k : Nat} {cur : List Int} {br : Int} (h : TakeR xs ys f sh k (sh + k) cur br) (hk : k < ys.length) (hl : sh + ys.length ≤ xs.length) :
    TakeR xs ys f sh (k + 1) (sh + (k + 1)) (takeAtL cur (sh + k) (ys[k] * f + br)) (takeAtC cur (sh + k) (ys[k] * f + br)) := by
  obtain ⟨a1, a2, a3⟩ := h
  refine ⟨takeAt_dig a1 _ _, by rw [takeAt_length, a2], ?_⟩
  have e2 : ys[k] * f * bp (sh + k) = f * bp sh * (bp k * ys[k]) := by
    rw [bp_add]
    simp only [Int.mul_assoc, Int.mul_comm, Int.mul_left_comm]
  rw [show sh + (k + 1) = sh + k + 1 by omega, takeAt_val cur (sh + k) _ (by omega), take_val_succ ys k hk, Int.add_mul, Int.mul_add, e2]
  omega
theorem TakeR.next2 {xs ys : List Int} {f : Int} {sh k pl : Nat} {cur : List Int} {br : Int} (h : TakeR xs ys f sh k pl cur br) (hl : pl < xs.length) :
    TakeR xs ys f sh k (pl + 1) (takeAtL cur pl br) (takeAtC cur pl br) := by
  obtain ⟨a1, a2, a3⟩ := h
  refine ⟨takeAt_dig a1 _ _, by rw [takeAt_length, a2], ?_⟩
  rw [takeAt_val cur pl _ (by omega)]
  exact a3
/-- the last borrow finds a limb -/
theorem TakeR.room {xs ys : List Int} {f : Int} {sh pl : Nat} {cur : List Int} {br : Int} (h : TakeR xs ys f sh ys.length pl cur br) (hle : f * bp sh * nval ys ≤ nval xs) (hb : 0 < br) : pl < xs.length := by
  obtain ⟨a1, a2, a3⟩ := h
  rw [List.take_of_length_le (Nat.le_refl _)] at a3
  rcases Nat.lt_or_ge pl xs.length with h | h
  · exact h
  · have h1 := nval_lt cur a1
    have h2 := bp_mono (show cur.length ≤ pl by omega)
    have h3 := bp_pos pl
    have h4 := Int.mul_le_mul_of_nonneg_right (show 1 ≤ br by omega) (show 0 ≤ bp pl by omega)
    omega
theorem TakeR.done {xs ys : List Int} {f : Int} {sh pl : Nat} {cur : List Int} (h : TakeR xs ys f sh ys.length pl cur 0) : trimL cur = limbs (nval xs - f * bp sh * nval ys).toNat := by
  obtain ⟨a1, a2, a3⟩ := h
  rw [List.take_of_length_le (Nat.le_refl _), Int.zero_mul] at a3
  rw [trim_limbs cur a1]
  congr 2
  omega

theorem takeAt_onz {K : NatK} (T : List Nat) (b : Nat) (xs : List Int) (p : Nat) (pz v : Int) (w : World) (hl : xs.length ≤ 1048576) (hp : p < xs.length) (hv0 : 0 ≤ v) (hv1 : v ≤ 1000000000000000000) (hd : DigN xs) (h : NatOnX K T b xs w) (hz : pz = p) :
    Calls Tryd.prog 140 #[.pointer (some ⟨b, 0, none⟩), .int .i64 pz, .int .i64 v] w fun e w' => e = .returned (.int .i64 (takeAtC xs p v)) ∧ KeptX K T b (takeAtL xs p v) w w' := by
  subst hz
  exact takeAt_on T b xs p v w hl hp hv0 hv1 hd h

set_option maxHeartbeats 1000000 in
set_option maxRecDepth 100000 in
theorem takeTimes_on {K : NatK} (T S : List Nat) (b : Nat) (xs : List Int) (vy : Value) (ys : List Int) (lo hi : Nat) (f : Int) (sh : Nat) (w : World) (hxl : xs.length ≤ 1048576) (hyl : sh + ys.length ≤ xs.length) (hf0 : 0 ≤ f) (hf1 : f ≤ 999999999)
    (hdx : DigN xs) (hdy : DigN ys) (hle : f * bp sh * nval ys ≤ nval xs) (hST : ∀ g ∈ S, g ∉ T) (hr : At S (fun w => Row w lo hi vy (intsV ys)) w) (h : NatOnX K T b xs w) :
    Calls Tryd.prog 126 #[.pointer (some ⟨b, 0, none⟩), vy, .int .i64 f, .int .i64 sh] w fun e w' => e = .returned (.tuple #[]) ∧ KeptX K T b (limbs (nval xs - f * bp sh * nval ys).toNat) w w' := by
  have HST := Lib.hid hST
  have HR0 := Lib.hid hr
  obtain ⟨A, c, rfl, _⟩ := hr.here
  rw [intsV_length]
  rw [intsV_length] at HR0
  have HDX := Lib.hid hdx
  have HDY := Lib.hid hdy
  have HLE := Lib.hid hle
  clear hdx hdy hr hST hle
  go_enter Tryd.func126, Tryd.ntmps126
  go_wp2
  go_loopw [8, 14] (fun a i wr => ∃ (k : Nat) (cur : List Int) (br : Int), k ≤ ys.length ∧ i = .int .i64 k ∧ a = .int .i64 br ∧ 0 ≤ br ∧ br ≤ 999999999 ∧ Hid (TakeR xs ys f sh k (sh + k) cur br) ∧ KeptX K T b cur w wr) (fun _ i _ => ys.length - (intOf i).toNat)
  case atStart => exact ⟨0, xs, 0, Nat.zero_le _, rfl, rfl, by omega, by omega, Lib.hid (TakeR.start xs ys f sh HDX.out), h, Chg.refl _ _⟩
  case round =>
    obtain ⟨k, cur, br, hk, rfl, rfl, hc0, hc1, HR, hat⟩ := hrel
    have hcl : cur.length ≤ 1048576 := by rw [HR.out.2.1]; exact hxl
    by_cases hlt : k < ys.length
    · obtain ⟨A', c', e, hA⟩ := (HR0.out.chg hat.2 HST.out).here
      injection e with e1 e2 e3
      subst e1 e3
      clear e2
      obtain ⟨p, rfl, _, hpb, hca⟩ := hA k _ (intsV_at ys k hlt)
      clear hA
      have hdy := HDY.out.at_ k hlt
      have hd0 := hdy.1
      have hd1 := hdy.2
      have hm0 : 0 ≤ ys[k] * f := Int.mul_nonneg hd0 hf0
      have hm1 : ys[k] * f ≤ 999999998000000001 := by
        have := Int.mul_le_mul hd1 hf1 hf0 (by omega)
        omega
      have HN := Lib.hid (HR.out.next hlt hyl)
      have HCB := Lib.hid (takeAt_bound HR.out.1 (sh + k) (ys[k] * f + br) (by omega) (by omega))
      clear hdy
      go_wp2_with fail
      refine (takeAt_onz T b cur (sh + k) _ _ _ hcl (by rw [HR.out.2.1]; omega) (by omega) (by omega) HR.out.1 hat.1 (by omega)).mono ?_
      rintro e w1 ⟨rfl, hat1⟩
      clear hm0 hm1 hd0 hd1
      go_wp2
      go_roundw
      case rel => exact ⟨k + 1, _, _, by omega, by go_num, rfl, HCB.out.1, HCB.out.2, HN, hat.trans hat1⟩
      case measure => simp [intOf]; omega
    · obtain rfl : k = ys.length := by omega
      go_wp2
      go_loopw [8, 11] (fun a i wr => ∃ (pl : Nat) (cur : List Int) (br : Int), pl ≤ xs.length ∧ i = .int .i64 pl ∧ a = .int .i64 br ∧ 0 ≤ br ∧ br ≤ 999999999 ∧ Hid (TakeR xs ys f sh ys.length pl cur br) ∧ KeptX K T b cur w wr) (fun _ i _ => xs.length - (intOf i).toNat)
      case atStart => exact ⟨sh + ys.length, cur, br, hyl, by go_num, rfl, hc0, hc1, HR, hat⟩
      case round =>
        clear hat HR hc0 hc1 hcl
        obtain ⟨pl, cur, br, hpl, rfl, rfl, hc0, hc1, HR, hat⟩ := hrel
        have hcl : cur.length ≤ 1048576 := by rw [HR.out.2.1]; exact hxl
        by_cases hpos : 0 < br
        · have hplm := HR.out.room HLE.out hpos
          have HN := Lib.hid (HR.out.next2 hplm)
          have HCB := Lib.hid (takeAt_bound HR.out.1 pl br (by omega) (by omega))
          go_wp2_with fail
          refine (takeAt_on T b cur pl br _ hcl (by rw [HR.out.2.1]; omega) (by omega) (by omega) HR.out.1 hat.1).mono ?_
          rintro e w1 ⟨rfl, hat1⟩
          go_wp2
          go_roundw
          case rel => exact ⟨pl + 1, _, _, by omega, by go_num, rfl, HCB.out.1, HCB.out.2, HN, hat.trans hat1⟩
          case measure => simp [intOf]; omega
        · obtain rfl : br = 0 := by omega
          have HF := Lib.hid HR.out.done
          go_wp2_with fail
          refine (natTrim_on T b cur _ hcl hat.1).mono ?_
          rintro e w1 ⟨rfl, hat1⟩
          go_wp2
          go_end0
          exact ⟨rfl, by rw [← HF.out]; exact hat.trans hat1⟩
theorem natTake_any {K : NatK} (B b : Nat) (xs : List Int) (vy : Value) (ys : List Int) (lo hi : Nat) (w : World) (hxl : xs.length ≤ 1048576) (hyl : ys.length ≤ xs.length)
    (hdx : DigN xs) (hdy : DigN ys) (hle : nval ys ≤ nval xs) (hhi : hi ≤ B) (hr : Row w lo hi vy (intsV ys)) (h : NatX K B b xs w) :
    Calls Tryd.prog 126 #[.pointer (some ⟨b, 0, none⟩), vy, .int .i64 1, .int .i64 0] w fun e w' => e = .returned (.tuple #[]) ∧ LeftX K B b (limbs (nval xs - nval ys).toNat) w w' := by
  obtain ⟨T, hT, hB⟩ := h.on
  obtain ⟨S, hS, hW⟩ := hr.on
  have e1 : 1 * bp 0 * nval ys = nval ys := by show 1 * 1 * nval ys = nval ys; omega
  refine (takeTimes_on T S b xs vy ys lo hi 1 0 w hxl (by omega) (by omega) (by omega) hdx hdy (by omega) (fun g hg hm => by have := hB g hm; have := (hW g hg).2; omega) hS hT).mono ?_
  rintro e w' ⟨rfl, hk⟩
  rw [e1] at hk
  exact ⟨rfl, hk.left h.size hB⟩
end Go.Proofs.YtcenmdiblbooeaaDoor

namespace Go.Proofs.YtcenmdiblbooeaaDoor
open Go.RowKit

theorem add_limbs {a b zs : List Int} (oa : natOkB a = true) (ob : natOkB b = true) (hd : DigN zs) (hv : nval zs = nval a + 1 * bp 0 * nval b)
    (hl : zs.length = lenM a.length b.length 0 ∨ (zs.length = lenM a.length b.length 0 + 1 ∧ bp (lenM a.length b.length 0) ≤ nval zs)) : zs = limbs (nval a + nval b).toNat := by
  have hv2 : nval zs = nval a + nval b := by
    have : bp 0 = 1 := rfl
    rw [this, Int.one_mul, Int.one_mul] at hv
    exact hv
  have na := nval_nonneg a (natOk_parts oa).1
  have nb := nval_nonneg b (natOk_parts ob).1
  rw [← hv2]
  apply limbs_of_ge zs hd
  intro h0
  rcases hl with hl | ⟨hl, hg⟩
  · unfold lenM at hl
    by_cases hb : b.length = 0
    · rw [if_pos hb] at hl
      have := ok_ge oa (by omega)
      rw [hl]
      omega
    · rw [if_neg hb] at hl
      have h2 := ok_ge ob (by omega)
      by_cases hab : b.length ≤ a.length
      · have h1 := ok_ge oa (by omega)
        rw [hl, show max a.length (0 + b.length) = a.length by omega]
        omega
      · rw [hl, show max a.length (0 + b.length) = b.length by omega]
        omega
  · rw [hl, show lenM a.length b.length 0 + 1 - 1 = lenM a.length b.length 0 by omega]
    exact hg
theorem new_own {w w1 w2 : World} {xs ys : List Int} {v : Value} (h : OwnPost w.heap.size ys w1 (.returned v) w2) (hb : Below w.heap.size w w1) (e : xs = ys) : NewInts xs w (.returned v) w2 := by
  subst e
  obtain ⟨rfl, v', e1, ho⟩ := h
  cases e1
  exact ⟨_, rfl, ho, hb⟩

/-- the cases of bad arguments are told by one lemma of the walk: both are right -/
theorem addN_ok {a b : List Int} (oa : natOkB a = true) (ob : natOkB b = true) : addN a b = natRes (nval a + nval b) := by unfold addN; rw [if_pos ⟨oa, ob⟩]
theorem subN_ok {a b : List Int} (oa : natOkB a = true) (ob : natOkB b = true) : subN a b = natRes (nval a - nval b) := by unfold subN; rw [if_pos ⟨oa, ob⟩]
theorem mulN_ok {a b : List Int} (oa : natOkB a = true) (ob : natOkB b = true) : mulN a b = natRes (nval a * nval b) := by unfold mulN; rw [if_pos ⟨oa, ob⟩]


theorem cmpN_neg {a b : List Int} (oa : natOkB a = true) (ob : natOkB b = true) (h : nval a < nval b) : cmpN a b = -1 := by unfold cmpN; rw [if_pos ⟨oa, ob⟩]; exact cmp_lt h
theorem cmpN_nn {a b : List Int} (oa : natOkB a = true) (ob : natOkB b = true) (h : nval b ≤ nval a) : ¬ cmpN a b < 0 := by
  unfold cmpN
  rw [if_pos ⟨oa, ob⟩]
  unfold cmpI
  rw [if_neg (by omega)]
  split <;> omega
theorem lens_of_le {a b : List Int} (oa : natOkB a = true) (ob : natOkB b = true) (h : nval b ≤ nval a) : b.length ≤ a.length := by
  rcases Nat.lt_or_ge a.length b.length with hl | hl
  · have := nval_short a b (natOk_parts oa).1 (natOk_parts ob).1 hl (natOk_parts ob).2.2
    omega
  · exact hl
theorem limbs_sub_len {a b : List Int} (oa : natOkB a = true) (ob : natOkB b = true) (h : nval b ≤ nval a) : (limbs (nval a - nval b).toNat).length ≤ 50 := by
  have h1 := subL_val a b 0 (natOk_parts oa).1 (natOk_parts ob).1 (lens_of_le oa ob h) (by omega) (by omega) (by omega)
  have h2 := trim_limbs _ h1.2.1
  have h3 := trimL_length (subL a b 0)
  have h4 := (natOk_parts oa).2.1
  rw [h2, h1.1, Int.sub_zero] at h3
  omega


/-- the product so far -/
def MulR (a b : List Int) (i : Nat) (cur : List Int) : Prop :=
  DigN cur ∧ nval cur = nval (a.take i) * nval b ∧ cur.length ≤ i + b.length ∧ (cur.length ≤ i + b.length - 1 ∨ bp (cur.length - 1) ≤ nval cur) ∧ (i = 0 → cur = []) ∧ (b.length = 0 → cur = [])
theorem MulR.start (a b : List Int) : MulR a b 0 [] := by
  refine ⟨(fun d hd => by cases hd), ?_, by simp, .inl (by simp), fun _ => rfl, fun _ => rfl⟩
  rw [List.take_zero]
  show (0 : Int) = 0 * nval b
  rw [Int.zero_mul]
theorem MulR.next {a b cur zs : List Int} {i : Nat} (h : MulR a b i cur) (hi : i < a.length) (hd : DigN zs) (hv : nval zs = nval cur + a[i] * bp i * nval b)
    (hl : zs.length = lenM cur.length b.length i ∨ (zs.length = lenM cur.length b.length i + 1 ∧ bp (lenM cur.length b.length i) ≤ nval zs)) : MulR a b (i + 1) zs := by
  obtain ⟨h1, h2, h3, h4, h5, h6⟩ := h
  have hval : nval zs = nval (a.take (i + 1)) * nval b := by
    rw [hv, h2, take_val_succ a i hi, Int.add_mul, Int.mul_comm a[i]]
  unfold lenM at hl
  by_cases hb : b.length = 0
  · have hb0 : b = [] := List.eq_nil_of_length_eq_zero hb
    have hc0 := h6 hb
    subst hb0
    subst hc0
    rw [if_pos hb] at hl
    have hz : nval zs = 0 := by rw [hval]; exact Int.mul_zero _
    have hzs : zs = [] := by
      rcases hl with hl | ⟨_, hg⟩
      · exact List.eq_nil_of_length_eq_zero hl
      · have := bp_pos (([] : List Int).length)
        omega
    subst hzs
    exact ⟨hd, hval, by simp, .inl (by simp), fun _ => rfl, fun _ => rfl⟩
  · rw [if_neg hb, show max cur.length (i + b.length) = i + b.length by omega] at hl
    refine ⟨hd, hval, by omega, ?_, fun h => absurd h (by omega), fun h => absurd h hb⟩
    rcases hl with hl | ⟨hl, hg⟩
    · exact .inl (by omega)
    · right
      rw [hl, show i + b.length + 1 - 1 = i + b.length by omega]
      exact hg
theorem MulR.done {a b cur : List Int} (h : MulR a b a.length cur) (oa : natOkB a = true) (ob : natOkB b = true) : cur = limbs (nval a * nval b).toNat := by
  obtain ⟨h1, h2, h3, h4, h5, h6⟩ := h
  rw [List.take_of_length_le (Nat.le_refl _)] at h2
  rw [← h2]
  apply limbs_of_ge cur h1
  intro h0
  rcases h4 with h4 | h4
  · have ha : 0 < a.length := by
      rcases Nat.eq_zero_or_pos a.length with e | e
      · rw [h5 e] at h0; simp at h0
      · exact e
    have hb : 0 < b.length := by
      rcases Nat.eq_zero_or_pos b.length with e | e
      · rw [h6 e] at h0; simp at h0
      · exact e
    have ga := ok_ge oa ha
    have gb := ok_ge ob hb
    have pa := bp_pos (a.length - 1)
    have pb := bp_pos (b.length - 1)
    have hm := Int.mul_le_mul ga gb (by omega) (by omega)
    rw [← bp_add, ← h2] at hm
    have := bp_mono (show cur.length - 1 ≤ a.length - 1 + (b.length - 1) by omega)
    omega
  · exact h4

set_option maxHeartbeats 1000000 in
set_option maxRecDepth 100000 in
theorem implNatMul_any (va vb : Value) (a b : List Int) (la ha lb hb : Nat) (w : World) (hal : a.length ≤ 1048576) (hbl : b.length ≤ 1048576) (hha : ha ≤ w.heap.size) (hhb : hb ≤ w.heap.size)
    (hra : Row w la ha va (intsV a)) (hrb : Row w lb hb vb (intsV b)) :
    Calls Tryd.prog 102 #[va, vb] w (NewInts (mulN a b) w) := by
  by_cases oa : natOkB a = true
  · by_cases ob : natOkB b = true
    · have HN := Lib.hid (mulN_ok oa ob)
      have OA := Lib.hid oa
      have OB := Lib.hid ob
      have pa := (natOk_parts oa).2.1
      have pb := (natOk_parts ob).2.1
      have ra := hra
      obtain ⟨A, ca, rfl, hA⟩ := hra
      rw [intsV_length] at ra ⊢
      have HA := Lib.hid hA
      clear hA
      go_enter Tryd.func102, Tryd.ntmps102
      go_wp2_with fail
      refine (implNatOk_same _ a la ha _ (by omega) ra).mono ?_
      rintro e w' ⟨rfl, rfl⟩
      rw [oa]
      go_wp2_with fail
      refine (implNatOk_same vb b lb hb _ (by omega) hrb).mono ?_
      rintro e w' ⟨rfl, rfl⟩
      rw [ob]
      clear oa ob
      go_wp2
      go_loopw [18] (fun i wr => ∃ (k : Nat) (cur : List Int), k ≤ a.length ∧ i = .int .i64 k ∧ Hid (MulR a b k cur) ∧ NatAt w.heap.size w.heap.size cur wr ∧ Below w.heap.size w wr) (fun i _ => a.length - (intOf i).toNat)
      case atStart => exact ⟨0, [], Nat.zero_le _, rfl, Lib.hid (MulR.start a b), NatAt.new (Nat.le_refl _) (World.ownsRow_nil _ _ _ _), (Below.refl _ _).alloc (Nat.le_refl _) _⟩
      case round =>
        obtain ⟨k, cur, hk, rfl, HM, hat, hb1⟩ := hrel
        have hcl : cur.length ≤ 100 := by have := HM.out.2.2.1; omega
        by_cases hlt : k < a.length
        · obtain ⟨p, rfl, _, hpb, hca⟩ := HA.out k _ (intsV_at a k hlt)
          have hca' : wr.cell? (p.add k) = some (.int .i64 a[k]) := (hb1.cell (by rw [block_add]; omega)).trans hca
          have hda := (natOk_parts OA.out).1.at_ k hlt
          have hd0 := hda.1
          have hd1 := hda.2
          clear hca hda
          go_wp2_with fail
          refine (addTimes_any w.heap.size w.heap.size cur vb b lb hb a[k] k _ (by omega) (by omega) (by omega) hd0 hd1 HM.out.1 (natOk_parts OB.out).1 hhb (hrb.below hb1 hhb) hat).mono ?_
          rintro e w2 ⟨rfl, zs, ⟨hat2, hb2⟩, hd, hv, hl⟩
          have HM2 := Lib.hid (HM.out.next hlt hd hv hl)
          clear hd hv hl hd0 hd1
          go_wp2
          go_roundw
          case rel => exact ⟨k + 1, zs, by omega, by go_num, HM2, hat2, hb1.trans hb2⟩
          case measure => simp [intOf]; omega
        · obtain rfl : k = a.length := by omega
          have HZ := Lib.hid (HM.out.done OA.out OB.out)
          go_wp2_with fail
          refine (natResult_any w.heap.size w.heap.size cur _ (by omega) hat).mono ?_
          rintro e w3 hpost
          obtain ⟨rfl, v3, rfl, ho⟩ := hpost
          go_wp2
          go_ret
          exact ⟨_, rfl, by rw [HN.out]; unfold natRes; rw [← HZ.out]; exact ho, hb1⟩
    · have ob' : natOkB b = false := by simpa using ob
      have HN := Lib.hid (show mulN a b = [] by unfold mulN; rw [if_neg (fun h => ob h.2)])
      clear ob
      go_enter Tryd.func102, Tryd.ntmps102
      go_wp2_with fail
      refine (implNatOk_same va a la ha _ (by omega) hra).mono ?_
      rintro e w' ⟨rfl, rfl⟩
      rw [oa]
      go_wp2_with fail
      refine (implNatOk_same vb b lb hb _ (by omega) hrb).mono ?_
      rintro e w' ⟨rfl, rfl⟩
      rw [ob']
      go_wp2
      go_ret
      rw [HN.out]
      exact new_nil (Below.refl _ _)
  · have oa' : natOkB a = false := by simpa using oa
    have HN := Lib.hid (show mulN a b = [] by unfold mulN; rw [if_neg (fun h => oa h.1)])
    clear oa
    go_enter Tryd.func102, Tryd.ntmps102
    go_wp2_with fail
    refine (implNatOk_same va a la ha _ (by omega) hra).mono ?_
    rintro e w' ⟨rfl, rfl⟩
    rw [oa']
    go_wp2
    go_ret
    rw [HN.out]
    exact new_nil (Below.refl _ _)
end Go.Proofs.YtcenmdiblbooeaaDoor

namespace Go.Proofs.YtcenmdiblbooeaaDoor
open Go.RowKit

/-- an integer under construction: its limbs lie at the head of its block, its sign behind them -/
@[reducible] def intK (n : Bool) : NatK := ⟨[.bool n], 104, by decide⟩
theorem NatX.below {K : NatK} {B b : Nat} {xs : List Int} {w w' : World} (h : NatX K B b xs w) (hb : Below w.heap.size w w') : NatX K B b xs w' := by
  have hlt := h.lt
  obtain ⟨hB, v, hk, ho, hne⟩ := h
  exact ⟨hB, v, (hb.block b hlt).trans hk, own_below ho hb, hne⟩
/-- a new integer -/
def NewInteger (x : SI) (w : World) (e : Ending) (w' : World) : Prop :=
  ∃ b, e = .returned (.pointer (some ⟨b, 0, none⟩)) ∧ NatX (intK x.1) w.heap.size b x.2 w' ∧ Below w.heap.size w w'

theorem NatX.sign {m : Bool} {B b : Nat} {xs : List Int} {w : World} (h : NatX (intK m) B b xs w) (n : Bool) : NatX (intK n) B b xs (w.setCell ⟨b, 1, none⟩ (.bool n)) := by
  obtain ⟨hB, v, hk, ho, hne⟩ := h
  refine ⟨hB, v, ?_, own_stays ho fun i hi => Below.heap_setCell _ _ _ _ (fun e => hne (by rw [hi, e])), hne⟩
  simp [World.setCell, Array.getElem?_modify, hk]
set_option maxHeartbeats 1000000 in
set_option maxRecDepth 100000 in
theorem copyInt_any (v : Value) (x : SI) (w : World) (hl : x.2.length ≤ 1048576) (h : RdS w v x) :
    Calls Tryd.prog 125 #[v] w (NewInteger x w) := by
  obtain ⟨u, rfl, hp⟩ := h
  obtain ⟨A, c, rfl⟩ := row_form hp
  rw [intsV_length] at hp ⊢
  have hbx : Below w.heap.size w (w.alloc (.cells #[.bool x.1, .slice A x.2.length c] 30)) := below_al (Below.refl _ _) _
  have kx := box_new w #[.bool x.1, .slice A x.2.length c] 30
  obtain ⟨W0, hW0⟩ : ∃ W0, W0 = w.alloc (.cells #[.bool x.1, .slice A x.2.length c] 30) := ⟨_, rfl⟩
  rw [← hW0] at hbx kx
  have HW := Lib.hid hW0
  have HP := Lib.hid hp
  have c0 := kx.here.cell 0 _ rfl
  have c1 := kx.here.cell 1 _ rfl
  have HBX := Lib.hid hbx
  have KX := Lib.hid kx
  clear hp hW0 kx hbx
  go_enter Tryd.func125, Tryd.ntmps125
  go_wp2_with fail
  rw [← HW.out]
  go_region_with (go_at_call 137; refine (copyNat_any _ x.2 0 w.heap.size _ hl (HP.out.below (Below.drew1 HBX.out) (Nat.le_refl _))).mono ?_; rintro e w3 ⟨b, rfl, hx, b3⟩; obtain ⟨hB, vv, hbk, hown, hne⟩ := hx; obtain ⟨A3, c3, rfl⟩ := own_len hown; have hk3 := ((At.move (w' := W0.drew) KX.out (fun _ _ => rfl) (Nat.le_refl _)).below b3).here; (have d0 := hk3.cell 0 _ rfl); (have d1 := hk3.cell 1 _ rfl); (have cb := NatX.cell hbk); have HO := Lib.hid hown; have HB3 := Lib.hid b3; clear hbk hown hne hB b3 hk3)
  all_goals
    have bb3 := Below.next (Below.drew1 HBX.out) HB3.out
    go_wp2
    go_ret
    exact ⟨_, rfl, NatX.new (K := intK x.1) bb3.size (own_low HO.out (Below.drew1 HBX.out).size), below_al bb3 _⟩

/-- a new signed number; its limbs lie at B or behind it -/
def NewSB (B : Nat) (x : SI) (w : World) (e : Ending) (w' : World) : Prop := ∃ u, e = .returned (.agg #[.bool x.1, u]) ∧ w'.ownsRow B 3 1 u x.2.length (intsV x.2) ∧ Below w.heap.size w w'
set_option maxHeartbeats 1000000 in
set_option maxRecDepth 100000 in
theorem signed_any (n : Bool) (B b : Nat) (xs : List Int) (w : World) (hl : xs.length ≤ 1048576) (h : NatX (intK n) B b xs w) :
    Calls Tryd.prog 91 #[.pointer (some ⟨b, 0, none⟩)] w (NewSB B (mkS n xs) w) := by
  have hcl : (capL xs).length ≤ 50 := by
    unfold capL
    split
    · simp
    · omega
  have HR := Lib.hid (show mkS n xs = (n && decide (0 < (capL xs).length), capL xs) from rfl)
  have hbb := below_al (Below.refl w.heap.size w) (.cells #[.bool false, .slice none 0 0] 30)
  have kr := box_new w #[.bool false, .slice none 0 0] 30
  have hx : NatX (intK n) B b xs (w.alloc (.cells #[.bool false, .slice none 0 0] 30)) := h.below hbb
  obtain ⟨W0, hW0⟩ : ∃ W0, W0 = w.alloc (.cells #[.bool false, .slice none 0 0] 30) := ⟨_, rfl⟩
  rw [← hW0] at hx hbb kr
  have HW := Lib.hid hW0
  clear hW0
  have cn : W0.cell? ⟨b, 1, none⟩ = some (.bool n) := by
    obtain ⟨_, v, hb, _⟩ := hx
    exact NatX.cell1 hb 0 rfl
  have cz0 := kr.here.cell 0 _ rfl
  have cz1 := kr.here.cell 1 _ rfl
  have fz0 := Lib.frozen_of_heap kr.here 0
  have fz1 := Lib.frozen_of_heap kr.here 1
  have HK := Lib.hid kr
  clear kr h
  cases n
  all_goals
    go_enter Tryd.func91, Tryd.ntmps91
    go_wp2_with fail
    rw [← HW.out]
    refine (natResult_any B b xs _ hl hx).mono ?_
    rintro e w1 ⟨rfl, v1, rfl, o1⟩
    obtain ⟨A1, c1, rfl⟩ := own_len o1
    have HR2 := HR.out
    generalize capL xs = ys at *
    have HO := Lib.hid o1
    have HRR := Lib.hid HR2
    clear o1 hx HR2 HR
    go_wp2
    refine bodyPost_ret (v := .agg #[.bool _, .slice A1 ys.length c1]) (by simp [results, Tryd.results91, go_sem, cz0, cz1]; rfl) rfl ?_
    rw [HRR.out]
    have hne := Lib.ownBlock_ne HO.out HK.out.here (by decide)
    refine ⟨.slice A1 ys.length c1, ?_, own_stays HO.out fun i hi => ?_, below_set2 hbb (Nat.le_refl _)⟩
    · first | rfl | simp
    · have : i ≠ w.heap.size := fun e => hne (by rw [hi, e])
      exact (Below.heap_setCell _ _ _ _ this).trans (Below.heap_setCell _ _ _ _ this)

theorem natOk_trim {xs : List Int} (h : natOkB xs = true) : trimL xs = xs := by
  rw [ok_trimL h, ← natOk_limbs h]

end Go.Proofs.YtcenmdiblbooeaaDoor

namespace Go.Proofs.YtcenmdiblbooeaaDoor
open Go.RowKit

theorem capL_short {xs : List Int} (h : xs.length ≤ 50) : capL xs = xs := by unfold capL; rw [if_neg (by omega)]
theorem capL_res (b : Bool) (n : Int) : mkS b (natRes n) = mkS b (limbs n.toNat) := by
  have e : capL (natRes n) = capL (limbs n.toNat) := by
    unfold natRes
    by_cases h : (limbs n.toNat).length ≤ 50
    · rw [capL_short h, capL_short h]
    · rw [show capL (limbs n.toNat) = [] by unfold capL; rw [if_pos (by omega)]]; rfl
  unfold mkS
  rw [e]
theorem natRes_short (n : Int) : (natRes n).length ≤ 50 := by
  unfold natRes capL
  split
  · simp
  · omega
theorem mulN_short (a b : List Int) : (mulN a b).length ≤ 50 := by unfold mulN; split; exact natRes_short _; simp
theorem mulS_mk {x y : SI} (okx : okS x = true) (oky : okS y = true) : mkS (x.1 != y.1) (mulN x.2 y.2) = mulS x y := by
  have px := okS_parts okx
  have py := okS_parts oky
  have h0x := nval_ok px.1
  have h0y := nval_ok py.1
  have h0 := Int.mul_nonneg h0x h0y
  unfold mulS
  rw [if_pos ⟨okx, oky⟩, mulN_ok px.1 py.1, capL_res, mkS_limbs]
  congr 1
  unfold valS
  rw [Int.toNat_of_nonneg h0]
  cases x.1 <;> cases y.1 <;> simp [Int.neg_mul, Int.mul_neg]
/-- an integer laid early into its block, which was zero -/
theorem NatX.early {n : Bool} {g : Nat} {u c0 c1 : Value} {xs : List Int} {W : World} {B0 B : Nat} (hb : BoxAt g #[c0, c1] 104 W) (o : W.ownsRow B 3 1 u xs.length (intsV xs)) (hB : B0 ≤ B) (hg : B0 ≤ g) :
    NatX (intK n) B0 g xs ((W.setCell ⟨g, 0, none⟩ u).setCell ⟨g, 1, none⟩ (.bool n)) := by
  have hne := Lib.ownBlock_ne o hb (by decide)
  have hb' : W.heap[g]? = some (.cells #[c0, c1] 104 (0, 0)) := hb
  refine ⟨hg, u, by simp [World.setCell, Array.getElem?_modify, hb'], own_low (own_stays o fun i hi => ?_) hB, hne⟩
  have : i ≠ g := fun e => hne (by rw [hi, e])
  exact (Below.heap_setCell _ _ _ _ this).trans (Below.heap_setCell _ _ _ _ this)
theorem NatX.late {n : Bool} {u : Value} {xs : List Int} {W : World} {B0 B : Nat} (o : W.ownsRow B 3 1 u xs.length (intsV xs)) (hB : B0 ≤ B) (hW : B0 ≤ W.heap.size) : NatX (intK n) B0 W.heap.size xs (W.alloc (.cells #[u, .bool n] 104)) :=
  NatX.new (K := intK n) hW (own_low o hB)

set_option maxHeartbeats 4000000 in
set_option maxRecDepth 100000 in
theorem implIntMul_any (vx vy : Value) (x y : SI) (w : World) (hlx : x.2.length ≤ 1048576) (hly : y.2.length ≤ 1048576) (hx : OwnS vx x w) (hy : OwnS vy y w) :
    Calls Tryd.prog 73 #[vx, vy] w (NewS (mulS x y) w) := by
  obtain ⟨ux, rfl, hox⟩ := hx
  obtain ⟨uy, rfl, hoy⟩ := hy
  obtain ⟨Ax, cx, rfl⟩ := own_len hox
  obtain ⟨Ay, cy, rfl⟩ := own_len hoy
  obtain ⟨W0, hW0⟩ : ∃ W0, W0 = ((w.alloc (.cells #[.bool x.1, .slice Ax x.2.length cx] 30)).alloc (.cells #[.bool y.1, .slice Ay y.2.length cy] 30)).alloc (.cells #[.bool false, .slice none 0 0] 30) := ⟨_, rfl⟩
  have hbb : Below w.heap.size w W0 := by rw [hW0]; exact below_al (below_al (below_al (Below.refl _ _) _) _) _
  have h3 := alloc3 w (.cells #[.bool x.1, .slice Ax x.2.length cx] 30) (.cells #[.bool y.1, .slice Ay y.2.length cy] 30) (.cells #[.bool false, .slice none 0 0] 30)
  rw [← hW0] at h3
  have kx : At [w.heap.size] (BoxAt w.heap.size #[.bool x.1, .slice Ax x.2.length cx] 30) W0 := box_at h3.1
  have ky : At [w.heap.size + 1] (BoxAt (w.heap.size + 1) #[.bool y.1, .slice Ay y.2.length cy] 30) W0 := box_at h3.2.1
  have kr : At [w.heap.size + 1 + 1] (BoxAt (w.heap.size + 1 + 1) #[.bool false, .slice none 0 0] 30) W0 := box_at h3.2.2.1
  have ox := own_below hox hbb
  have oy := own_below hoy hbb
  have rdx := (OwnS.mk (x := x) (ownI_of ox)).rd
  have HW := Lib.hid hW0
  have cx0 := kx.here.cell 0 _ rfl
  have cx1 := kx.here.cell 1 _ rfl
  clear h3 hox hoy hW0
  by_cases okx : okS x = true
  · go_enter Tryd.func73, Tryd.ntmps73
    go_wp2_with fail
    rw [← HW.out]
    refine (implIntOk_any _ x _ hlx rdx).mono ?_
    rintro e w1 ⟨rfl, b1⟩
    rw [okx]
    have bb1 := Below.next hbb b1
    replace kx := kx.below b1
    replace ky := ky.below b1
    replace kr := kr.below b1
    replace ox := own_below ox b1
    replace oy := own_below oy b1
    have cy0 := ky.here.cell 0 _ rfl
    have cy1 := ky.here.cell 1 _ rfl
    clear rdx cx0 cx1
    go_wp2_with fail
    refine (implIntOk_any _ y w1 hly (OwnS.mk (x := y) (ownI_of oy)).rd).mono ?_
    rintro e w2 ⟨rfl, b2⟩
    have bb2 := Below.next bb1 b2
    replace kx := kx.below b2
    replace ky := ky.below b2
    replace kr := kr.below b2
    replace ox := own_below ox b2
    replace oy := own_below oy b2
    clear cy0 cy1
    by_cases oky : okS y = true
    · rw [oky]
      have HV := Lib.hid (mulS_mk okx oky)
      have cx0 := kx.here.cell 0 _ rfl
      have cx1 := kx.here.cell 1 _ rfl
      have cy0 := ky.here.cell 0 _ rfl
      have cy1 := ky.here.cell 1 _ rfl
      have HOX := Lib.hid (show ∀ W, Below w2.heap.size w2 W → Row W 0 W.heap.size (.slice Ax x.2.length cx) (intsV x.2) from fun W hb => (ownI_of (own_below ox hb)).row)
      have HOY := Lib.hid (show ∀ W, Below w2.heap.size w2 W → Row W 0 W.heap.size (.slice Ay y.2.length cy) (intsV y.2) from fun W hb => (ownI_of (own_below oy hb)).row)
      have HKR := Lib.hid kr
      have hlt2 : w.heap.size + 1 + 1 < w2.heap.size := kr.lt _ (by simp)
      clear okx oky ox oy kr
      have HKX := Lib.hid kx
      have HKY := Lib.hid ky
      have HMB := Lib.hid (Lib.hid (show mkS (x.1 != y.1) (mulN x.2 y.2) = mulS x y from HV.out))
      have hml : (mulN x.2 y.2).length ≤ 50 := mulN_short x.2 y.2
      clear kx ky b1 b2 HV
      obtain ⟨n, hn, hm⟩ : ∃ n, (x.1 != y.1) = n ∧ (x.1 == y.1) = !n := ⟨_, rfl, by cases x.1 <;> cases y.1 <;> rfl⟩
      have HN := Lib.hid hn
      cases n
      all_goals
        first | rw [Bool.not_false] at hm | rw [Bool.not_true] at hm
        go_upto_region 3 with fail
        go_cut [5] (fun s wx => ∃ b, s = .pointer (some ⟨b, 0, none⟩) ∧ Hid (NatX (intK (x.1 != y.1)) w2.heap.size b (mulN x.2 y.2) wx) ∧ Below w2.heap.size w2 wx)
        case first =>
          have HB0 := Lib.hid (show Below w2.heap.size w2 w2.drew from (Below.refl _ _).drew)
          have KL := Lib.hid (show ∀ W, Below w2.heap.size w2 W → W.cell? ⟨w.heap.size, 0, none⟩ = some (.bool x.1) ∧ W.cell? ⟨w.heap.size, 1, none⟩ = some (.slice Ax x.2.length cx) ∧ W.cell? ⟨w.heap.size + 1, 0, none⟩ = some (.bool y.1) ∧ W.cell? ⟨w.heap.size + 1, 1, none⟩ = some (.slice Ay y.2.length cy) ∧ Hid (Below w2.heap.size w2 W) from
            fun W hb => ⟨(HKX.out.below hb).here.cell 0 _ rfl, (HKX.out.below hb).here.cell 1 _ rfl, (HKY.out.below hb).here.cell 0 _ rfl, (HKY.out.below hb).here.cell 1 _ rfl, Lib.hid hb⟩)
          clear cx0 cx1 cy0 cy1
          go_region_held3 (fun W => W.cell? ⟨w.heap.size, 0, none⟩ = some (.bool x.1) ∧ W.cell? ⟨w.heap.size, 1, none⟩ = some (.slice Ax x.2.length cx) ∧ W.cell? ⟨w.heap.size + 1, 0, none⟩ = some (.bool y.1) ∧ W.cell? ⟨w.heap.size + 1, 1, none⟩ = some (.slice Ay y.2.length cy) ∧ Hid (Below w2.heap.size w2 W))
            ((refine KL.out _ ?_; (first | exact HBf.out | exact HB0.out | exact below_al HBf.out _ | exact below_al HB0.out _ | exact below_set2 HBf.out HB0.out.size | fail)))
            (first
              | (go_at_call 102; (have hBB := (‹_ ∧ _ ∧ _ ∧ _ ∧ Hid (Below w2.heap.size w2 _)›).2.2.2.2); (with_reducible refine (implNatMul_any _ _ x.2 y.2 0 _ 0 _ _ hlx hly (Nat.le_refl _) (Nat.le_refl _) (HOX.out _ hBB.out) (HOY.out _ hBB.out)).mono ?_); rintro e wf ⟨uf, rfl, of, bf⟩; have HBf := Lib.hid (Below.next hBB.out bf); have HBS := Lib.hid hBB.out.size; (try have hbxf : At [w2.heap.size] (BoxAt w2.heap.size #[.slice none 0 0, .bool false] 104) wf := At.below (box_new w2.drew _ _) bf); obtain ⟨Af, cf, rfl⟩ := own_len of; (try (have cz0 := hbxf.here.cell 0 _ rfl; have cz1 := hbxf.here.cell 1 _ rfl; have fz0 := Lib.frozen_of_heap hbxf.here 0; have fz1 := Lib.frozen_of_heap hbxf.here 1)); clear hBB))
          all_goals (go_wp2_with fail; go_meet; first | exact ⟨_, rfl, Lib.hid (by rw [HN.out]; exact NatX.late of HBS.out HBf.out.size), below_al HBf.out _⟩ | exact ⟨_, rfl, Lib.hid (by rw [HN.out]; exact NatX.early hbxf.here of HBS.out (Nat.le_refl _)), below_set2 HBf.out (Nat.le_refl _)⟩)
        rename World => w3
        obtain ⟨b, rfl, HX, b3⟩ := hcut
        have bb3 := Below.next bb2 b3
        have kr3 := HKR.out.below b3
        clear cx0 cx1 cy0 cy1
        go_wp2_with fail
        refine (signed_any _ _ b _ _ (by omega) HX.out).mono ?_
        rw [HMB.out.out]
        rintro e w4 ⟨u4, rfl, o4, b4⟩
        generalize mulS x y = z at *
        obtain ⟨A4, c4, rfl⟩ := own_len o4
        have bb4 := Below.next bb3 b4
        have kr4 := kr3.below b4
        have cz0 := kr4.here.cell 0 _ rfl
        have cz1 := kr4.here.cell 1 _ rfl
        have fz0 := Lib.frozen_of_heap kr4.here 0
        have fz1 := Lib.frozen_of_heap kr4.here 1
        have HO := Lib.hid o4
        have HK := Lib.hid kr4
        clear o4 kr3 kr4 HX HMB
        go_wp2
        refine bodyPost_ret (v := .agg #[.bool _, .slice A4 _ c4]) (by simp [results, Tryd.results73, go_sem, cz0, cz1]; exact ⟨rfl, rfl⟩) rfl ?_
        exact newS_ret HK.out.here HO.out bb2.size (by omega) bb4
    · have oky' : okS y = false := by simpa using oky
      have HV := Lib.hid (show mulS x y = zeroS by unfold mulS; rw [if_neg (fun h => oky h.2)])
      rw [oky']
      have cz0 := kr.here.cell 0 _ rfl
      have cz1 := kr.here.cell 1 _ rfl
      have fz0 := Lib.frozen_of_heap kr.here 0
      have fz1 := Lib.frozen_of_heap kr.here 1
      clear oky kx ky kr ox oy
      go_wp2
      refine bodyPost_ret (v := .agg #[.bool false, .slice none 0 0]) (by simp [results, Tryd.results73, go_sem, cz0, cz1]) rfl ?_
      rw [HV.out]
      exact newS_zero (below_set2 bb2 (by omega))
  · have okx' : okS x = false := by simpa using okx
    have HV := Lib.hid (show mulS x y = zeroS by unfold mulS; rw [if_neg (fun h => okx h.1)])
    clear okx
    go_enter Tryd.func73, Tryd.ntmps73
    go_wp2_with fail
    rw [← HW.out]
    refine (implIntOk_any _ x _ hlx rdx).mono ?_
    rintro e w1 ⟨rfl, b1⟩
    rw [okx']
    have bb1 := Below.next hbb b1
    replace kr := kr.below b1
    have cz0 := kr.here.cell 0 _ rfl
    have cz1 := kr.here.cell 1 _ rfl
    have fz0 := Lib.frozen_of_heap kr.here 0
    have fz1 := Lib.frozen_of_heap kr.here 1
    clear kx ky kr rdx ox oy cx0 cx1
    go_wp2
    refine bodyPost_ret (v := .agg #[.bool false, .slice none 0 0]) (by simp [results, Tryd.results73, go_sem, cz0, cz1]) rfl ?_
    rw [HV.out]
    exact newS_zero (below_set2 bb1 (by omega))
end Go.Proofs.YtcenmdiblbooeaaDoor

namespace Go.Proofs.YtcenmdiblbooeaaDoor
open Go.RowKit

theorem At.belowB {S : List Nat} {φ : World → Prop} {w w' : World} {B : Nat} (h : At S φ w) (hb : Below B w w') (hS : ∀ g ∈ S, g < B) : At S φ w' := h.move (fun g hg => hb.block g (hS g hg)) hb.size
theorem add_mk {P Q : SI} (okp : okS P = true) (okq : okS Q = true) (hs : P.1 = Q.1) : mkS P.1 (limbs (nval P.2 + nval Q.2).toNat) = ofZ (valS P + valS Q) := by
  have h0p := nval_ok (okS_parts okp).1
  have h0q := nval_ok (okS_parts okq).1
  rw [mkS_limbs]
  congr 1
  unfold valS
  rw [← hs]
  split <;> omega
theorem sub_mk {P Q : SI} (okp : okS P = true) (okq : okS Q = true) (hs : ¬ P.1 = Q.1) (hle : nval Q.2 ≤ nval P.2) : mkS P.1 (limbs (nval P.2 - nval Q.2).toNat) = ofZ (valS P + valS Q) := by
  have h0p := nval_ok (okS_parts okp).1
  have h0q := nval_ok (okS_parts okq).1
  rw [mkS_limbs]
  congr 1
  unfold valS
  cases hp : P.1 <;> cases hq : Q.1 <;> simp_all <;> omega
theorem addS_ok {x y : SI} (okx : okS x = true) (oky : okS y = true) : addS x y = ofZ (valS x + valS y) := by unfold addS; rw [if_pos ⟨okx, oky⟩]
theorem swap_box {g : Nat} {a b : Value} {c0 c1 : Value} {W : World} (h : BoxAt g #[c0, c1] 30 W) : BoxAt g #[a, b] 30 ((W.setCell ⟨g, 0, none⟩ a).setCell ⟨g, 1, none⟩ b) := by
  have h' : W.heap[g]? = some (.cells #[c0, c1] 30 (0, 0)) := h
  simp [BoxAt, World.setCell, Array.getElem?_modify, h']

theorem NatX.drew1 {K : NatK} {B b : Nat} {xs : List Int} {w : World} (h : NatX K B b xs w) : NatX K B b xs w.drew := h
theorem Row.drew1 {w : World} {lo hi : Nat} {v : Value} {xs : List Value} (h : Row w lo hi v xs) : Row w.drew lo hi v xs := h
theorem natAdd_any {K : NatK} (B b : Nat) (xs : List Int) (vy : Value) (ys : List Int) (lo hi : Nat) (w : World) (oa : natOkB xs = true) (ob : natOkB ys = true) (hhi : hi ≤ B) (hr : Row w lo hi vy (intsV ys)) (h : NatX K B b xs w) :
    Calls Tryd.prog 119 #[.pointer (some ⟨b, 0, none⟩), vy, .int .i64 1, .int .i64 0] w fun e w' => e = .returned (.tuple #[]) ∧ LeftX K B b (limbs (nval xs + nval ys).toNat) w w' := by
  have pa := natOk_parts oa
  have pb := natOk_parts ob
  refine (addTimes_any B b xs vy ys lo hi 1 0 w (by omega) (by omega) (by omega) (by omega) (by omega) pa.1 pb.1 hhi hr h).mono ?_
  rintro e w' ⟨rfl, zs, hl, hd, hv, hlen⟩
  rw [← add_limbs oa ob hd hv hlen]
  exact ⟨rfl, hl⟩
theorem nval_b50 {xs : List Int} (h : natOkB xs = true) : nval xs < bp 50 := by
  have p := natOk_parts h
  have h1 := nval_lt xs p.1
  have h2 := bp_mono p.2.1
  omega
theorem sum_short {xs ys : List Int} (oa : natOkB xs = true) (ob : natOkB ys = true) : (limbs (nval xs + nval ys).toNat).length ≤ 1048576 := by
  have h1 := nval_b50 oa
  have h2 := nval_b50 ob
  have h3 := nval_ok oa
  have h4 := nval_ok ob
  have e : bp 51 = 1000000000 * bp 50 := rfl
  have h5 := bp_pos 50
  have h6 := limbs_length_le (nval xs + nval ys).toNat 51 (by rw [Int.toNat_of_nonneg (by omega)]; omega)
  omega
theorem dif_short {xs ys : List Int} (oa : natOkB xs = true) (ob : natOkB ys = true) (hle : nval ys ≤ nval xs) : (limbs (nval xs - nval ys).toNat).length ≤ 1048576 := by
  have h1 := nval_b50 oa
  have h4 := nval_ok ob
  have h6 := limbs_length_le (nval xs - nval ys).toNat 50 (by rw [Int.toNat_of_nonneg (by omega)]; omega)
  omega
theorem below_low {B C : Nat} {w w1 w2 : World} (h : Below B w w1) (k : Below C w1 w2) (hB : B ≤ C) : Below B w w2 :=
  ⟨k.os.trans h.os, k.tape.trans h.tape, k.output.trans h.output, Nat.le_trans h.size k.size, fun i hi => (k.block i (by omega)).trans (h.block i hi)⟩
set_option maxHeartbeats 4000000 in
set_option maxRecDepth 100000 in
theorem implIntAdd_any (vx vy : Value) (x y : SI) (w : World) (hlx : x.2.length ≤ 1048576) (hly : y.2.length ≤ 1048576) (hx : OwnS vx x w) (hy : OwnS vy y w) :
    Calls Tryd.prog 107 #[vx, vy] w (NewS (addS x y) w) := by
  obtain ⟨ux, rfl, hox⟩ := hx
  obtain ⟨uy, rfl, hoy⟩ := hy
  obtain ⟨Ax, cx, rfl⟩ := own_len hox
  obtain ⟨Ay, cy, rfl⟩ := own_len hoy
  obtain ⟨W0, hW0⟩ : ∃ W0, W0 = ((w.alloc (.cells #[.bool x.1, .slice Ax x.2.length cx] 30)).alloc (.cells #[.bool y.1, .slice Ay y.2.length cy] 30)).alloc (.cells #[.bool false, .slice none 0 0] 30) := ⟨_, rfl⟩
  have hbb : Below w.heap.size w W0 := by rw [hW0]; exact below_al (below_al (below_al (Below.refl _ _) _) _) _
  have h3 := alloc3 w (.cells #[.bool x.1, .slice Ax x.2.length cx] 30) (.cells #[.bool y.1, .slice Ay y.2.length cy] 30) (.cells #[.bool false, .slice none 0 0] 30)
  rw [← hW0] at h3
  have kx : At [w.heap.size] (BoxAt w.heap.size #[.bool x.1, .slice Ax x.2.length cx] 30) W0 := box_at h3.1
  have ky : At [w.heap.size + 1] (BoxAt (w.heap.size + 1) #[.bool y.1, .slice Ay y.2.length cy] 30) W0 := box_at h3.2.1
  have kr : At [w.heap.size + 1 + 1] (BoxAt (w.heap.size + 1 + 1) #[.bool false, .slice none 0 0] 30) W0 := box_at h3.2.2.1
  have ox := own_below hox hbb
  have oy := own_below hoy hbb
  have rdx := (OwnS.mk (x := x) (ownI_of ox)).rd
  have HW := Lib.hid hW0
  have cx0 := kx.here.cell 0 _ rfl
  have cx1 := kx.here.cell 1 _ rfl
  clear h3 hox hoy hW0
  by_cases okx : okS x = true
  · go_enter Tryd.func107, Tryd.ntmps107
    go_wp2_with fail
    rw [← HW.out]
    refine (implIntOk_any _ x _ hlx rdx).mono ?_
    rintro e w1 ⟨rfl, b1⟩
    rw [okx]
    have bb1 := Below.next hbb b1
    replace kx := kx.below b1
    replace ky := ky.below b1
    replace kr := kr.below b1
    replace ox := own_below ox b1
    replace oy := own_below oy b1
    have cy0 := ky.here.cell 0 _ rfl
    have cy1 := ky.here.cell 1 _ rfl
    clear rdx cx0 cx1
    go_wp2_with fail
    refine (implIntOk_any _ y w1 hly (OwnS.mk (x := y) (ownI_of oy)).rd).mono ?_
    rintro e w2 ⟨rfl, b2⟩
    have bb2 := Below.next bb1 b2
    replace kx := kx.below b2
    replace ky := ky.below b2
    replace kr := kr.below b2
    replace ox := own_below ox b2
    replace oy := own_below oy b2
    clear cy0 cy1
    by_cases oky : okS y = true
    · rw [oky]
      have HZ := Lib.hid (addS_ok okx oky).symm
      have OKX := Lib.hid okx
      have OKY := Lib.hid oky
      have px := okS_parts okx
      have py := okS_parts oky
      have Nx := Lib.hid px.1
      have Ny := Lib.hid py.1
      have Dx := Lib.hid (natOk_parts px.1)
      have Dy := Lib.hid (natOk_parts py.1)
      have hlx5 := Dx.out.2.1
      have hly5 := Dy.out.2.1
      have cx0 := kx.here.cell 0 _ rfl
      have cx1 := kx.here.cell 1 _ rfl
      have cy0 := ky.here.cell 0 _ rfl
      have cy1 := ky.here.cell 1 _ rfl
      have rx := (ownI_of ox).row
      have ry := (ownI_of oy).row
      have hlt2 : w.heap.size + 1 + 1 < w2.heap.size := kr.lt _ (by simp)
      clear okx oky px py b1 b2
      go_upto_region 3 with fail
      go_wp2_with fail
      refine (compareLimbs_any _ _ x.2 y.2 0 _ 0 _ w2 (by omega) (by omega) ⟨Dx.out.1, Dx.out.2.2⟩ ⟨Dy.out.1, Dy.out.2.2⟩ rx ry).mono ?_
      rintro e w' ⟨rfl, q, rfl⟩
      clear cx0 cx1 cy0 cy1
      obtain ⟨W3, hW3⟩ : ∃ W3, W3 = w2.drewN q := ⟨_, rfl⟩
      have b3 : Below w2.heap.size w2 W3 := by rw [hW3]; exact below_drewN (Below.refl _ _) q
      have bb3 := Below.next bb2 b3
      have hlt3 : w.heap.size + 1 + 1 < W3.heap.size := by rw [hW3]; exact hlt2
      replace kx := kx.below b3
      replace ky := ky.below b3
      replace kr := kr.below b3
      replace ox := own_below ox b3
      replace oy := own_below oy b3
      rw [← hW3]
      clear rx ry b3 hW3 bb1 bb2 hlt2
      by_cases hle : nval y.2 ≤ nval x.2
      · have hz : 0 ≤ cmpI (nval x.2) (nval y.2) := by unfold cmpI; split <;> (try split) <;> omega
        have HLE := Lib.hid hle
        have OKP := OKX
        have OKQ := OKY
        have NP := Nx
        have NQ := Ny
        generalize cmpI (nval x.2) (nval y.2) = z at *
        have hzb : decide (z < 0) = false := decide_eq_false (by omega)
        clear hz hle
        obtain ⟨kP, kQ, oP, oQ⟩ : _ ∧ _ ∧ _ ∧ _ := ⟨kx, ky, ox, oy⟩
        clear kx ky ox oy
        -- P: the greater magnitude
        have rdP := (OwnS.mk (x := x) (ownI_of oP)).rd
        have cp0 := kP.here.cell 0 _ rfl
        have cp1 := kP.here.cell 1 _ rfl
        go_wp2_with fail
        refine (copyInt_any _ x W3 (by omega) rdP).mono ?_
        rintro e w4 ⟨b, rfl, hnx, b4⟩
        have bb4 := Below.next bb3 b4
        have hrQ : Row w4 0 W3.heap.size (.slice Ay y.2.length cy) (intsV y.2) := (ownI_of oQ).row.below b4 (Nat.le_refl _)
        replace kP := kP.below b4
        replace kQ := kQ.below b4
        replace kr := kr.below b4
        clear cp0 cp1 rdP oP oQ
        have cp0 := kP.here.cell 0 _ rfl
        have cq0 := kQ.here.cell 0 _ rfl
        have cq1 := kQ.here.cell 1 _ rfl
        have HKQ := Lib.hid kQ
        have HKR := Lib.hid kr
        have HNX := Lib.hid hnx
        have HRQ := Lib.hid hrQ
        have hsz3 : w.heap.size + 1 + 1 < W3.heap.size := hlt3
        clear kP kQ kr hnx hrQ
        by_cases hs : x.1 = y.1
        · have hsb : (x.1 == y.1) = true := by rw [hs]; simp
          have HV := Lib.hid ((add_mk OKP.out OKQ.out hs).trans HZ.out)
          clear hs HZ
          go_upto_region 9 with fail
          go_cut [] (fun wx => Hid (NatX (intK x.1) W3.heap.size b (limbs (nval x.2 + nval y.2).toNat) wx) ∧ Below W3.heap.size w4 wx)
          case first =>
            go_wp2_with fail
            go_region_with (go_at_call 119; refine (natAdd_any W3.heap.size b x.2 _ y.2 0 W3.heap.size _ NP.out NQ.out (Nat.le_refl _) HRQ.out.drew1 HNX.out.drew1).mono ?_; rintro e w5 ⟨rfl, hp5⟩; have H5 := Lib.hid hp5; clear hp5)
            all_goals
              go_wp2_with fail
              go_meet
              exact ⟨Lib.hid H5.out.1, (Below.drew1 (Below.refl _ _)).trans H5.out.2⟩
          rename World => w6
          obtain ⟨HX, b6⟩ := hcut
          have bb6 := below_low bb4 b6 (by omega)
          have kr6 := HKR.out.belowB b6 (fun g hg => by simp at hg; omega)
          clear cp0 cq0 cq1
          go_wp2_with fail
          refine (signed_any _ _ b _ _ (sum_short NP.out NQ.out) HX.out).mono ?_
          rw [HV.out]
          rintro e w7 ⟨u7, rfl, o7, b7⟩
          generalize addS x y = z7 at *
          obtain ⟨A7, c7, rfl⟩ := own_len o7
          have bb7 := Below.next bb6 b7
          have kr7 := kr6.below b7
          have cz0 := kr7.here.cell 0 _ rfl
          have cz1 := kr7.here.cell 1 _ rfl
          have fz0 := Lib.frozen_of_heap kr7.here 0
          have fz1 := Lib.frozen_of_heap kr7.here 1
          have HO := Lib.hid o7
          have HK := Lib.hid kr7
          clear o7 kr6 kr7 HX HV
          go_wp2
          refine bodyPost_ret (v := .agg #[.bool _, .slice A7 _ c7]) (by simp [results, Tryd.results107, go_sem, cz0, cz1]; exact ⟨rfl, rfl⟩) rfl ?_
          exact newS_ret HK.out.here HO.out (by omega) (by omega) bb7
        · have hsb : (x.1 == y.1) = false := by rw [beq_eq_false_iff_ne]; exact hs
          have HV := Lib.hid ((sub_mk OKP.out OKQ.out hs HLE.out).trans HZ.out)
          clear hs HZ
          go_upto_region 9 with fail
          go_cut [] (fun wx => Hid (NatX (intK x.1) W3.heap.size b (limbs (nval x.2 - nval y.2).toNat) wx) ∧ Below W3.heap.size w4 wx)
          case first =>
            go_wp2_with fail
            go_region_with (go_at_call 126; refine (natTake_any W3.heap.size b x.2 _ y.2 0 W3.heap.size _ (by omega) (lens_of_le NP.out NQ.out HLE.out) (natOk_parts NP.out).1 (natOk_parts NQ.out).1 HLE.out (Nat.le_refl _) HRQ.out.drew1 HNX.out.drew1).mono ?_; rintro e w5 ⟨rfl, hp5⟩; have H5 := Lib.hid hp5; clear hp5)
            all_goals
              go_wp2_with fail
              go_meet
              exact ⟨Lib.hid H5.out.1, (Below.drew1 (Below.refl _ _)).trans H5.out.2⟩
          rename World => w6
          obtain ⟨HX, b6⟩ := hcut
          have bb6 := below_low bb4 b6 (by omega)
          have kr6 := HKR.out.belowB b6 (fun g hg => by simp at hg; omega)
          clear cp0 cq0 cq1
          go_wp2_with fail
          refine (signed_any _ _ b _ _ (dif_short NP.out NQ.out HLE.out) HX.out).mono ?_
          rw [HV.out]
          rintro e w7 ⟨u7, rfl, o7, b7⟩
          generalize addS x y = z7 at *
          obtain ⟨A7, c7, rfl⟩ := own_len o7
          have bb7 := Below.next bb6 b7
          have kr7 := kr6.below b7
          have cz0 := kr7.here.cell 0 _ rfl
          have cz1 := kr7.here.cell 1 _ rfl
          have fz0 := Lib.frozen_of_heap kr7.here 0
          have fz1 := Lib.frozen_of_heap kr7.here 1
          have HO := Lib.hid o7
          have HK := Lib.hid kr7
          clear o7 kr6 kr7 HX HV
          go_wp2
          refine bodyPost_ret (v := .agg #[.bool _, .slice A7 _ c7]) (by simp [results, Tryd.results107, go_sem, cz0, cz1]; exact ⟨rfl, rfl⟩) rfl ?_
          exact newS_ret HK.out.here HO.out (by omega) (by omega) bb7
      · have hz : cmpI (nval x.2) (nval y.2) < 0 := by unfold cmpI; rw [if_pos (by omega)]; omega
        have hle2 : nval x.2 ≤ nval y.2 := by omega
        have HLE := Lib.hid hle2
        have OKP := OKY
        have OKQ := OKX
        have NP := Ny
        have NQ := Nx
        replace HZ : Hid (ofZ (valS y + valS x) = addS x y) := Lib.hid (by rw [Int.add_comm]; exact HZ.out)
        generalize cmpI (nval x.2) (nval y.2) = z at *
        have hzb : decide (z < 0) = true := decide_eq_true hz
        clear hz hle hle2
        have cx0 := kx.here.cell 0 _ rfl
        have cx1 := kx.here.cell 1 _ rfl
        have cy0 := ky.here.cell 0 _ rfl
        have cy1 := ky.here.cell 1 _ rfl
        have fx0 := Lib.frozen_of_heap kx.here 0
        have fx1 := Lib.frozen_of_heap kx.here 1
        have fy0 := Lib.frozen_of_heap ky.here 0
        have fy1 := Lib.frozen_of_heap ky.here 1
        have HKX := Lib.hid kx
        have HKY := Lib.hid ky
        clear kx ky
        go_upto_region 5 with fail
        obtain ⟨V3, hV3⟩ : ∃ V3, V3 = (((W3.setCell ⟨w.heap.size, 0, none⟩ (.bool y.1)).setCell ⟨w.heap.size, 1, none⟩ (.slice Ay y.2.length cy)).setCell ⟨w.heap.size + 1, 0, none⟩ (.bool x.1)).setCell ⟨w.heap.size + 1, 1, none⟩ (.slice Ax x.2.length cx) := ⟨_, rfl⟩
        rw [← hV3]
        have hsame : ∀ i, i ≠ w.heap.size → i ≠ w.heap.size + 1 → V3.heap[i]? = W3.heap[i]? := fun i h1 h2 => by
          rw [hV3, Below.heap_setCell _ _ _ _ h2, Below.heap_setCell _ _ _ _ h2, Below.heap_setCell _ _ _ _ h1, Below.heap_setCell _ _ _ _ h1]
        have hsize : V3.heap.size = W3.heap.size := by rw [hV3]; simp [World.setCell]
        have hnx0 := Lib.ownBlock_ne ox HKX.out.here (by decide)
        have hnx1 := Lib.ownBlock_ne ox HKY.out.here (by decide)
        have hny0 := Lib.ownBlock_ne oy HKX.out.here (by decide)
        have hny1 := Lib.ownBlock_ne oy HKY.out.here (by decide)
        have oP : V3.ownsRow 0 3 1 (.slice Ay y.2.length cy) y.2.length (intsV y.2) := own_stays (own_zero oy) fun i hi => hsame i (fun e => hny0 (by rw [hi, e])) (fun e => hny1 (by rw [hi, e]))
        have oQ : V3.ownsRow 0 3 1 (.slice Ax x.2.length cx) x.2.length (intsV x.2) := own_stays (own_zero ox) fun i hi => hsame i (fun e => hnx0 (by rw [hi, e])) (fun e => hnx1 (by rw [hi, e]))
        have kP : At [w.heap.size] (BoxAt w.heap.size #[.bool y.1, .slice Ay y.2.length cy] 30) V3 := box_at (by
          show V3.heap[w.heap.size]? = _
          rw [hV3, Below.heap_setCell _ _ _ _ (by simp), Below.heap_setCell _ _ _ _ (by simp)]
          exact swap_box HKX.out.here)
        have kQ : At [w.heap.size + 1] (BoxAt (w.heap.size + 1) #[.bool x.1, .slice Ax x.2.length cx] 30) V3 := box_at (by
          rw [hV3]
          refine swap_box (c0 := .bool y.1) (c1 := .slice Ay y.2.length cy) ?_
          show (World.heap _)[w.heap.size + 1]? = _
          rw [Below.heap_setCell _ _ _ _ (by simp), Below.heap_setCell _ _ _ _ (by simp)]
          exact HKY.out.here)
        replace kr : At [w.heap.size + 1 + 1] (BoxAt (w.heap.size + 1 + 1) #[.bool false, .slice none 0 0] 30) V3 := kr.move (fun g hg => by simp at hg; subst hg; exact hsame _ (by omega) (by omega)) (by omega)
        replace bb3 : Below w.heap.size w V3 := by rw [hV3]; exact below_set2 (below_set2 bb3 (Nat.le_refl _)) (by omega)
        replace hlt3 : w.heap.size + 1 + 1 < V3.heap.size := by omega
        clear hV3 hsame hsize hnx0 hnx1 hny0 hny1 ox oy cx0 cx1 cy0 cy1 fx0 fx1 fy0 fy1 HKX HKY
        -- P: the greater magnitude
        have rdP := (OwnS.mk (x := y) (ownI_of oP)).rd
        have cp0 := kP.here.cell 0 _ rfl
        have cp1 := kP.here.cell 1 _ rfl
        go_wp2_with fail
        refine (copyInt_any _ y V3 (by omega) rdP).mono ?_
        rintro e w4 ⟨b, rfl, hnx, b4⟩
        have bb4 := Below.next bb3 b4
        have hrQ : Row w4 0 V3.heap.size (.slice Ax x.2.length cx) (intsV x.2) := (ownI_of oQ).row.below b4 (Nat.le_refl _)
        replace kP := kP.below b4
        replace kQ := kQ.below b4
        replace kr := kr.below b4
        clear cp0 cp1 rdP oP oQ
        have cp0 := kP.here.cell 0 _ rfl
        have cq0 := kQ.here.cell 0 _ rfl
        have cq1 := kQ.here.cell 1 _ rfl
        have HKQ := Lib.hid kQ
        have HKR := Lib.hid kr
        have HNX := Lib.hid hnx
        have HRQ := Lib.hid hrQ
        have hsz3 : w.heap.size + 1 + 1 < V3.heap.size := hlt3
        clear kP kQ kr hnx hrQ
        by_cases hs : y.1 = x.1
        · have hsb : (y.1 == x.1) = true := by rw [hs]; simp
          have HV := Lib.hid ((add_mk OKP.out OKQ.out hs).trans HZ.out)
          clear hs HZ
          go_upto_region 9 with fail
          go_cut [] (fun wx => Hid (NatX (intK y.1) V3.heap.size b (limbs (nval y.2 + nval x.2).toNat) wx) ∧ Below V3.heap.size w4 wx)
          case first =>
            go_wp2_with fail
            go_region_with (go_at_call 119; refine (natAdd_any V3.heap.size b y.2 _ x.2 0 V3.heap.size _ NP.out NQ.out (Nat.le_refl _) HRQ.out.drew1 HNX.out.drew1).mono ?_; rintro e w5 ⟨rfl, hp5⟩; have H5 := Lib.hid hp5; clear hp5)
            all_goals
              go_wp2_with fail
              go_meet
              exact ⟨Lib.hid H5.out.1, (Below.drew1 (Below.refl _ _)).trans H5.out.2⟩
          rename World => w6
          obtain ⟨HX, b6⟩ := hcut
          have bb6 := below_low bb4 b6 (by omega)
          have kr6 := HKR.out.belowB b6 (fun g hg => by simp at hg; omega)
          clear cp0 cq0 cq1
          go_wp2_with fail
          refine (signed_any _ _ b _ _ (sum_short NP.out NQ.out) HX.out).mono ?_
          rw [HV.out]
          rintro e w7 ⟨u7, rfl, o7, b7⟩
          generalize addS x y = z7 at *
          obtain ⟨A7, c7, rfl⟩ := own_len o7
          have bb7 := Below.next bb6 b7
          have kr7 := kr6.below b7
          have cz0 := kr7.here.cell 0 _ rfl
          have cz1 := kr7.here.cell 1 _ rfl
          have fz0 := Lib.frozen_of_heap kr7.here 0
          have fz1 := Lib.frozen_of_heap kr7.here 1
          have HO := Lib.hid o7
          have HK := Lib.hid kr7
          clear o7 kr6 kr7 HX HV
          go_wp2
          refine bodyPost_ret (v := .agg #[.bool _, .slice A7 _ c7]) (by simp [results, Tryd.results107, go_sem, cz0, cz1]; exact ⟨rfl, rfl⟩) rfl ?_
          exact newS_ret HK.out.here HO.out (by omega) (by omega) bb7
        · have hsb : (y.1 == x.1) = false := by rw [beq_eq_false_iff_ne]; exact hs
          have HV := Lib.hid ((sub_mk OKP.out OKQ.out hs HLE.out).trans HZ.out)
          clear hs HZ
          go_upto_region 9 with fail
          go_cut [] (fun wx => Hid (NatX (intK y.1) V3.heap.size b (limbs (nval y.2 - nval x.2).toNat) wx) ∧ Below V3.heap.size w4 wx)
          case first =>
            go_wp2_with fail
            go_region_with (go_at_call 126; refine (natTake_any V3.heap.size b y.2 _ x.2 0 V3.heap.size _ (by omega) (lens_of_le NP.out NQ.out HLE.out) (natOk_parts NP.out).1 (natOk_parts NQ.out).1 HLE.out (Nat.le_refl _) HRQ.out.drew1 HNX.out.drew1).mono ?_; rintro e w5 ⟨rfl, hp5⟩; have H5 := Lib.hid hp5; clear hp5)
            all_goals
              go_wp2_with fail
              go_meet
              exact ⟨Lib.hid H5.out.1, (Below.drew1 (Below.refl _ _)).trans H5.out.2⟩
          rename World => w6
          obtain ⟨HX, b6⟩ := hcut
          have bb6 := below_low bb4 b6 (by omega)
          have kr6 := HKR.out.belowB b6 (fun g hg => by simp at hg; omega)
          clear cp0 cq0 cq1
          go_wp2_with fail
          refine (signed_any _ _ b _ _ (dif_short NP.out NQ.out HLE.out) HX.out).mono ?_
          rw [HV.out]
          rintro e w7 ⟨u7, rfl, o7, b7⟩
          generalize addS x y = z7 at *
          obtain ⟨A7, c7, rfl⟩ := own_len o7
          have bb7 := Below.next bb6 b7
          have kr7 := kr6.below b7
          have cz0 := kr7.here.cell 0 _ rfl
          have cz1 := kr7.here.cell 1 _ rfl
          have fz0 := Lib.frozen_of_heap kr7.here 0
          have fz1 := Lib.frozen_of_heap kr7.here 1
          have HO := Lib.hid o7
          have HK := Lib.hid kr7
          clear o7 kr6 kr7 HX HV
          go_wp2
          refine bodyPost_ret (v := .agg #[.bool _, .slice A7 _ c7]) (by simp [results, Tryd.results107, go_sem, cz0, cz1]; exact ⟨rfl, rfl⟩) rfl ?_
          exact newS_ret HK.out.here HO.out (by omega) (by omega) bb7
    · have oky' : okS y = false := by simpa using oky
      have HV := Lib.hid (show addS x y = zeroS by unfold addS; rw [if_neg (fun h => oky h.2)])
      rw [oky']
      have cz0 := kr.here.cell 0 _ rfl
      have cz1 := kr.here.cell 1 _ rfl
      have fz0 := Lib.frozen_of_heap kr.here 0
      have fz1 := Lib.frozen_of_heap kr.here 1
      clear oky kx ky kr ox oy
      go_wp2
      refine bodyPost_ret (v := .agg #[.bool false, .slice none 0 0]) (by simp [results, Tryd.results107, go_sem, cz0, cz1]) rfl ?_
      rw [HV.out]
      exact newS_zero (below_set2 bb2 (by omega))
  · have okx' : okS x = false := by simpa using okx
    have HV := Lib.hid (show addS x y = zeroS by unfold addS; rw [if_neg (fun h => okx h.1)])
    clear okx
    go_enter Tryd.func107, Tryd.ntmps107
    go_wp2_with fail
    rw [← HW.out]
    refine (implIntOk_any _ x _ hlx rdx).mono ?_
    rintro e w1 ⟨rfl, b1⟩
    rw [okx']
    have bb1 := Below.next hbb b1
    replace kr := kr.below b1
    have cz0 := kr.here.cell 0 _ rfl
    have cz1 := kr.here.cell 1 _ rfl
    have fz0 := Lib.frozen_of_heap kr.here 0
    have fz1 := Lib.frozen_of_heap kr.here 1
    clear kx ky kr rdx ox oy cx0 cx1
    go_wp2
    refine bodyPost_ret (v := .agg #[.bool false, .slice none 0 0]) (by simp [results, Tryd.results107, go_sem, cz0, cz1]) rfl ?_
    rw [HV.out]
    exact newS_zero (below_set2 bb1 (by omega))
theorem negS_len (x : SI) : (negS x).2.length ≤ 1048576 := by
  have := (natOk_parts (okS_parts (negS_ok x)).1).2.1
  omega
theorem sub_add (x : SI) {y : SI} (oky : okS y = true) : subS x y = addS x (negS y) := by
  unfold subS addS
  by_cases okx : okS x = true
  · rw [if_pos ⟨okx, oky⟩, if_pos ⟨okx, negS_ok y⟩, negS_val oky]; rfl
  · rw [if_neg (fun h => okx h.1), if_neg (fun h => okx h.1)]
end Go.Proofs.YtcenmdiblbooeaaDoor

namespace Go.Proofs.YtcenmdiblbooeaaDoor
open Go.RowKit

theorem int_step {m n : Int} {out : List Int} {f : Nat} (hz : ¬ m = 0) (hol : out.length + f ≤ 3) (hmf : m.natAbs < 1000000000 ^ f) (he : out ++ limbs m.natAbs = limbs n.natAbs) (hq : (m.tdiv 1000000000).natAbs = m.natAbs / 1000000000) :
    ∃ g : Nat, (out ++ [((m.natAbs % 1000000000 : Nat) : Int)]).length + g ≤ 3 ∧ (m.tdiv 1000000000).natAbs < 1000000000 ^ g ∧ out ++ [((m.natAbs % 1000000000 : Nat) : Int)] ++ limbs (m.tdiv 1000000000).natAbs = limbs n.natAbs := by
  cases f with
  | zero => simp at hmf; omega
  | succ g =>
    refine ⟨g, by simp; omega, ?_, ?_⟩
    · rw [hq]
      rw [Nat.pow_succ, Nat.mul_comm] at hmf
      exact Nat.div_lt_of_lt_mul hmf
    · rw [hq, ← he, limbs_pos m.natAbs (by omega), List.append_assoc]
      rfl
theorem intOf_mk (n : Int) {s : Bool} (h : decide (n < 0) = s) : mkS s (limbs n.natAbs) = ofZ n := by
  rw [mkS_limbs]
  congr 1
  subst h
  by_cases hn : n < 0
  · rw [if_pos (by simpa using hn)]; omega
  · rw [if_neg (by simpa using hn)]; omega
set_option maxHeartbeats 1000000 in
set_option maxRecDepth 100000 in
theorem implIntOf_any (n : Int) (w : World) (h0 : -9223372036854775808 ≤ n) (h1 : n ≤ 9223372036854775807) :
    Calls Tryd.prog 58 #[.int .i64 n] w (NewS (ofZ n) w) := by
  obtain ⟨i0, hi, hz0, hz1, hz2⟩ := info_parts intInfo
  have hbb : Below w.heap.size w (w.alloc (.cells #[.bool false, .slice none 0 0] 30)) := below_al (Below.refl _ _) _
  have kr := box_new w #[.bool false, .slice none 0 0] 30
  obtain ⟨W0, hW0⟩ : ∃ W0, W0 = w.alloc (.cells #[.bool false, .slice none 0 0] 30) := ⟨_, rfl⟩
  rw [← hW0] at hbb kr
  have hW0s : W0.heap.size = w.heap.size + 1 := by rw [hW0]; simp
  have HW := Lib.hid hW0
  clear hW0
  obtain ⟨s, hs, hs2⟩ : ∃ s, decide (n < 0) = s ∧ Hid (decide (n < 0) = s) := ⟨_, rfl, Lib.hid rfl⟩
  go_enter Tryd.func58, Tryd.ntmps58
  go_wp2_with fail
  obtain ⟨W1, hW1⟩ : ∃ W1, W1 = W0.alloc (.cells #[.slice none 0 0, .bool s] 104) := ⟨_, rfl⟩
  have hx0 : NatX (intK s) (w.heap.size + 1) W0.heap.size [] W1 := by rw [hW1]; exact NatX.late (n := s) (W := W0) (B0 := w.heap.size + 1) (xs := []) (World.ownsRow_nil W0 (w.heap.size + 1) 3 1) (Nat.le_refl _) (by omega)
  have hb0 : Below W0.heap.size W0 W1 := by rw [hW1]; exact below_al (Below.refl _ _) _
  rw [hW0s] at hx0
  go_loopw [0] (fun a wr => ∃ (m : Int) (out : List Int) (f : Nat), -9223372036854775808 ≤ m ∧ m ≤ 9223372036854775807 ∧ out.length + f ≤ 3 ∧ m.natAbs < 1000000000 ^ f ∧ a = .int .i64 m ∧ Hid (out ++ limbs m.natAbs = limbs n.natAbs) ∧ Hid (NatX (intK s) (w.heap.size + 1) (w.heap.size + 1) out wr) ∧ Hid (Below (w.heap.size + 1) W0 wr)) (fun a _ => (intOf a).natAbs)
  case atStart =>
    rw [← HW.out, ← hW1]
    exact ⟨n, [], 3, h0, h1, by simp, by omega, rfl, Lib.hid rfl, Lib.hid hx0, Lib.hid (by rw [hW0s] at hb0; exact hb0)⟩
  case round =>
    obtain ⟨m, out, f, hm0, hm1, hol, hmf, rfl, HE, HX, HB⟩ := hrel
    by_cases hz : m = 0
    · subst hz
      have hout : out = limbs n.natAbs := by
        have e := HE.out
        rwa [show (0 : Int).natAbs = 0 from rfl, limbs_none, List.append_nil] at e
      subst hout
      have bb1 : Below w.heap.size w wr := below_low hbb HB.out (by omega)
      have kr1 := kr.belowB HB.out (fun g hg => by simp at hg; omega)
      go_wp2_with fail
      refine (signed_any _ _ _ _ _ (by omega) HX.out).mono ?_
      rw [intOf_mk n hs2.out]
      rintro e w4 ⟨u4', rfl, o4, b4⟩
      generalize ofZ n = z at *
      obtain ⟨A4, c4, rfl⟩ := own_len o4
      have bb4 := Below.next bb1 b4
      have kr4 := kr1.below b4
      have cz0 := kr4.here.cell 0 _ rfl
      have cz1 := kr4.here.cell 1 _ rfl
      have fz0 := Lib.frozen_of_heap kr4.here 0
      have fz1 := Lib.frozen_of_heap kr4.here 1
      have HO := Lib.hid o4
      have HK := Lib.hid kr4
      clear o4 kr1 kr4 kr HX HB HE
      go_wp2
      refine bodyPost_ret (v := .agg #[.bool _, .slice A4 _ c4]) (by simp [results, Tryd.results58, go_sem, cz0, cz1]; exact ⟨rfl, rfl⟩) rfl ?_
      exact newS_ret HK.out.here HO.out (by omega) (Nat.le_refl _) bb4
    · have hzb : (m == 0) = false := by rw [beq_eq_false_iff_ne]; exact hz
      have hzb2 : (m != 0) = true := by rw [bne_iff_ne]; exact hz
      obtain ⟨hB, u, hbk, hown, hne⟩ := HX.out
      have hlt := HX.out.lt
      obtain ⟨A, c, rfl⟩ := own_len hown
      have c1 : wr.cell? ⟨w.heap.size + 1, 0, none⟩ = some (.slice A out.length c) := NatX.cell hbk
      have hra : (m.tmod 1000000000).natAbs = m.natAbs % 1000000000 := Int.natAbs_tmod m 1000000000
      have hqa : (m.tdiv 1000000000).natAbs = m.natAbs / 1000000000 := Int.natAbs_tdiv m 1000000000
      have hr0 : -999999999 ≤ m.tmod 1000000000 := by omega
      have hr1 : m.tmod 1000000000 ≤ 999999999 := by omega
      have HR := Lib.hid hra
      have HQ := Lib.hid hqa
      have HBK := Lib.hid hbk
      have HNE := Lib.hid hne
      clear hra hqa hbk hne
      go_wp2_with (at_builtin; refine wpList_append_own _ rfl (.tmp 16) (.tmp 21) 23 rfl (w.heap.size + 1) 3 i0 (.int .i64 0) 1 8 Tryd.underlying23 hi hz0 hz1 hz2 rfl (by decide) _ _ _ rfl (own_alloc hown _) ⟨wr.heap.size, 0, none⟩ 1 1 [.int .i64 _] rfl rfl (one_new _ _ _) ?c2 ?c3 ?c4 ?c5 ?_)
      any_goals (first | rfl | (unfold maxLen; omega) | omega)
      all_goals
        intro v1 w1 hown1 hg1 _
        have hdig : Hid (w1.ownsRow (w.heap.size + 1) 3 1 v1 (out ++ [((m.natAbs % 1000000000 : Nat) : Int)]).length (intsV (out ++ [((m.natAbs % 1000000000 : Nat) : Int)]))) := Lib.hid (by
          have hra := HR.out
          first
            | (have e : max (m.tmod 1000000000) (-m.tmod 1000000000) = ((m.natAbs % 1000000000 : Nat) : Int) := by omega
               rw [e] at hown1
               simpa [intsV] using hown1)
            | (have e : -m.tmod 1000000000 = ((m.natAbs % 1000000000 : Nat) : Int) := by omega
               rw [e] at hown1
               simpa [intsV] using hown1)
            | (have e : m.tmod 1000000000 = ((m.natAbs % 1000000000 : Nat) : Int) := by omega
               rw [e] at hown1
               simpa [intsV] using hown1))
        have hb2 : w1.heap[w.heap.size + 1]? = some (.cells (.slice A out.length c :: (intK s).rest).toArray (intK s).ty (0, 0)) := by
          rw [hg1.block _ (by simp; omega) (fun e => HNE.out e.symm), Below.heap_alloc _ _ _ hlt]
          exact HBK.out
        have d1 : w1.cell? ⟨w.heap.size + 1, 0, none⟩ = some (.slice A out.length c) := NatX.cell hb2
        have f1 : w1.frozen? ⟨w.heap.size + 1, 0, none⟩ = false := Lib.frozen_of_heap hb2 0
        have hb3 : Below (w.heap.size + 1) W0 w1 := (HB.out.alloc (by omega) _).grown hg1 (by simp; omega) (fun k hk => (own_lt hown hk).1)
        obtain ⟨A1, cc1, rfl⟩ := own_len hdig.out
        have HP := Lib.hid (NatX.put (K := intK s) hB hb2 hdig.out)
        have HB3 := Lib.hid (hb3.setCell (p := ⟨w.heap.size + 1, 0, none⟩) (Nat.le_refl _) (.slice A1 (out ++ [((m.natAbs % 1000000000 : Nat) : Int)]).length cc1))
        have hlen : (out ++ [((m.natAbs % 1000000000 : Nat) : Int)]).length = out.length + 1 := by simp
        rw [hlen] at HP HB3
        have hqb : -9223372036854775808 ≤ m.tdiv 1000000000 ∧ m.tdiv 1000000000 ≤ 9223372036854775807 ∧ (m.tdiv 1000000000).natAbs < m.natAbs := by have := HQ.out; omega
        have HQB := Lib.hid hqb
        have HN := Lib.hid (int_step hz hol hmf HE.out HQ.out)
        clear hb2 hb3 hown hown1 hg1 hdig c1
        clear hr0 hr1 HR hmf hqb hlen
        go_wp2_with fail
        obtain ⟨g, h1, h2, h3⟩ := HN.out
        exact ⟨⟨_, _, g, HQB.out.1, HQB.out.2.1, h1, h2, rfl, Lib.hid h3, Lib.hid HP.out, HB3⟩, by simpa [intOf] using HQB.out.2.2⟩
end Go.Proofs.YtcenmdiblbooeaaDoor

namespace Go.Proofs.YtcenmdiblbooeaaDoor
open Go.RowKit


set_option maxHeartbeats 2000000 in
set_option maxRecDepth 100000 in
theorem implIntCmp_any (vx vy : Value) (x y : SI) (w : World) (hlx : x.2.length ≤ 1048576) (hly : y.2.length ≤ 1048576) (hx : OwnS vx x w) (hy : OwnS vy y w) :
    Calls Tryd.prog 75 #[vx, vy] w fun e w' => e = .returned (.int .i64 (cmpS x y)) ∧ Below w.heap.size w w' := by
  obtain ⟨ux, rfl, hox⟩ := hx
  obtain ⟨uy, rfl, hoy⟩ := hy
  obtain ⟨Ax, cx, rfl⟩ := own_len hox
  obtain ⟨Ay, cy, rfl⟩ := own_len hoy
  have hbb : Below w.heap.size w ((w.alloc (.cells #[.bool x.1, .slice Ax x.2.length cx] 30)).alloc (.cells #[.bool y.1, .slice Ay y.2.length cy] 30)) := below_al (below_al (Below.refl _ _) _) _
  have kx := (box_new w #[.bool x.1, .slice Ax x.2.length cx] 30).below (below_al (Below.refl _ _) (.cells #[.bool y.1, .slice Ay y.2.length cy] 30))
  have ky := box_new (w.alloc (.cells #[.bool x.1, .slice Ax x.2.length cx] 30)) #[.bool y.1, .slice Ay y.2.length cy] 30
  rw [show (w.alloc (.cells #[.bool x.1, .slice Ax x.2.length cx] 30)).heap.size = w.heap.size + 1 by simp] at ky
  have ox := own_below hox hbb
  have oy := own_below hoy hbb
  have rdx := (OwnS.mk (x := x) (ownI_of ox)).rd
  clear hox hoy
  by_cases okx : okS x = true
  · go_enter Tryd.func75, Tryd.ntmps75
    go_wp2_with fail
    refine (implIntOk_any _ x _ hlx rdx).mono ?_
    rintro e w1 ⟨rfl, b1⟩
    rw [okx]
    have bb1 := Below.next hbb b1
    replace kx := kx.below b1
    replace ky := ky.below b1
    replace ox := own_below ox b1
    replace oy := own_below oy b1
    have cy0 := ky.here.cell 0 _ rfl
    have cy1 := ky.here.cell 1 _ rfl
    clear rdx
    go_wp2_with fail
    refine (implIntOk_any _ y w1 hly (OwnS.mk (x := y) (ownI_of oy)).rd).mono ?_
    rintro e w2 ⟨rfl, b2⟩
    have bb2 := Below.next bb1 b2
    replace kx := kx.below b2
    replace ky := ky.below b2
    replace ox := own_below ox b2
    replace oy := own_below oy b2
    clear cy0 cy1
    by_cases oky : okS y = true
    · rw [oky]
      have HV := Lib.hid (show cmpS x y = cmpI (valS x) (valS y) by unfold cmpS; rw [if_pos ⟨okx, oky⟩])
      have px := okS_parts okx
      have py := okS_parts oky
      have h0x := nval_ok px.1
      have h0y := nval_ok py.1
      have Dx := Lib.hid (natOk_parts px.1)
      have Dy := Lib.hid (natOk_parts py.1)
      have cx0 := kx.here.cell 0 _ rfl
      have cx1 := kx.here.cell 1 _ rfl
      have cy0 := ky.here.cell 0 _ rfl
      have cy1 := ky.here.cell 1 _ rfl
      have hpx : x.1 = true → 0 < nval x.2 := fun h => okS_pos okx (px.2 h)
      have hpy : y.1 = true → 0 < nval y.2 := fun h => okS_pos oky (py.2 h)
      have HPX := Lib.hid hpx
      have HPY := Lib.hid hpy
      have rx := (ownI_of ox).row
      have ry := (ownI_of oy).row
      clear px py hpx hpy okx oky kx ky
      cases hx1 : x.1 <;> cases hy1 : y.1
      · rw [hx1] at cx0
        rw [hy1] at cy0
        have HC := Lib.hid (show cmpI (valS x) (valS y) = cmpI (nval x.2) (nval y.2) by unfold valS; rw [hx1, hy1]; rfl)
        clear hx1 hy1
        go_wp2_with fail
        refine (compareLimbs_any _ _ x.2 y.2 0 _ 0 _ w2 (by omega) (by omega) ⟨Dx.out.1, Dx.out.2.2⟩ ⟨Dy.out.1, Dy.out.2.2⟩ rx ry).mono ?_
        rintro e w' ⟨rfl, q, rfl⟩
        go_wp2
        go_ret
        exact ⟨ret_int (by rw [HV.out, HC.out]), below_drewN bb2 q⟩
      · rw [hx1] at cx0
        rw [hy1] at cy0
        have HC := Lib.hid (show cmpI (valS x) (valS y) = 1 by have := HPY.out hy1; unfold valS; rw [hx1, hy1]; simp; unfold cmpI; rw [if_neg (by omega), if_pos (by omega)])
        clear hx1 hy1
        go_wp2
        go_ret
        exact ⟨ret_int (by rw [HV.out, HC.out]), bb2⟩
      · rw [hx1] at cx0
        rw [hy1] at cy0
        have HC := Lib.hid (show cmpI (valS x) (valS y) = -1 by have := HPX.out hx1; unfold valS; rw [hx1, hy1]; simp; unfold cmpI; rw [if_pos (by omega)])
        clear hx1 hy1
        go_wp2
        go_ret
        exact ⟨ret_int (by rw [HV.out, HC.out]), bb2⟩
      · rw [hx1] at cx0
        rw [hy1] at cy0
        have HC := Lib.hid (show cmpI (valS x) (valS y) = cmpI (nval y.2) (nval x.2) by unfold valS; rw [hx1, hy1]; simp; unfold cmpI; split <;> split <;> (try split) <;> (try split) <;> omega)
        clear hx1 hy1
        go_wp2_with fail
        refine (compareLimbs_any _ _ y.2 x.2 0 _ 0 _ w2 (by omega) (by omega) ⟨Dy.out.1, Dy.out.2.2⟩ ⟨Dx.out.1, Dx.out.2.2⟩ ry rx).mono ?_
        rintro e w' ⟨rfl, q, rfl⟩
        go_wp2
        go_ret
        exact ⟨ret_int (by rw [HV.out, HC.out]), below_drewN bb2 q⟩
    · have oky' : okS y = false := by simpa using oky
      have HV := Lib.hid (show cmpS x y = 0 by unfold cmpS; rw [if_neg (fun h => oky h.2)])
      rw [oky']
      clear oky kx ky
      go_wp2
      go_ret
      exact ⟨ret_int HV.out.symm, bb2⟩
  · have okx' : okS x = false := by simpa using okx
    have HV := Lib.hid (show cmpS x y = 0 by unfold cmpS; rw [if_neg (fun h => okx h.1)])
    clear okx
    go_enter Tryd.func75, Tryd.ntmps75
    go_wp2_with fail
    refine (implIntOk_any _ x _ hlx rdx).mono ?_
    rintro e w1 ⟨rfl, b1⟩
    rw [okx']
    have bb1 := Below.next hbb b1
    clear kx ky rdx
    go_wp2
    go_ret
    exact ⟨ret_int HV.out.symm, bb1⟩

set_option maxHeartbeats 400000 in
set_option maxRecDepth 100000 in
theorem implIntSign_any (v : Value) (x : SI) (w : World) (hl : x.2.length ≤ 1048576) (h : OwnS v x w) :
    Calls Tryd.prog 71 #[v] w fun e w' => e = .returned (.int .i64 (cmpS x zeroS)) ∧ Below w.heap.size w w' := by
  obtain ⟨u, rfl, ho⟩ := h
  obtain ⟨A, c, rfl⟩ := own_len ho
  have hbb : Below w.heap.size w (w.alloc (.cells #[.bool x.1, .slice A x.2.length c] 30)) := below_al (Below.refl _ _) _
  have hoB := OwnS.mk (x := x) (ownI_of (own_below ho hbb))
  have hz : OwnS (.agg #[.bool false, .slice none 0 0]) zeroS (w.alloc (.cells #[.bool x.1, .slice A x.2.length c] 30)) := ⟨_, rfl, World.ownsRow_nil _ _ _ _⟩
  go_enter Tryd.func71, Tryd.ntmps71
  go_wp2_with fail
  refine (implIntCmp_any _ _ x zeroS _ hl (by decide) hoB hz).mono ?_
  rintro e w1 ⟨rfl, b1⟩
  go_wp2
  go_ret
  exact ⟨rfl, Below.next hbb b1⟩

end Go.Proofs.YtcenmdiblbooeaaDoor
