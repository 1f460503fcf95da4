/-
  ListMarkM, ShareMoneyW, ShareMoneyS, LawShareMoney, ShareMoneyI
-/
import Derived.Deep.DeepCutAuto
import Derived.Deep.RegionHeld3
import Derived.Test.YtofehcpapdlcnabGreatDoorJD12
namespace Go.Proofs.YtofehcpapdlcnabGreatDoor
open Go.RowKit

theorem own_lenM9 {w : World} {base n size : Nat} {e : TypeId} {v : Value} {xs : List Value} (h : w.ownsRow base e size v n xs) : ∃ A c, v = .slice A n c := by
  rcases h.2 with ⟨rfl, rfl⟩ | ⟨g, cap, cur, rfl, _⟩
  · exact ⟨_, _, rfl⟩
  · exact ⟨_, _, rfl⟩
/-- an element's cells stand for it, its limbs of the call's own -/
def CellML (p : ByteArray × Bool × Value) (x : MI) (w : World) : Prop := p.1 = x.1 ∧ p.2.1 = x.2.1 ∧ OwnI p.2.2 x.2.2 w
def ApartML (v : Value) (e : List (ByteArray × Bool × Value)) : Prop :=
  (∀ (i j : Nat) p q b, e[i]? = some p → e[j]? = some q → p.2.2.ownBlock = some b → q.2.2.ownBlock = some b → i = j) ∧ ∀ (i : Nat) p b, e[i]? = some p → p.2.2.ownBlock = some b → v.ownBlock ≠ some b
/-- such a slice, of the call's own -/
def OwnMLP (v : Value) (l : List MI) (w : World) : Prop :=
  ∃ e : List (ByteArray × Bool × Value), w.ownsRow 0 53 3 v l.length (flatM e) ∧ e.length = l.length ∧ (∀ (j : Nat) x p, l[j]? = some x → e[j]? = some p → CellML p x w) ∧ ApartML v e
theorem OwnMLP.below {v : Value} {l : List MI} {w w' : World} (h : OwnMLP v l w) (hb : Below w.heap.size w w') : OwnMLP v l w' := by
  obtain ⟨e, h4, h5, h6, h7⟩ := h
  refine ⟨e, own_below h4 hb, h5, fun j x p hx hp => ?_, h7⟩
  obtain ⟨e0, e1, ho⟩ := h6 j x p hx hp
  exact ⟨e0, e1, own_below ho hb⟩
theorem ownMLP_form {v : Value} {l : List MI} {w : World} (h : OwnMLP v l w) : ∃ A c, v = .slice A l.length c := by
  obtain ⟨_, h4, _⟩ := h
  exact own_lenM9 h4
/-- the blocks that it lies on -/
def blocksML (v : Value) (e : List (ByteArray × Bool × Value)) : List Nat := v.ownBlock.toList ++ e.flatMap fun p => p.2.2.ownBlock.toList
theorem blocksML_v {v : Value} {e : List (ByteArray × Bool × Value)} {b : Nat} (h : v.ownBlock = some b) : b ∈ blocksML v e := by
  unfold blocksML
  rw [h]
  simp
theorem blocksML_e {v : Value} {e : List (ByteArray × Bool × Value)} {p : ByteArray × Bool × Value} {b : Nat} (hp : p ∈ e) (h : p.2.2.ownBlock = some b) : b ∈ blocksML v e :=
  List.mem_append_right _ (List.mem_flatMap.2 ⟨p, hp, by rw [h]; simp⟩)
theorem blocksML_mem {v : Value} {e : List (ByteArray × Bool × Value)} {b : Nat} (h : b ∈ blocksML v e) : v.ownBlock = some b ∨ ∃ (j : Nat) (p : ByteArray × Bool × Value), e[j]? = some p ∧ p.2.2.ownBlock = some b := by
  rcases List.mem_append.1 h with h | h
  · left; simpa using h
  · right
    obtain ⟨p, hp, hb⟩ := List.mem_flatMap.1 h
    obtain ⟨j, hj⟩ := List.mem_iff_getElem?.1 hp
    exact ⟨j, p, hj, by simpa using hb⟩
theorem ownMLP_at {v : Value} {l : List MI} {w : World} {e : List (ByteArray × Bool × Value)} (h4 : w.ownsRow 0 53 3 v l.length (flatM e)) (hl : e.length = l.length) (h5 : ∀ (j : Nat) x p, l[j]? = some x → e[j]? = some p → CellML p x w) (h6 : ApartML v e) : At (blocksML v e) (OwnMLP v l) w := by
  refine ⟨⟨e, h4, hl, h5, h6⟩, fun g hg => ?_, fun w' hk => ⟨e, own_stays h4 fun g hg => hk g (blocksML_v hg), hl, fun j x p hx hp => ?_, h6⟩⟩
  · rcases blocksML_mem hg with h | ⟨j, p, hp, h⟩
    · exact (own_lt h4 h).2
    · obtain ⟨x, hx⟩ : ∃ x, l[j]? = some x := ⟨_, List.getElem?_eq_getElem (by have := (List.getElem?_eq_some_iff.1 hp).1; omega)⟩
      obtain ⟨e0, e1, ho⟩ := h5 j x p hx hp
      exact (own_lt ho h).2
  · obtain ⟨e0, e1, ho⟩ := h5 j x p hx hp
    exact ⟨e0, e1, own_stays ho fun g hg => hk g (blocksML_e (List.mem_of_getElem? hp) hg)⟩
/-- a fact that says what a row holds leans on its block -/
theorem at_row_memML {S : List Nat} {φ : World → Prop} {w : World} {u : Value} {T : TypeId} {size : Nat} (hT : ¬ T = 4) (h : At S φ w) (hi : ∀ w', φ w' → ∃ base n xs, w'.ownsRow base T size u n xs) : ∀ g, u.ownBlock = some g → g ∈ S := by
  intro g hg
  rcases Classical.em (g ∈ S) with hin | hout
  · exact hin
  · exfalso
    obtain ⟨b1, n1, x1, h1⟩ := hi _ h.here
    obtain ⟨b2, n2, x2, hst⟩ := hi _ (h.stays { w with heap := w.heap.set! g (.cells #[] 4 (0, 0)) } (fun i hi => by
      have : i ≠ g := fun e => hout (e ▸ hi)
      simp [Ne.symm this]))
    have hlt := (own_lt h1 hg).2
    obtain ⟨_, ⟨rfl, _⟩ | ⟨g', cap, cur, rfl, _, hh, _⟩⟩ := hst
    · cases hg
    · cases hg
      have hlt' : g' < w.heap.size := hlt
      have hh' : (w.heap.setIfInBounds g' (.cells #[] 4 (0, 0)))[g']? = some (.cells cur T (0, 0)) := hh
      rw [Array.getElem?_setIfInBounds_self_of_lt hlt'] at hh'
      injection hh' with hh'
      injection hh' with e1 e2
      exact hT e2.symm
theorem atMLP_mem {S : List Nat} {u : Value} {l : List MI} {w : World} (h : At S (OwnMLP u l) w) : ∃ e : List (ByteArray × Bool × Value), w.ownsRow 0 53 3 u l.length (flatM e) ∧ e.length = l.length ∧ (∀ (j : Nat) x p, l[j]? = some x → e[j]? = some p → CellML p x w) ∧ ApartML u e ∧ (∀ b, u.ownBlock = some b → b ∈ S) ∧ ∀ p ∈ e, ∀ b, p.2.2.ownBlock = some b → b ∈ S := by
  have hg : ∀ b, u.ownBlock = some b → b ∈ S := at_row_memML (T := 53) (size := 3) (by decide) h (fun W k => by
    obtain ⟨e, k4, _⟩ := k
    exact ⟨_, _, _, k4⟩)
  obtain ⟨e, h4, hl, h5, h6⟩ := h.here
  refine ⟨e, h4, hl, h5, h6, hg, fun p hp b hb => ?_⟩
  obtain ⟨j, hj⟩ := List.mem_iff_getElem?.1 hp
  have hjl : j < l.length := by have := (List.getElem?_eq_some_iff.1 hj).1; omega
  obtain ⟨x, hx⟩ : ∃ x, l[j]? = some x := ⟨_, List.getElem?_eq_getElem hjl⟩
  obtain ⟨g, cap, rfl, _, _, _⟩ := own_form h4 (by omega)
  have hgS := hg g rfl
  have hc := h4.cellAt (j * 3 + 2) (by omega)
  rw [(flatM_get hj).2.2] at hc
  have h' : At S (fun W => OwnMLP (.slice (some ⟨g, 0, none⟩) l.length cap) l W ∧ W.heap[g]? = w.heap[g]?) w := ⟨⟨h.here, rfl⟩, h.lt, fun W hk => ⟨h.stays W hk, hk g hgS⟩⟩
  refine at_row_memML (T := 3) (size := 1) (by decide) h' (fun W k => ?_) b hb
  obtain ⟨⟨e', k4, kl, k5, _⟩, kw⟩ := k
  obtain ⟨p', hp'⟩ : ∃ p', e'[j]? = some p' := ⟨_, List.getElem?_eq_getElem (by omega)⟩
  obtain ⟨_, _, ho'⟩ := k5 j x p' hx hp'
  have hc' := k4.cellAt (j * 3 + 2) (by omega)
  rw [(flatM_get hp').2.2] at hc'
  have e3 : W.cell? ⟨g, j * 3 + 2, none⟩ = w.cell? ⟨g, j * 3 + 2, none⟩ := World.cell?_of_block kw
  rw [e3, hc] at hc'
  rw [Option.some.inj hc']
  exact ⟨_, _, _, ho'⟩
/-! ### marks -/
def MarkedML (M : Int) (x : MI) (p : ByteArray × Bool × Value) (w : World) : Prop := p.1 = markB M ∧ p.2.1 = ((M + 1) % 3 == 0) ∧ MarkI p.2.2 x.2.2 (M + 1 + 1) w
/-- a slice of marks from m on -/
def MkMLP (v : Value) (l : List MI) (m : Int) (w : World) : Prop :=
  ∃ e : List (ByteArray × Bool × Value), w.ownsRow 0 53 3 v l.length (flatM e) ∧ e.length = l.length ∧ ∀ (j : Nat) x p, l[j]? = some x → e[j]? = some p → MarkedML (m + mkML (l.take j)) x p w
theorem flatML_set {e : List (ByteArray × Bool × Value)} {k : Nat} {p : ByteArray × Bool × Value} (h : e[k]? = some p) (a : ByteArray) (c : Bool) : ((flatM e).set (k * 3) (.string a)).set (k * 3 + 1) (.bool c) = flatM (e.set k (a, c, p.2.2)) := by
  induction e generalizing k with
  | nil => simp at h
  | cons q e ih =>
    cases k with
    | zero =>
      obtain rfl : q = p := by simpa using h
      rfl
    | succ k =>
      have := ih (k := k) (by simpa using h)
      rw [show (k + 1) * 3 = k * 3 + 1 + 1 + 1 by omega, List.set_cons_succ]
      show _ = _ :: _ :: _ :: flatM (e.set k _)
      rw [← this]
      rfl
def MkRelML (l : List MI) (e : List (ByteArray × Bool × Value)) (m : Int) (k : Nat) (f : List (ByteArray × Bool × Value)) (W : World) : Prop :=
  f.length = e.length ∧ (∀ (j : Nat) p q, e[j]? = some p → f[j]? = some q → q.2.2 = p.2.2) ∧ ∀ (j : Nat) x q, l[j]? = some x → f[j]? = some q → if j < k then MarkedML (m + mkML (l.take j)) x q W else OwnI q.2.2 x.2.2 W
theorem mkRelML_zero {l : List MI} {e : List (ByteArray × Bool × Value)} {m : Int} {w : World} (h : ∀ (j : Nat) x p, l[j]? = some x → e[j]? = some p → CellML p x w) : MkRelML l e m 0 e w :=
  ⟨rfl, fun j p q hp hq => by rw [hp] at hq; cases hq; rfl, fun j x q hx hq => by rw [if_neg (Nat.not_lt_zero _)]; exact (h j x q hx hq).2.2⟩
theorem mkRelML_step {l : List MI} {e f : List (ByteArray × Bool × Value)} {m z : Int} {k g : Nat} {W W' : World} {x : MI} {p : ByteArray × Bool × Value} (h : MkRelML l e m k f W)
    (ha : ∀ (i j : Nat) p q b, e[i]? = some p → e[j]? = some q → p.2.2.ownBlock = some b → q.2.2.ownBlock = some b → i = j) (hg : ∀ (i : Nat) p b, e[i]? = some p → p.2.2.ownBlock = some b → ¬ g = b)
    (hx : l[k]? = some x) (hp : f[k]? = some p) (c : Chg (g :: p.2.2.ownBlock.toList) W W') (hz : z = m + mkML (l.take k)) (hm : MarkI p.2.2 x.2.2 (z + 1 + 1) W') :
    MkRelML l e m (k + 1) (f.set k (markB z, ((z + 1) % 3 == 0), p.2.2)) W' := by
  obtain ⟨h1, h2, h3⟩ := h
  have hkf := (List.getElem?_eq_some_iff.1 hp).1
  have hpe : ∀ (j : Nat) q, f[j]? = some q → ∃ p0, e[j]? = some p0 ∧ q.2.2 = p0.2.2 := fun j q hq => by
    have hj := (List.getElem?_eq_some_iff.1 hq).1
    exact ⟨_, List.getElem?_eq_getElem (by omega), h2 j _ q (List.getElem?_eq_getElem (by omega)) hq⟩
  refine ⟨by rw [List.length_set]; exact h1, fun j p0 q hp0 hq => ?_, fun j y q hy hq => ?_⟩
  · by_cases hj : k = j
    · subst hj
      rw [List.getElem?_set_self hkf] at hq
      cases hq
      exact h2 k p0 p hp0 hp
    · rw [List.getElem?_set_ne hj] at hq
      exact h2 j p0 q hp0 hq
  · by_cases hj : k = j
    · subst hj
      rw [List.getElem?_set_self hkf] at hq
      cases hq
      rw [hx] at hy
      cases hy
      rw [if_pos (Nat.lt_succ_self _)]
      subst hz
      exact ⟨rfl, rfl, hm⟩
    · rw [List.getElem?_set_ne hj] at hq
      have hthis := h3 j y q hy hq
      have hkeep : ∀ b, q.2.2.ownBlock = some b → b < W.heap.size → W'.heap[b]? = W.heap[b]? := fun b hb hlt => c.block b hlt (fun hmem => by
        obtain ⟨q0, hq0, eq0⟩ := hpe j q hq
        obtain ⟨p0, hp0, ep0⟩ := hpe k p hp
        rw [eq0] at hb
        rcases List.mem_cons.1 hmem with rfl | hmem
        · exact hg j q0 _ hq0 hb rfl
        · rw [ep0] at hmem
          exact hj (ha k j p0 q0 b hp0 hq0 (by simpa using hmem) hb))
      by_cases hjk : j < k
      · rw [if_pos hjk] at hthis
        rw [if_pos (by omega)]
        obtain ⟨a0, a1, a5⟩ := hthis
        exact ⟨a0, a1, own_stays a5 fun b hb => hkeep b hb (own_lt a5 hb).2⟩
      · rw [if_neg hjk] at hthis
        rw [if_neg (by omega)]
        exact own_stays hthis fun b hb => hkeep b hb (own_lt hthis hb).2
theorem mkRelML_end {l : List MI} {e f : List (ByteArray × Bool × Value)} {m : Int} {W : World} {v : Value} (hl : e.length = l.length) (h : MkRelML l e m l.length f W) (ho : W.ownsRow 0 53 3 v l.length (flatM f)) : MkMLP v l m W :=
  ⟨f, ho, by rw [h.1, hl], fun j x p hx hp => by
    have := h.2.2 j x p hx hp
    rwa [if_pos (List.getElem?_eq_some_iff.1 hx).1] at this⟩
theorem MkMLP.below {v : Value} {l : List MI} {m : Int} {w w' : World} (h : MkMLP v l m w) (hb : Below w.heap.size w w') : MkMLP v l m w' := by
  obtain ⟨e, h1, h2, h3⟩ := h
  refine ⟨e, own_below h1 hb, h2, fun j x p hx hp => ?_⟩
  obtain ⟨a0, a1, a5⟩ := h3 j x p hx hp
  exact ⟨a0, a1, own_below a5 hb⟩
theorem mkRelML_at {l : List MI} {e f : List (ByteArray × Bool × Value)} {m : Int} {W : World} {v : Value} {S : List Nat} (hl : e.length = l.length) (h : MkRelML l e m l.length f W) (ho : W.ownsRow 0 53 3 v l.length (flatM f)) (h7 : ∀ b, v.ownBlock = some b → b ∈ S) (h8 : ∀ p ∈ e, ∀ b, p.2.2.ownBlock = some b → b ∈ S)
    (hS : ∀ g ∈ S, g < W.heap.size) : At S (MkMLP v l m) W :=
  ⟨mkRelML_end hl h ho, hS, fun w' hk => ⟨f, own_stays ho fun g hg => hk g (h7 g hg), by rw [h.1, hl], fun j x p hx hp => by
    have h3 := h.2.2 j x p hx hp
    rw [if_pos (List.getElem?_eq_some_iff.1 hx).1] at h3
    obtain ⟨a0, a1, a5⟩ := h3
    refine ⟨a0, a1, own_stays a5 fun g hg => hk g ?_⟩
    have hj := (List.getElem?_eq_some_iff.1 hp).1
    have hje : j < e.length := by have := h.1; omega
    have := h.2.1 j _ p (List.getElem?_eq_getElem hje) hp
    exact h8 _ (List.getElem_mem hje) g (this ▸ hg)⟩⟩
set_option maxHeartbeats 4000000 in
set_option maxRecDepth 100000 in
theorem markMLP_cal (v : Value) (l : List MI) (S : List Nat) (m : Int) (w : World) (hm : m + mkML l ≤ 9223372036854775807) (hm0 : 0 ≤ m) (h : At S (OwnMLP v l) w) :
    Calls Tryz.prog 32 #[v, .int .i64 m] w fun e' w' => e' = .returned (.int .i64 (m + mkML l)) ∧ At S (MkMLP v l m) w' ∧ Chg S w w' := by
  obtain ⟨e, ho, hel, hes, hap, hTv, hTe⟩ := atMLP_mem h
  have HLT := Lib.hid h.lt
  have HEL := Lib.hid hel
  have hln := mkML_nonneg l
  have hll : (l.length : Int) ≤ 9223372036854775807 := by have := mkML_len l; omega
  have HR0 := Lib.hid (mkRelML_zero (m := m) hes)
  have HAP := Lib.hid hap
  have HTV := Lib.hid hTv
  have HTE := Lib.hid hTe
  clear hes hel hap hTv hTe h
  obtain ⟨A, c, rfl⟩ := own_lenM9 ho
  go_enter Tryz.func32, Tryz.ntmps32
  go_wp2
  go_loopw [1, 5] (fun a i wr => ∃ (k : Nat) (z : Int) (f : List (ByteArray × Bool × Value)), k ≤ l.length ∧ i = .int .i64 k ∧ a = .int .i64 z ∧ Hid (z = m + mkML (l.take k)) ∧ wr.ownsRow 0 53 3 (.slice A l.length c) l.length (flatM f) ∧ Hid (MkRelML l e m k f wr) ∧ Chg S w wr) (fun _ i _ => l.length - (intOf i).toNat)
  case atStart => exact ⟨0, m, e, Nat.zero_le _, rfl, rfl, Lib.hid (by rw [List.take_zero]; show _ = _ + (0 : Int); omega), ho, HR0, Chg.refl _ _⟩
  case round =>
    clear ho HR0
    obtain ⟨k, z, f, hk, rfl, rfl, HZ, ho, HRL, hc⟩ := hrel
    by_cases hlt : k < l.length
    · obtain ⟨x, hxk⟩ : ∃ x, l[k]? = some x := ⟨_, List.getElem?_eq_getElem hlt⟩
      obtain ⟨g, cap, ev, _, hgl, _⟩ := own_form ho (by omega)
      cases ev
      have hfl : f.length = l.length := HRL.out.1.trans HEL.out
      obtain ⟨p, hpk⟩ : ∃ p, f[k]? = some p := ⟨_, List.getElem?_eq_getElem (by omega)⟩
      have hxs : (flatM f).length = l.length * 3 := ho.1
      have HT := Lib.hid (mkML_take hxk)
      have HTL := Lib.hid (mkML_take_le l (k + 1))
      have HT0 := Lib.hid (mkML_nonneg (l.take k))
      have hoi : OwnI p.2.2 x.2.2 wr := by
        have := HRL.out.2.2 k x p hxk hpk
        rwa [if_neg (Nat.lt_irrefl _)] at this
      obtain ⟨p0, hp0⟩ : ∃ p0, e[k]? = some p0 := ⟨_, List.getElem?_eq_getElem (by have := HEL.out; omega)⟩
      have hpp : p.2.2 = p0.2.2 := HRL.out.2.1 k p0 p hp0 hpk
      have hgp : ∀ b, p.2.2.ownBlock = some b → ¬ g = b := fun b hb he => HAP.out.2 k p0 b hp0 (hpp ▸ hb) (by rw [he]; rfl)
      have hgS : g ∈ S := HTV.out g rfl
      have hpS : ∀ b, p.2.2.ownBlock = some b → b ∈ S := fun b hb => HTE.out p0 (List.mem_of_getElem? hp0) b (hpp ▸ hb)
      have HSTEP := Lib.hid (show ∀ W', Chg (g :: p.2.2.ownBlock.toList) wr W' → MarkI p.2.2 x.2.2 (z + 1 + 1) W' → MkRelML l e m (k + 1) (f.set k (markB z, ((z + 1) % 3 == 0), p.2.2)) W' from
        fun W' hcW hmW => mkRelML_step HRL.out HAP.out.1 (fun i q b hq hb he => HAP.out.2 i q b hq hb (by rw [he]; rfl)) hxk hpk hcW HZ.out hmW)
      have HFS := Lib.hid (flatML_set hpk (markB z) ((z + 1) % 3 == 0))
      have hxL : (flatM f)[k * 3 + 2]? = some p.2.2 := (flatM_get hpk).2.2
      have hs0 : szS x.2 = x.2.2.length := rfl
      have hzb : 0 ≤ z ∧ (z + 1 + 1) + x.2.2.length ≤ 9223372036854775807 ∧ (z + 1 + 1) + x.2.2.length = m + mkML (l.take (k + 1)) := by
        have h1 := HZ.out
        have h2 := HT.out
        have h3 := HTL.out
        have h4 := HT0.out
        omega
      have hz0 : 0 ≤ z := hzb.1
      have hz1 : (z + 1 + 1) + x.2.2.length ≤ 9223372036854775807 := hzb.2.1
      have HZ2 := Lib.hid hzb.2.2
      have HO := Lib.hid ho
      have HC0 := Lib.hid hc
      have HXL := Lib.hid hxL
      have HOI := Lib.hid hoi
      have HGP := Lib.hid hgp
      have HGS := Lib.hid (And.intro hgS hpS)
      have HXS := Lib.hid hxs
      have HC := Lib.hid (Chg.refl (g :: p.2.2.ownBlock.toList) wr)
      generalize p.2.2 = P at *
      generalize flatM f = xs at *
      clear hc hzb HT HTL HT0 ho hxL hoi hgp hgS hpS HZ HRL hfl hpk hpp hxk hgl
      go_wp2_with fail
      refine (markText_any z _ (by omega)).mono ?_
      rintro e' w2 ⟨rfl, b2⟩
      have ho3 := own_below HO.out b2
      have hcell1 := ho3.cellAt (k * 3) (by omega)
      have hcell2 := ho3.cellAt (k * 3 + 1) (by omega)
      rw [List.getElem?_eq_getElem (by omega)] at hcell1 hcell2
      have hcell3 := ho3.cellAt (k * 3 + 2) (by omega)
      rw [HXL.out] at hcell3
      have hfr1 := ho3.frozenAt (k * 3)
      have hfr2 := ho3.frozenAt (k * 3 + 1)
      obtain ⟨ho4, _⟩ := ho3.stored (k * 3) (.string (markB z))
      obtain ⟨ho5, _⟩ := ho4.stored (k * 3 + 1) (.bool ((z + 1) % 3 == 0))
      have K1 := Lib.hid ho5
      have K3 := Lib.hid (show ((w2.setCell ⟨g, k * 3, none⟩ (.string (markB z))).setCell ⟨g, k * 3 + 1, none⟩ (.bool ((z + 1) % 3 == 0))).ownsRow 0 3 1 P x.2.2.length (intsV x.2.2) from own_stays (own_below HOI.out b2) fun i hi => by
        rw [Below.heap_setCell _ _ _ _ (Ne.symm (HGP.out i hi)), Below.heap_setCell _ _ _ _ (Ne.symm (HGP.out i hi))])
      have KC := Lib.hid (((HC.out.trans (Chg.of_below b2)).setCell (p := ⟨g, k * 3, none⟩) (List.mem_cons_self ..) (.string (markB z))).setCell (p := ⟨g, k * 3 + 1, none⟩) (List.mem_cons_self ..) (.bool ((z + 1) % 3 == 0)))
      clear ho3 ho4 ho5 HO HC HOI b2
      generalize hM2 : markB z = M2 at *
      go_wp2_with fail
      with_reducible refine (markIntS_any P x.2.2.length (intsV x.2.2) 0 (z + 1 + 1) _ (by omega) (by omega) K3.out).mono ?_
      rintro e' w3 ⟨rfl, o2, g2⟩
      clear hcell1 hcell2 hcell3 hfr1 hfr2
      have hlt2 := (own_lt K1.out (g := g) rfl).2
      have ho7 : w3.ownsRow 0 53 3 (.slice (some ⟨g, 0, none⟩) l.length c) l.length ((xs.set (k * 3) (.string M2)).set (k * 3 + 1) (.bool ((z + 1) % 3 == 0))) := own_stays K1.out fun i hi => by
        cases hi
        exact g2.block g hlt2 (fun e => HGP.out g e.symm rfl)
      have HC7 := Lib.hid (KC.out.trans ((Chg.of_grown g2).more (T := P.ownBlock.toList) fun i hi => List.mem_cons_of_mem _ hi))
      have HR7 := Lib.hid (HSTEP.out _ HC7.out o2)
      have HO7 := Lib.hid (HFS.out ▸ ho7)
      have HS7 := Lib.hid (HC0.out.trans (HC7.out.more fun i hi => by
        rcases List.mem_cons.1 hi with rfl | hi
        · exact HGS.out.1
        · exact HGS.out.2 i (by simpa using hi)))
      clear ho7 g2 o2 K1 K3 KC HSTEP HFS HC7
      go_wp2
      go_roundw
      case rel => exact ⟨k + 1, _, _, by omega, by go_num, rfl, HZ2, HO7.out, HR7, HS7.out⟩
      case measure => simp [intOf]; omega
    · obtain rfl : k = l.length := by omega
      have HV := Lib.hid (show m + mkML l = z by
        have h3 := HZ.out
        rw [List.take_length] at h3
        omega)
      have hall := Lib.hid (mkRelML_at HEL.out HRL.out ho HTV.out HTE.out (fun i hi => Nat.lt_of_lt_of_le (HLT.out i hi) hc.size))
      clear ho HRL
      go_wp2
      go_ret
      exact ⟨ret_int HV.out.symm, hall.out, hc⟩
theorem KeptML.next {w W w1 : World} {p : Addr} {u : Value} (h : W.cell? p = some u ∧ Below w.heap.size w W) (hp : p.block < w.heap.size) (hb : Below W.heap.size W w1) : w1.cell? p = some u ∧ Below w.heap.size w w1 :=
  ⟨(hb.cell (Nat.lt_of_lt_of_le hp h.2.size)).trans h.1, Below.next h.2 hb⟩
set_option maxHeartbeats 4000000 in
set_option maxRecDepth 100000 in
theorem heldMLP_cal (v : Value) (l : List MI) (m : Int) (w : World) (hm : m + mkML l ≤ 9223372036854775807) (hm0 : 0 ≤ m) (h : MkMLP v l m w) :
    Calls Tryz.prog 33 #[v, .int .i64 m] w (Postn (m + mkML l) w) := by
  obtain ⟨e, ho, hel, hes⟩ := h
  have HO := Lib.hid (show ∀ W, Below w.heap.size w W → W.ownsRow 0 53 3 v l.length (flatM e) from fun W hb => own_below ho hb)
  have HES := Lib.hid hes
  have HEL := Lib.hid hel
  have hln := mkML_nonneg l
  have hll : (l.length : Int) ≤ 9223372036854775807 := by have := mkML_len l; omega
  obtain ⟨A, c, rfl⟩ := own_lenM9 ho
  clear ho hel hes
  go_enter Tryz.func33, Tryz.ntmps33
  go_wp2
  go_loopw [1, 5] (fun a i wr => ∃ (k : Nat) (z : Int), k ≤ l.length ∧ i = .int .i64 k ∧ a = .int .i64 z ∧ Hid (z = m + mkML (l.take k)) ∧ Below w.heap.size w wr) (fun _ i _ => l.length - (intOf i).toNat)
  case atStart => exact ⟨0, m, Nat.zero_le _, rfl, rfl, Lib.hid (by rw [List.take_zero]; show _ = _ + (0 : Int); omega), Below.refl _ _⟩
  case round =>
    obtain ⟨k, z, hk, rfl, rfl, HZ, hb⟩ := hrel
    by_cases hlt : k < l.length
    · obtain ⟨x, hxk⟩ : ∃ x, l[k]? = some x := ⟨_, List.getElem?_eq_getElem hlt⟩
      have how := HO.out w (Below.refl _ _)
      obtain ⟨g, cap, ev, _, hgl, _⟩ := own_form how (by omega)
      cases ev
      obtain ⟨p, hpk⟩ : ∃ p, e[k]? = some p := ⟨_, List.getElem?_eq_getElem (by have := HEL.out; omega)⟩
      obtain ⟨q0, q1, qm⟩ := HES.out k x p hxk hpk
      rw [← HZ.out] at q0 q1 qm
      have HT := Lib.hid (mkML_take hxk)
      have HTL := Lib.hid (mkML_take_le l (k + 1))
      have HT0 := Lib.hid (mkML_nonneg (l.take k))
      have hf := flatM_get hpk
      rw [q0, q1] at hf
      have hs0 : szS x.2 = x.2.2.length := rfl
      have hzb : 0 ≤ z ∧ (z + 1 + 1) + x.2.2.length ≤ 9223372036854775807 ∧ (z + 1 + 1) + x.2.2.length = m + mkML (l.take (k + 1)) := by
        have h1 := HZ.out
        have h2 := HT.out
        have h3 := HTL.out
        have h4 := HT0.out
        omega
      have hz0 : 0 ≤ z := hzb.1
      have hz1 : (z + 1 + 1) + x.2.2.length ≤ 9223372036854775807 := hzb.2.1
      have HZ2 := Lib.hid hzb.2.2
      have HCC := Lib.hid (show ∀ W, Below w.heap.size w W → W.cell? ⟨g, k * 3, none⟩ = some (.string (markB z)) ∧ W.cell? ⟨g, k * 3 + 1, none⟩ = some (.bool ((z + 1) % 3 == 0)) ∧ W.cell? ⟨g, k * 3 + 2, none⟩ = some p.2.2 from fun W hW => ⟨((HO.out W hW).cellAt (k * 3) (by omega)).trans hf.1, ((HO.out W hW).cellAt (k * 3 + 1) (by omega)).trans hf.2.1, ((HO.out W hW).cellAt (k * 3 + 2) (by omega)).trans hf.2.2⟩)
      have HQM := Lib.hid (show ∀ W, Below w.heap.size w W → W.ownsRow 0 3 1 p.2.2 x.2.2.length (marksI (z + 1 + 1) x.2.2.length) from fun W hW => own_below qm hW)
      obtain ⟨Ap, cp, ep⟩ := own_len qm
      generalize p.2.2 = P at *
      subst ep
      have c0 := (HCC.out _ hb).1
      clear hf hzb HT HTL HT0 HZ q0 q1 qm how hxk hpk
      go_wp2
      go_region_held3 (fun W => W.cell? ⟨g, k * 3, none⟩ = some (Value.string (markB z)) ∧ Below w.heap.size w W) (first | exact ⟨by go_keep, hb.drew⟩ | exact KeptML.next ‹_ ∧ _› hgl b1)
        (first | (go_at_call 69; refine (markText_any _ _ (by omega)).mono ?_; rintro e' w1 ⟨rfl, b1⟩))
      have bb1 := Below.next hb.drew b1
      have c1 := (HCC.out _ bb1).2.1
      have c2 := (HCC.out _ bb1).2.2
      clear c0
      generalize markB z = M at *
      go_wp2_with fail
      with_reducible refine (heldIntS_any _ x.2.2.length 0 _ (z + 1 + 1) _ (by omega) (by omega) (Row.of_own (HQM.out _ bb1))).mono ?_
      rintro e' w3 ⟨rfl, rfl⟩
      clear c1 c2
      have hn : decide (z + 1 + 1 + (x.2.2.length : Int) < 0) = false := decide_eq_false (by omega)
      go_wp2
      go_roundw
      case rel => exact ⟨k + 1, _, by omega, by go_num, rfl, HZ2, bb1⟩
      case measure => simp [intOf]; omega
    · obtain rfl : k = l.length := by omega
      have HV := Lib.hid (show m + mkML l = z by
        have h3 := HZ.out
        rw [List.take_length] at h3
        omega)
      go_wp2
      go_ret
      exact ⟨ret_int HV.out.symm, hb⟩
/-- what a call answers: a new slice and a bool -/
def PostMLb (R0 : List MI) (R1 : Bool) (w : World) (e : Ending) (w' : World) : Prop :=
  ∃ (v : Value) (S : List Nat), e = .returned (.tuple #[v, .bool R1]) ∧ At S (OwnMLP v R0) w' ∧ Within S w.heap.size w'.heap.size ∧ Below w.heap.size w w'
theorem OwnMLP.ownR {v : Value} {l : List MI} {w : World} (h : OwnMLP v l w) : OwnMR w v l := by
  obtain ⟨e, h4, hlen, h5, _⟩ := h
  obtain ⟨A, c, rfl⟩ := own_lenM9 h4
  refine ⟨A, c, rfl, fun j x hj => ?_⟩
  have hjl := (List.getElem?_eq_some_iff.1 hj).1
  obtain ⟨g, cap, ev, _, hg, _⟩ := own_form h4 (by omega)
  cases ev
  obtain ⟨p, hp⟩ : ∃ p, e[j]? = some p := ⟨_, List.getElem?_eq_getElem (by omega)⟩
  obtain ⟨e0, e1, ho⟩ := h5 j x p hj hp
  have hf := flatM_get hp
  rw [e0, e1] at hf
  refine ⟨⟨g, 0, none⟩, p.2.2, rfl, hg, ?_, ?_, ?_, ho⟩
  · have := h4.cellAt (j * 3) (by omega)
    rw [hf.1] at this
    rw [add_ownM]
    exact this
  · have := h4.cellAt (j * 3 + 1) (by omega)
    rw [hf.2.1] at this
    rw [add_ownM]
    exact this
  · have := h4.cellAt (j * 3 + 2) (by omega)
    rw [hf.2.2] at this
    rw [add_ownM]
    exact this
end Go.Proofs.YtofehcpapdlcnabGreatDoor

namespace Go.Proofs.YtofehcpapdlcnabGreatDoor
open Go.RowKit

def shM (m : MI) (ws : List Int) : List MI × Bool := if (sharesR m.2 ws).2 = true ∧ okM m = true then ((sharesR m.2 ws).1.map fun x => (m.1, x), true) else ([], false)
theorem shM_no1 {m : MI} {ws : List Int} (h : (sharesR m.2 ws).2 = false) : shM m ws = ([], false) := if_neg (fun h1 => by rw [h] at h1; cases h1.1)
theorem shM_no2 {m : MI} {ws : List Int} (h : okM m = false) : shM m ws = ([], false) := if_neg (fun h1 => by rw [h] at h1; cases h1.2)
theorem shM_yes {m : MI} {ws : List Int} (h1 : (sharesR m.2 ws).2 = true) (h2 : okM m = true) : shM m ws = ((sharesR m.2 ws).1.map fun x => (m.1, x), true) := if_pos ⟨h1, h2⟩
theorem moneyInfoW : (Tryz.prog.info? 53).map (fun i => (i.zero, i.size, i.bytes)) = some (some (.agg #[.string ⟨#[]⟩, .bool false, .slice none 0 0]), 3, 48) := by kernel_rfl
/-- an amount's cells for a part's -/
def outC (cu : ByteArray) (e : List (Bool × Value)) : List (ByteArray × Bool × Value) := e.map fun p => (cu, p.1, p.2)
theorem outC_snoc {cu : ByteArray} {e : List (Bool × Value)} {k : Nat} {p : Bool × Value} (h : e[k]? = some p) : flatM (outC cu (e.take (k + 1))) = flatM (outC cu (e.take k)) ++ [.string cu, .bool p.1, p.2] := by
  have hk := (List.getElem?_eq_some_iff.1 h).1
  rw [List.take_succ_eq_append_getElem hk, (List.getElem?_eq_some_iff.1 h).2]
  unfold outC
  rw [List.map_append, flatM_append]
  rfl
theorem outC_at {cu : ByteArray} {e : List (Bool × Value)} {j : Nat} {q : ByteArray × Bool × Value} (h : (outC cu e)[j]? = some q) : ∃ p, e[j]? = some p ∧ q = (cu, p.1, p.2) := by
  unfold outC at h
  rw [List.getElem?_map] at h
  cases hp : e[j]? with
  | none => rw [hp] at h; cases h
  | some p => rw [hp] at h; exact ⟨p, rfl, by simpa using h.symm⟩
theorem outM_at {B : Nat} {v : Value} {ss : List SI} {e : List (Bool × Value)} {cu : ByteArray} {w : World} (hl : e.length = ss.length) (h3 : ∀ (j : Nat) x p, ss[j]? = some x → e[j]? = some p → p.1 = x.1 ∧ w.ownsRow B 3 1 p.2 x.2.length (intsV x.2))
    (h4 : ∀ (i j : Nat) p q b, e[i]? = some p → e[j]? = some q → p.2.ownBlock = some b → q.2.ownBlock = some b → i = j) (ho : w.ownsRow B 53 3 v ss.length (flatM (outC cu e))) :
    ∃ S, At S (OwnMLP v (ss.map fun x => (cu, x))) w ∧ Within S B w.heap.size := by
  have hlm : (ss.map fun x => ((cu, x) : MI)).length = ss.length := List.length_map ..
  have hlo : (outC cu e).length = e.length := by unfold outC; rw [List.length_map]
  have get : ∀ (j : Nat) (y : MI) q, (ss.map fun x => ((cu, x) : MI))[j]? = some y → (outC cu e)[j]? = some q → ∃ x p, ss[j]? = some x ∧ e[j]? = some p ∧ y = (cu, x) ∧ q = (cu, p.1, p.2) := fun j y q hy hq => by
    obtain ⟨p, hp, eq⟩ := outC_at hq
    rw [List.getElem?_map] at hy
    cases hx : ss[j]? with
    | none => rw [hx] at hy; cases hy
    | some x => rw [hx] at hy; exact ⟨x, p, rfl, hp, by simpa using hy.symm, eq⟩
  refine ⟨_, ownMLP_at (e := outC cu e) (by rw [hlm]; exact own_lowS ho (Nat.zero_le _)) (by rw [hlo, hlm, hl]) (fun j y q hy hq => ?_) ⟨fun i j p q b hp hq hpb hqb => ?_, fun i q b hq hb hv => ?_⟩, fun g hg => ?_⟩
  · obtain ⟨x, p, hx, hp, rfl, rfl⟩ := get j y q hy hq
    exact ⟨rfl, (h3 j x p hx hp).1, own_lowS (h3 j x p hx hp).2 (Nat.zero_le _)⟩
  · obtain ⟨p', hp', rfl⟩ := outC_at hp
    obtain ⟨q', hq', rfl⟩ := outC_at hq
    exact h4 i j p' q' b hp' hq' hpb hqb
  · obtain ⟨p, hp, rfl⟩ := outC_at hq
    obtain ⟨x, hx⟩ : ∃ x, ss[i]? = some x := ⟨_, List.getElem?_eq_getElem (by have := (List.getElem?_eq_some_iff.1 hp).1; omega)⟩
    exact own_typesS ho (h3 i x p hx hp).2 (by decide) hv hb
  · rcases blocksML_mem hg with hv | ⟨j, q, hq, hb⟩
    · exact own_lt ho hv
    · obtain ⟨p, hp, rfl⟩ := outC_at hq
      obtain ⟨x, hx⟩ : ∃ x, ss[j]? = some x := ⟨_, List.getElem?_eq_getElem (by have := (List.getElem?_eq_some_iff.1 hp).1; omega)⟩
      exact own_lt (h3 j x p hx hp).2 hb
theorem postMLb_nil {w w' : World} (hb : Below w.heap.size w w') : PostMLb [] false w (.returned (.tuple #[.slice none 0 0, .bool false])) w' := by
  have h : At (blocksML (.slice none 0 0) []) (OwnMLP (.slice none 0 0) []) w' := ownMLP_at (World.ownsRow_nil _ _ _ _) rfl (fun j x p hx => by simp at hx) ⟨fun i j p q b hp => by simp at hp, fun i p b hp => by simp at hp⟩
  exact ⟨_, _, rfl, h, fun g hg => by simp [blocksML, Value.ownBlock] at hg, hb⟩
theorem postMLb_is {q : List MI × Bool} {X : List MI} {b : Bool} (e : q = (X, b)) {w w' : World} {n : Ending} (h : PostMLb X b w n w') : PostMLb q.1 q.2 w n w' := by rw [e]; exact h
theorem ownMR_rdS {w : World} {v : Value} {l : List MI} (h : OwnMR w v l) : RdML w v l := by
  obtain ⟨A, c, rfl, h⟩ := h
  refine ⟨A, c, rfl, fun j x hj => ?_⟩
  obtain ⟨a, u, rfl, h1, h2, h3, h4, h5⟩ := h j x hj
  exact ⟨a, u, rfl, h1, h2, h3, h4, h5.row⟩
theorem szS_lenM {m : MI} (h : szM m ≤ 1048576) : m.2.2.length ≤ 1048576 := (szM_len h).2
theorem mkML_small {cu : ByteArray} {l : List SI} {n : Nat} (h : ∀ y ∈ l, y.2.length ≤ 50) (hl : l.length ≤ n) : mkML (l.map fun x => (cu, x)) ≤ 52 * n := by
  induction l generalizing n with
  | nil => show (0 : Int) ≤ _; omega
  | cons y l ih =>
    have h1 : mkML ((y :: l).map fun x => ((cu, x) : MI)) = 2 + szS y + mkML (l.map fun x => ((cu, x) : MI)) := rfl
    have h2 := h y (List.mem_cons_self ..)
    have h3 : szS y = y.2.length := rfl
    obtain ⟨k, rfl⟩ : ∃ k, n = k + 1 := ⟨n - 1, by simp at hl; omega⟩
    have := ih (n := k) (fun z hz => h z (List.mem_cons_of_mem _ hz)) (by simpa using hl)
    omega
theorem shM_mk (m : MI) (ws : List Int) : mkML (shM m ws).1 ≤ 1048576 := by
  unfold shM
  split
  · rename_i h
    have := mkML_small (cu := m.1) (sharesR_len m.2 ws).2 (okSh_len h.1)
    dsimp only
    omega
  · decide
theorem shM_big {m : MI} (ws : List Int) (h : szM m ≤ 1048576) : ∀ y ∈ (shM m ws).1, capM y := fun y hy => by
  unfold shM at hy
  split at hy
  · obtain ⟨x, hx, rfl⟩ := List.mem_map.1 hy
    have h1 := (sharesR_len m.2 ws).2 x hx
    have h2 := (szM_len h).1
    unfold capM
    dsimp only
    omega
  · cases hy
end Go.Proofs.YtofehcpapdlcnabGreatDoor

namespace Go.Proofs.YtofehcpapdlcnabGreatDoor
open Go.RowKit

set_option maxHeartbeats 4000000 in
set_option maxRecDepth 100000 in
theorem specShareMoney_any (v vw : Value) (m : MI) (ws : List Int) (lo hi : Nat) (w : World) (hlx : m.2.2.length ≤ 1048576) (hlw : ws.length ≤ 1048576) (hhi : hi ≤ w.heap.size) (h : OwnM v m w) (hr : Row w lo hi vw (intsV ws)) :
    Calls Tryz.prog 26 #[v, vw] w (PostMLb (shM m ws).1 (shM m ws).2 w) := by
  obtain ⟨iM, hiM, hM0, hM1, hM2⟩ := info_parts moneyInfoW
  obtain ⟨Am, cm, rfl⟩ := ownM_form h
  have HM := Lib.hid h
  have HS := Lib.hid (show ∀ W, Below w.heap.size w W → Calls Tryz.prog 17 #[.agg #[.bool m.2.1, .slice Am m.2.2.length cm], vw] W (SharesPost m.2 ws W) from fun W hb => specShares_any _ vw m.2 ws lo hi W hlx hlw (Nat.le_trans hhi hb.size) (OwnS.mk (ownM_open (OwnM.below h hb))) (Row.below hr hb hhi))
  obtain ⟨Aw, cw, rfl⟩ := row_form hr
  rw [intsV_length] at HS ⊢
  have bb0 : Below w.heap.size w (w.alloc (.cells #[.string m.1, .bool m.2.1, .slice Am m.2.2.length cm] 53)) := below_al (Below.refl _ _) _
  have km := box_new w #[.string m.1, .bool m.2.1, .slice Am m.2.2.length cm] 53
  clear h hr
  have HN1 := Lib.hid (shM_no1 (m := m) (ws := ws))
  have HN2 := Lib.hid (shM_no2 (m := m) (ws := ws))
  have HY := Lib.hid (shM_yes (m := m) (ws := ws))
  have hbl := okSh_len (x := m.2) (ws := ws)
  go_enter Tryz.func26, Tryz.ntmps26
  have km_c0 := km.here.cell 0 _ rfl
  have km_c1 := km.here.cell 1 _ rfl
  have km_c2 := km.here.cell 2 _ rfl
  go_wp2_with fail
  clear km_c0 km_c1 km_c2
  refine (HS.out _ bb0).mono ?_
  rintro e w1 ⟨u, rfl, hu, b1⟩
  have bb1 := Below.next bb0 b1
  replace km := km.below b1
  generalize (sharesR m.2 ws).2 = ok at *
  generalize (sharesR m.2 ws).1 = ss at *
  generalize shM m ws = R at *
  obtain ⟨Au, cu, rfl⟩ := rowS_len hu
  have HU := Lib.hid hu
  clear hu HS
  cases ok with
  | false =>
    have HV := Lib.hid (HN1.out rfl)
    clear HN1 HN2 HY hbl km
    go_wp2
    go_ret2
    exact postMLb_is HV.out (postMLb_nil bb1)
  | true =>
    have hss := hbl rfl
    clear hbl HN1
    have km_c0 := km.here.cell 0 _ rfl
    have km_c1 := km.here.cell 1 _ rfl
    have km_c2 := km.here.cell 2 _ rfl
    go_wp2_with fail
    clear km_c0 km_c1 km_c2
    refine (specMoneyOk_any _ m _ hlx (OwnM.below HM.out bb1)).mono ?_
    rintro e w2 ⟨rfl, b2⟩
    have bb2 := Below.next bb1 b2
    replace km := km.below b2
    obtain ⟨mb, hmb⟩ : ∃ b, okM m = b := ⟨_, rfl⟩
    rw [hmb]
    rw [hmb] at HN2 HY
    clear hmb
    cases mb with
    | false =>
      have HV := Lib.hid (HN2.out rfl)
      clear HN2 HY km
      go_wp2
      go_ret2
      exact postMLb_is HV.out (postMLb_nil bb2)
    | true =>
      have HV := Lib.hid (HY.out (by first | rfl | trivial) (by first | rfl | trivial))
      clear HN2 HY
      obtain ⟨e, h1, h2, h3, h4⟩ := RowS.below HU.out b2
      have hBB : w.heap.size ≤ (w.alloc (.cells #[.string m.1, .bool m.2.1, .slice Am m.2.2.length cm] 53)).heap.size := bb0.size
      have H1 := Lib.hid h1
      have H2 := Lib.hid h2
      have H3 := Lib.hid (show ∀ (j : Nat) x p, ss[j]? = some x → e[j]? = some p → p.1 = x.1 ∧ w2.ownsRow w.heap.size 3 1 p.2 x.2.length (intsV x.2) from fun j x p hx hp => ⟨(h3 j x p hx hp).1, own_lowS (h3 j x p hx hp).2 hBB⟩)
      have H4 := Lib.hid h4
      have HBB := Lib.hid bb2
      have KM := Lib.hid km
      clear h1 h2 h3 h4 HU HM km bb0 bb1 hBB b1 b2
      go_wp2
      go_loopw [8, 10, 28] (fun uw _ i wr => ∃ (k : Nat) (uv : Value), uv = uw ∧ k ≤ ss.length ∧ i = .int .i64 k ∧ wr.ownsRow w2.heap.size 53 3 uv k (flatM (outC m.1 (e.take k))) ∧ Below w2.heap.size w2 wr) (fun _ _ i _ => ss.length - (intOf i).toNat)
      case atStart => exact ⟨0, _, rfl, Nat.zero_le _, rfl, World.ownsRow_lit (e := 53) (size := 3) (base := w2.heap.size) w2 #[] 0 (Nat.le_refl _) (by unfold maxLen; omega) rfl, below_al (Below.refl _ _) _⟩
      case round =>
        obtain ⟨k, uv, rfl, hk, rfl, ho, hb⟩ := hrel
        by_cases hlt : k < ss.length
        · obtain ⟨x, hxk⟩ : ∃ x, ss[k]? = some x := ⟨_, List.getElem?_eq_getElem hlt⟩
          obtain ⟨⟨pb, P⟩, hpk⟩ : ∃ p, e[k]? = some p := ⟨_, List.getElem?_eq_getElem (by have := H2.out; omega)⟩
          have hu := own_below H1.out hb
          obtain ⟨g, cap, ev, _, hgl, _⟩ := own_form hu (by omega)
          cases ev
          have hf := flatC_get hpk
          dsimp only at hf
          have k0 := hu.cellAt (k * 2) (by omega)
          rw [hf.1] at k0
          have k1 := hu.cellAt (k * 2 + 1) (by omega)
          rw [hf.2] at k1
          have HSN := Lib.hid (outC_snoc (cu := m.1) hpk)
          obtain ⟨Ap, cp, ep⟩ := own_len (own_zero (H3.out k x _ hxk hpk).2)
          dsimp only at ep
          subst ep
          have hnew : ∀ (j : Nat) (z : Value), [Value.string m.1, Value.bool pb, Value.slice Ap x.2.length cp][j]? = some z → ((wr.alloc (.cells #[.bool pb, .slice Ap x.2.length cp] 29)).alloc (.cells #[.string m.1, .bool pb, .slice Ap x.2.length cp] 53)).cell? (Addr.add ⟨wr.heap.size + 1, 0, none⟩ j) = some z := by
            have h := three_newQ (wr.alloc (.cells #[.bool pb, .slice Ap x.2.length cp] 29)) (.string m.1) (.bool pb) (.slice Ap x.2.length cp) 53
            rw [show (wr.alloc (.cells #[.bool pb, .slice Ap x.2.length cp] 29)).heap.size = wr.heap.size + 1 by simp] at h
            exact h
          have HB := Lib.hid (show Below w2.heap.size w2 ((wr.alloc (.cells #[.bool pb, .slice Ap x.2.length cp] 29)).alloc (.cells #[.string m.1, .bool pb, .slice Ap x.2.length cp] 53)) from below_al (below_al hb _) _)
          have c0 := ((KM.out.below hb).below (below_al (Below.refl _ _) (.cells #[.bool pb, .slice Ap x.2.length cp] 29))).here.cell 0 _ rfl
          have hzb := hb.size
          have HO := Lib.hid (own_alloc (own_alloc ho (.cells #[.bool pb, .slice Ap x.2.length cp] 29)) (.cells #[.string m.1, .bool pb, .slice Ap x.2.length cp] 53))
          have HLT := Lib.hid (show ∀ b, uv.ownBlock = some b → w2.heap.size ≤ b from fun b hb => (own_lt ho hb).1)
          clear hf hu ho hb hxk hpk
          go_wp2_with (at_builtin; refine wpList_append_own _ rfl _ _ 49 rfl w2.heap.size 53 iM (.agg #[.string ⟨#[]⟩, .bool false, .slice none 0 0]) 3 48 Tryz.underlying49 hiM hM0 hM1 hM2 rfl (by decide) uv k (flatM (outC m.1 (e.take k))) rfl HO.out ⟨wr.heap.size + 1, 0, none⟩ 1 1 [.string m.1, .bool pb, .slice Ap x.2.length cp] rfl rfl hnew ?c2 ?c3 ?c4 ?c5 ?_)
          case c2 => exact ⟨rfl, rfl, rfl⟩
          case c3 => unfold maxLen; omega
          case c4 => omega
          case c5 => omega
          intro v2 w3 hown2 hg2 _
          have HB3 := Lib.hid (show Below w2.heap.size w2 w3 from HB.out.grown hg2 HB.out.size HLT.out)
          have HROW := Lib.hid (show w3.ownsRow w2.heap.size 53 3 v2 (k + 1) (flatM (outC m.1 (e.take (k + 1)))) by rw [HSN.out]; exact hown2)
          clear hown2 hg2 k0 k1 c0 hnew
          go_wp2
          go_roundw
          case rel => exact ⟨k + 1, _, rfl, by omega, by go_num, HROW.out, HB3.out⟩
          case measure => simp [intOf]; omega
        · obtain rfl : k = ss.length := by omega
          rw [List.take_of_length_le (by have := H2.out; omega)] at ho
          have hfin := outM_at (B := w.heap.size) H2.out (fun j x p hx hp => ⟨(H3.out j x p hx hp).1, own_below (H3.out j x p hx hp).2 hb⟩) H4.out (own_lowS ho HBB.out.size)
          obtain ⟨S, ha, hw⟩ := hfin
          have HA := Lib.hid ha
          have HW := Lib.hid hw
          have HBL := Lib.hid (Below.next HBB.out hb)
          clear ha hw ho hb
          go_wp2
          go_ret2
          exact postMLb_is HV.out ⟨uv, S, rfl, HA.out, HW.out, HBL.out⟩
end Go.Proofs.YtofehcpapdlcnabGreatDoor

namespace Go.Proofs.YtofehcpapdlcnabGreatDoor
open Go.RowKit

set_option maxHeartbeats 4000000 in
set_option maxRecDepth 100000 in
theorem lawShareMoney_walk (vm vws : Value) (m : MI) (ws : List Int) (R0 : List MI) (R1 : Bool) (w : World)
    (hS : ∀ (um uws : Value) (W : World), OwnM um m W → OwnI uws ws W → Calls Tryz.prog 26 #[um, uws] W (PostMLb R0 R1 W))
    (hI : ∀ (um uws : Value) (W : World), OwnM um m W → OwnI uws ws W → CurTab W → Sen W → Calls Tryz.prog 28 #[um, uws] W (PostMLb R0 R1 W))
    (ht0 : CurTab w) (ht1 : Sen w) (hl : szM m ≤ 1048576) (hlws : ws.length ≤ 1048576) (hlR0 : mkML R0 ≤ 1048576) (hxR0 : ∀ y ∈ R0, capM y) (rm : RdM w vm m) (rws : Row w 0 w.heap.size vws (intsV ws)) :
    Calls Tryz.prog 6 #[vm, vws] w fun e w' => e = .returned (.bool true) ∧ Below w.heap.size w w' := by
  have HS := Lib.hid hS
  have HI := Lib.hid hI
  clear hS hI
  have HT0 := Lib.hid ht0
  clear ht0
  have HT1 := Lib.hid ht1
  clear ht1
  have hsm := szM_nonneg m
  have hsR0 := mkML_nonneg R0
  have HXR0 := Lib.hid hxR0
  clear hxR0
  have hmm := mkM_range m
  have hzm : szM m ≤ 1048576 := by omega
  obtain ⟨Am, cm, rfl⟩ := rdM_form rm
  have hwlws : ¬ (1048576 : Int) < (ws.length : Int) := by omega
  obtain ⟨Aws, cws, rfl⟩ := row_form rws
  rw [intsV_length] at rws ⊢
  have RFws : Hid (∀ W, Below w.heap.size w W → Row W 0 w.heap.size (.slice Aws ws.length cws) (intsV ws)) := Lib.hid fun W hb => rws.below hb (Nat.le_refl _)
  have bb0 : Below w.heap.size w (w.alloc (.cells #[.string m.1, .bool m.2.1, .slice Am m.2.2.length cm] 47)) := below_al (Below.refl _ _) _
  have km := box_new w #[.string m.1, .bool m.2.1, .slice Am m.2.2.length cm] 47
  have RFm : Hid (∀ W, Below w.heap.size w W → RdM W (.agg #[.string m.1, .bool m.2.1, .slice Am m.2.2.length cm]) m) := Lib.hid fun W hb => rm.below hb
  go_enter Tryz.func6, Tryz.ntmps6
  have km_c0 := km.here.cell 0 _ rfl
  have km_c1 := km.here.cell 1 _ rfl
  have km_c2 := km.here.cell 2 _ rfl
  go_wp2_with fail
  clear km_c0 km_c1 km_c2
  refine (szM_cal _ m (1048576) _ (capM_of hzm) (by omega) (by omega) (RFm.out _ bb0)).mono ?_
  rintro e w1 ⟨rfl, b1⟩
  rw [leftI_of (by omega)]
  have bb1 := Below.next bb0 b1
  replace km := km.below b1
  have hn : decide (((1048576 : Int) - szM m : Int) < 0) = false := decide_eq_false (by omega)
  have HKm := Lib.hid (km.lt (w.heap.size) (by simp))
  have km_c0 := km.here.cell 0 _ rfl
  have km_c1 := km.here.cell 1 _ rfl
  have km_c2 := km.here.cell 2 _ rfl
  go_wp2_with fail
  refine (toM_new _ m _ hzm (RFm.out _ bb1)).mono ?_
  rintro e wt0 ⟨ut0, St0, rfl, ot0, lt0, bt0⟩
  obtain ⟨At0, ct0, rfl⟩ := ownM_form ot0.here
  have bbt0 := Below.next bb1 bt0
  go_wp2_with fail
  refine (toIntS_at _ ws 0 w.heap.size _ (by have := (bbt0).size; omega) (by omega) (RFws.out _ bbt0)).mono ?_
  rintro e wt1 ⟨ut1, St1, rfl, ot1, lt1, bt1⟩
  obtain ⟨At1, ct1, rfl⟩ := own_len ot1.here
  replace ot0 := ot0.below bt1
  have bbt1 := Below.next bbt0 bt1
  have bct1 := Below.next bt0 bt1
  clear km_c0 km_c1 km_c2
  go_wp2_with fail
  refine (HS.out _ _ _ ot0.here ot1.here).mono ?_
  rintro e w2 ⟨uw0, Sw0, rfl, ow0, lw0, bf⟩
  obtain ⟨Aw0, cw0, rfl⟩ := ownMLP_form ow0.here
  have b2 := Below.next bct1 bf
  have bb2 := Below.next bb1 b2
  replace km := km.below b2
  have km_c0 := km.here.cell 0 _ rfl
  have km_c1 := km.here.cell 1 _ rfl
  have km_c2 := km.here.cell 2 _ rfl
  go_upto_region 8 with fail
  go_cut [8] (fun s wx => NewLocV 53 (fun v => OwnM v m) w2 s wx)
  case first =>
    go_wp2_with fail
    refine (toM_new _ m _ hzm (RFm.out _ bb2)).mono ?_
    rintro e wt ⟨ut, St, rfl, ot, lt, bt⟩
    obtain ⟨At, ct, rfl⟩ := ownM_form ot.here
    go_wp2_with fail
    go_meet
    exact newLocV_last ot lt (Nat.le_refl _) bt
  rename World => w3
  clear km_c0 km_c1 km_c2
  obtain ⟨gxm, csxm, Sxm, rfl, kxm, oxm, nxm, lxm, b3⟩ := hcut
  obtain ⟨Axm, cxm, exm⟩ := ownM_form oxm.here
  injection exm with exm
  subst exm
  have bb3 := Below.next bb2 b3
  replace km := km.below b3
  replace ow0 := ow0.below b3
  go_wp2_with fail
  refine (toIntS_at _ ws 0 w.heap.size _ (by have := (bb3).size; omega) (by omega) (RFws.out _ bb3)).mono ?_
  rintro e w4 ⟨uxws, Sxws, rfl, oxws, lxws, b4⟩
  obtain ⟨Axws, cxws, rfl⟩ := own_len oxws.here
  have bb4 := Below.next bb3 b4
  replace km := km.below b4
  replace ow0 := ow0.below b4
  replace kxm := kxm.below b4
  replace oxm := oxm.below b4
  have kxm_c0 := kxm.here.cell 0 _ rfl
  have kxm_c1 := kxm.here.cell 1 _ rfl
  have kxm_c2 := kxm.here.cell 2 _ rfl
  go_wp2_with fail
  clear kxm_c0 kxm_c1 kxm_c2
  refine (HI.out _ _ _ oxm.here oxws.here (HT0.out.below bb4) (HT1.out.below bb4)).mono ?_
  rintro e w5 ⟨ug0, Sg0, rfl, og0, lg0, b5⟩
  obtain ⟨Ag0, cg0, rfl⟩ := ownMLP_form og0.here
  have bb5 := Below.next bb4 b5
  replace km := km.below b5
  replace ow0 := ow0.below b5
  replace kxm := kxm.below b5
  replace oxm := oxm.below b5
  replace oxws := oxws.below b5
  go_wp2_with fail
  refine (eqMoneyS_any _ _ R0 R0 _ (by have := mkML_len R0; omega) HXR0.out (ownMR_rdS (OwnMLP.ownR og0.here)) (ownMR_rdS (OwnMLP.ownR ow0.here))).mono ?_
  rintro e w6 ⟨rfl, b6⟩
  rw [decide_refl]
  have bb6 := Below.next bb5 b6
  replace km := km.below b6
  replace ow0 := ow0.below b6
  replace kxm := kxm.below b6
  replace oxm := oxm.below b6
  replace oxws := oxws.below b6
  replace og0 := og0.below b6
  have km_c0 := km.here.cell 0 _ rfl
  have km_c1 := km.here.cell 1 _ rfl
  have km_c2 := km.here.cell 2 _ rfl
  have kxm_c0 := kxm.here.cell 0 _ rfl
  have kxm_c1 := kxm.here.cell 1 _ rfl
  have kxm_c2 := kxm.here.cell 2 _ rfl
  go_wp2_with fail
  have HB0 := Lib.hid (show Below w6.heap.size w6 w6.drew from (Below.refl _ _).drew)
  have KL := Lib.hid (show ∀ W, Below w6.heap.size w6 W → W.cell? ⟨w.heap.size, 0, none⟩ = some (.string m.1) ∧ W.cell? ⟨w.heap.size, 1, none⟩ = some (.bool m.2.1) ∧ W.cell? ⟨w.heap.size, 2, none⟩ = some (.slice Am m.2.2.length cm) ∧ W.cell? ⟨gxm, 0, none⟩ = some (.string m.1) ∧ W.cell? ⟨gxm, 1, none⟩ = some (.bool m.2.1) ∧ W.cell? ⟨gxm, 2, none⟩ = some (.slice Axm m.2.2.length cxm) ∧ Hid (Below w6.heap.size w6 W) from
    fun W hb => ⟨(km.below hb).here.cell 0 _ rfl, (km.below hb).here.cell 1 _ rfl, (km.below hb).here.cell 2 _ rfl, (kxm.below hb).here.cell 0 _ rfl, (kxm.below hb).here.cell 1 _ rfl, (kxm.below hb).here.cell 2 _ rfl, Lib.hid hb⟩)
  have BBF := Lib.hid (show ∀ W, Below w6.heap.size w6 W → Below w.heap.size w W from fun W hb => Below.next bb6 hb)
  have OXF := Lib.hid (show ∀ W, Below w6.heap.size w6 W → OwnM (.agg #[.string m.1, .bool m.2.1, .slice Axm m.2.2.length cxm]) m W from fun W hb => (oxm.below hb).here)
  clear km_c0 km_c1 km_c2 kxm_c0 kxm_c1 kxm_c2
  go_region_held3 (fun W => W.cell? ⟨w.heap.size, 0, none⟩ = some (.string m.1) ∧ W.cell? ⟨w.heap.size, 1, none⟩ = some (.bool m.2.1) ∧ W.cell? ⟨w.heap.size, 2, none⟩ = some (.slice Am m.2.2.length cm) ∧ W.cell? ⟨gxm, 0, none⟩ = some (.string m.1) ∧ W.cell? ⟨gxm, 1, none⟩ = some (.bool m.2.1) ∧ W.cell? ⟨gxm, 2, none⟩ = some (.slice Axm m.2.2.length cxm) ∧ Hid (Below w6.heap.size w6 W))
    ((refine KL.out _ ?_; (first | exact HBe.out | exact HBt.out | exact HB0.out | fail)))
    (first
      | (go_at_call 27; (have hBB := (‹_ ∧ _ ∧ _ ∧ _ ∧ _ ∧ _ ∧ Hid (Below w6.heap.size w6 _)›).2.2.2.2.2.2); (with_reducible refine (toM_new _ m _ hzm (RFm.out _ (BBF.out _ hBB.out))).mono ?_); rintro e wt ⟨t, St, rfl, ot, lt, bt⟩; have HBt := Lib.hid (Below.next hBB.out bt); clear hBB)
      | (go_at_call 30; (have hBB := (‹_ ∧ _ ∧ _ ∧ _ ∧ _ ∧ _ ∧ Hid (Below w6.heap.size w6 _)›).2.2.2.2.2.2); (with_reducible refine (eqM_cal _ _ m m _ (capM_of hzm) (OwnM.rd (OXF.out _ hBB.out)) (OwnM.rd ot.here)).mono ?_); rintro e w7 ⟨rfl, be⟩; rw [decide_refl]; have HBe := Lib.hid (Below.next hBB.out be); clear hBB))
  have b7 := HBe.out
  have bb7 := Below.next bb6 b7
  replace km := km.below b7
  replace ow0 := ow0.below b7
  replace kxm := kxm.below b7
  replace oxm := oxm.below b7
  replace oxws := oxws.below b7
  replace og0 := og0.below b7
  clear HB0 KL BBF OXF HBt HBe ot lt
  go_wp2_with fail
  refine (toIntS_at _ ws 0 w.heap.size _ (by have := (bb7).size; omega) (by omega) (RFws.out _ bb7)).mono ?_
  rintro e wt ⟨ut, St, rfl, ot, lt, bt⟩
  obtain ⟨At, ct, rfl⟩ := own_len ot.here
  go_wp2_with fail
  refine (eqIntS_at _ _ ws ws _ (by omega) (oxws.below bt).here ot.here).mono ?_
  rintro e w8 ⟨rfl, be⟩
  rw [decide_refl]
  have b8 := Below.next bt be
  have bb8 := Below.next bb7 b8
  replace km := km.below b8
  replace ow0 := ow0.below b8
  replace kxm := kxm.below b8
  replace oxm := oxm.below b8
  replace oxws := oxws.below b8
  replace og0 := og0.below b8
  clear ot lt be bt
  have z1 := b1.size
  have z2 := b2.size
  have z3 := b3.size
  have z4 := b4.size
  have z5 := b5.size
  have z6 := b6.size
  have z7 := b7.size
  have z8 := b8.size
  have AP_xm_xws := Lib.hid (Within.apart lxm lxws (.inl (by omega)))
  have AP_xm_g0 := Lib.hid (Within.apart lxm lg0 (.inl (by omega)))
  have AP_xws_g0 := Lib.hid (Within.apart lxws lg0 (.inl (by omega)))
  have AP_w0_xm := Lib.hid (Within.apart lw0 lxm (.inl (by omega)))
  have AP_w0_xws := Lib.hid (Within.apart lw0 lxws (.inl (by omega)))
  have AP_w0_g0 := Lib.hid (Within.apart lw0 lg0 (.inl (by omega)))
  have F_xm := Lib.hid (Within.from (B := w.heap.size) lxm (by have := bb1.size; omega))
  have N_xm := Lib.hid nxm
  have KX_m_xm := Lib.hid (show ∀ i ∈ [w.heap.size], i ∉ gxm :: Sxm from fun i hi hm => by have h1 := (lxm i hm).1; have h2 := HKm.out; simp at hi; omega)
  have F_xws := Lib.hid (Within.from (B := w.heap.size) lxws (by have := bb1.size; omega))
  have KX_m_xws := Lib.hid (show ∀ i ∈ [w.heap.size], i ∉ Sxws from fun i hi hm => by have h1 := (lxws i hm).1; have h2 := HKm.out; simp at hi; omega)
  have F_g0 := Lib.hid (Within.from (B := w.heap.size) lg0 (by have := bb1.size; omega))
  have KX_m_g0 := Lib.hid (show ∀ i ∈ [w.heap.size], i ∉ Sg0 from fun i hi hm => by have h1 := (lg0 i hm).1; have h2 := HKm.out; simp at hi; omega)
  clear z1 z2 z3 z4 z5 z6 z7 z8
  have kxm_c0 := kxm.here.cell 0 _ rfl
  have kxm_c1 := kxm.here.cell 1 _ rfl
  have kxm_c2 := kxm.here.cell 2 _ rfl
  go_wp2_with fail
  clear kxm_c0 kxm_c1 kxm_c2
  refine (markM_cal _ m _ (1) _ (by omega) (by omega) oxm).mono ?_
  rintro e w9 ⟨rfl, mkxm, c9⟩
  clear oxm
  have bb9 := below_chg bb8 c9 bb8.size (fun i hi => F_xm.out i (List.mem_cons_of_mem _ hi))
  replace km := km.chg c9 (fun i hi hm => KX_m_xm.out i hi (List.mem_cons_of_mem _ hm))
  replace ow0 := ow0.chg c9 (fun i hi hm => AP_w0_xm.out i hi (List.mem_cons_of_mem _ hm))
  replace kxm := kxm.chg c9 (fun i hi hm => by simp at hi; subst hi; exact N_xm.out hm)
  replace oxws := oxws.chg c9 (fun i hi hm => (apart_symm AP_xm_xws.out) i hi (List.mem_cons_of_mem _ hm))
  replace og0 := og0.chg c9 (fun i hi hm => (apart_symm AP_xm_g0.out) i hi (List.mem_cons_of_mem _ hm))
  have hsiws : szI ws = ws.length := rfl
  go_wp2_with fail
  refine (markIntS_at _ ws _ (1 + mkM m) _ (by omega) (by omega) oxws).mono ?_
  rintro e w10 ⟨rfl, mkxws, c10⟩
  clear oxws
  have bb10 := below_chg bb9 c10 bb9.size (fun i hi => F_xws.out i hi)
  replace km := km.chg c10 (fun i hi hm => KX_m_xws.out i hi hm)
  replace ow0 := ow0.chg c10 (fun i hi hm => AP_w0_xws.out i hi hm)
  replace kxm := kxm.chg c10 (fun i hi hm => AP_xm_xws.out i (by simp at hi; subst hi; exact List.mem_cons_self ..) hm)
  replace og0 := og0.chg c10 (fun i hi hm => (apart_symm AP_xws_g0.out) i hi hm)
  replace mkxm := mkxm.chg c10 (fun i hi hm => AP_xm_xws.out i (List.mem_cons_of_mem _ hi) hm)
  have hk : decide (((1 + mkM m + szI ws) : Int) < 0) = false := decide_eq_false (by omega)
  go_wp2_with fail
  refine (eqMoneyS_any _ _ R0 R0 _ (by have := mkML_len R0; omega) HXR0.out (ownMR_rdS (OwnMLP.ownR og0.here)) (ownMR_rdS (OwnMLP.ownR ow0.here))).mono ?_
  rintro e w11 ⟨rfl, b11⟩
  rw [decide_refl]
  have bb11 := Below.next bb10 b11
  replace km := km.below b11
  replace ow0 := ow0.below b11
  replace kxm := kxm.below b11
  replace og0 := og0.below b11
  replace mkxm := mkxm.below b11
  replace mkxws := mkxws.below b11
  clear hk
  go_wp2_with fail
  refine (markMLP_cal _ R0 _ (1) _ (by omega) (by omega) og0).mono ?_
  rintro e w12 ⟨rfl, mkg0, c12⟩
  clear og0
  have bb12 := below_chg bb11 c12 bb11.size (fun i hi => F_g0.out i hi)
  replace km := km.chg c12 (fun i hi hm => KX_m_g0.out i hi hm)
  replace ow0 := ow0.chg c12 (fun i hi hm => AP_w0_g0.out i hi hm)
  replace kxm := kxm.chg c12 (fun i hi hm => AP_xm_g0.out i (by simp at hi; subst hi; exact List.mem_cons_self ..) hm)
  replace mkxm := mkxm.chg c12 (fun i hi hm => AP_xm_g0.out i (List.mem_cons_of_mem _ hi) hm)
  replace mkxws := mkxws.chg c12 (fun i hi hm => AP_xws_g0.out i hi hm)
  go_wp2_with fail
  refine (heldMLP_cal _ R0 (1) _ (by omega) (by omega) mkg0.here).mono ?_
  rintro e w13 ⟨rfl, b13⟩
  have bb13 := Below.next bb12 b13
  replace km := km.below b13
  replace ow0 := ow0.below b13
  replace kxm := kxm.below b13
  replace mkxm := mkxm.below b13
  replace mkxws := mkxws.below b13
  replace mkg0 := mkg0.below b13
  have hq13 : decide ((1 : Int) + mkML R0 < 0) = false := decide_eq_false (by omega)
  have km_c0 := km.here.cell 0 _ rfl
  have km_c1 := km.here.cell 1 _ rfl
  have km_c2 := km.here.cell 2 _ rfl
  go_wp2_with fail
  refine (toM_new _ m _ hzm (RFm.out _ bb13)).mono ?_
  rintro e wt0 ⟨ut0, St0, rfl, ot0, lt0, bt0⟩
  obtain ⟨At0, ct0, rfl⟩ := ownM_form ot0.here
  have bbt0 := Below.next bb13 bt0
  go_wp2_with fail
  refine (toIntS_at _ ws 0 w.heap.size _ (by have := (bbt0).size; omega) (by omega) (RFws.out _ bbt0)).mono ?_
  rintro e wt1 ⟨ut1, St1, rfl, ot1, lt1, bt1⟩
  obtain ⟨At1, ct1, rfl⟩ := own_len ot1.here
  replace ot0 := ot0.below bt1
  have bbt1 := Below.next bbt0 bt1
  have bct1 := Below.next bt0 bt1
  clear km_c0 km_c1 km_c2
  go_wp2_with fail
  refine (HI.out _ _ _ ot0.here ot1.here (HT0.out.below bbt1) (HT1.out.below bbt1)).mono ?_
  rintro e w14 ⟨uh0, Sh0, rfl, oh0, lh0, bf⟩
  obtain ⟨Ah0, ch0, rfl⟩ := ownMLP_form oh0.here
  have b14 := Below.next bct1 bf
  have bb14 := Below.next bb13 b14
  replace km := km.below b14
  replace ow0 := ow0.below b14
  replace kxm := kxm.below b14
  replace mkxm := mkxm.below b14
  replace mkxws := mkxws.below b14
  replace mkg0 := mkg0.below b14
  go_wp2_with fail
  refine (eqMoneyS_any _ _ R0 R0 _ (by have := mkML_len R0; omega) HXR0.out (ownMR_rdS (OwnMLP.ownR oh0.here)) (ownMR_rdS (OwnMLP.ownR ow0.here))).mono ?_
  rintro e w15 ⟨rfl, b15⟩
  rw [decide_refl]
  have bb15 := Below.next bb14 b15
  replace km := km.below b15
  replace ow0 := ow0.below b15
  replace kxm := kxm.below b15
  replace mkxm := mkxm.below b15
  replace mkxws := mkxws.below b15
  replace mkg0 := mkg0.below b15
  replace oh0 := oh0.below b15
  go_wp2_with fail
  refine (heldMLP_cal _ R0 (1) _ (by omega) (by omega) mkg0.here).mono ?_
  rintro e w16 ⟨rfl, b16⟩
  have bb16 := Below.next bb15 b16
  replace km := km.below b16
  replace ow0 := ow0.below b16
  replace kxm := kxm.below b16
  replace mkxm := mkxm.below b16
  replace mkxws := mkxws.below b16
  replace mkg0 := mkg0.below b16
  replace oh0 := oh0.below b16
  have hq16 : decide ((1 : Int) + mkML R0 < 0) = false := decide_eq_false (by omega)
  go_wp2
  go_ret
  exact ⟨rfl, bb16⟩
set_option maxHeartbeats 1000000 in
set_option maxRecDepth 100000 in
theorem lawShareMoney (vm vws : Value) (m : MI) (ws : List Int) (w : World)
    (hI : szM m ≤ 1048576 → ws.length ≤ 1048576 → ∀ (um uws : Value) (W : World), OwnM um m W → OwnI uws ws W → CurTab W → Sen W → Calls Tryz.prog 28 #[um, uws] W (PostMLb ((shM m ws).1) ((shM m ws).2) W))
    (hcm : capM m) (hcl : (ws.length : Int) ≤ 9223372036854775807) (ht0 : CurTab w) (ht1 : Sen w) (rm : RdM w vm m) (rws : Row w 0 w.heap.size vws (intsV ws)) :
    Calls Tryz.prog 6 #[vm, vws] w fun e w' => e = .returned (.bool true) ∧ Below w.heap.size w w' := by
  have hsm := szM_nonneg m
  by_cases hlws : ws.length ≤ 1048576
  case neg =>
    have hwl : ¬ (ws.length : Int) ≤ 1048576 := by omega
    have hwl2 : (1048576 : Int) < ws.length := by omega
    obtain ⟨Am, cm, rfl⟩ := rdM_form rm
    obtain ⟨Aws, cws, rfl⟩ := row_form rws
    rw [intsV_length] at rws ⊢
    have bb0 : Below w.heap.size w (w.alloc (.cells #[.string m.1, .bool m.2.1, .slice Am m.2.2.length cm] 47)) := below_al (Below.refl _ _) _
    have km := box_new w #[.string m.1, .bool m.2.1, .slice Am m.2.2.length cm] 47
    go_enter Tryz.func6, Tryz.ntmps6
    go_wp2
    go_ret
    exact ⟨rfl, bb0⟩
  case pos =>
    have hwlws : ¬ (1048576 : Int) < (ws.length : Int) := by omega
    by_cases hl : szM m ≤ 1048576
    case neg =>
      have RF := rm
      obtain ⟨Am, cm, rfl⟩ := rdM_form rm
      obtain ⟨Aws, cws, rfl⟩ := row_form rws
      rw [intsV_length] at rws ⊢
      have bb0 : Below w.heap.size w (w.alloc (.cells #[.string m.1, .bool m.2.1, .slice Am m.2.2.length cm] 47)) := below_al (Below.refl _ _) _
      have km := box_new w #[.string m.1, .bool m.2.1, .slice Am m.2.2.length cm] 47
      go_enter Tryz.func6, Tryz.ntmps6
      have km_c0 := km.here.cell 0 _ rfl
      have km_c1 := km.here.cell 1 _ rfl
      have km_c2 := km.here.cell 2 _ rfl
      go_wp2_with fail
      clear km_c0 km_c1 km_c2
      refine (szM_cal _ m (1048576) _ hcm (by omega) (by omega) (rm.below bb0)).mono ?_
      rintro e w1 ⟨rfl, b1⟩
      have bb1 := Below.next bb0 b1
      replace km := km.below b1
      rw [show leftI (1048576) (szM m) = -1 by unfold leftI; rw [if_pos (by omega)]]
      go_wp2
      go_ret
      exact ⟨rfl, bb1⟩
    case pos =>
      exact lawShareMoney_walk vm vws m ws ((shM m ws).1) ((shM m ws).2) w (fun um uws W hm hws => specShareMoney_any um uws m ws 0 W.heap.size W (szS_lenM hl) hlws (Nat.le_refl _) hm (OwnI.row hws)) (hI hl hlws ) ht0 ht1 hl  hlws (shM_mk m ws) (shM_big ws hl) rm rws 
end Go.Proofs.YtofehcpapdlcnabGreatDoor

namespace Go.Proofs.YtofehcpapdlcnabGreatDoor
open Go.RowKit

set_option maxHeartbeats 4000000 in
set_option maxRecDepth 100000 in
theorem implShareMoney_any (v vw : Value) (m : MI) (ws : List Int) (lo hi : Nat) (w : World) (hlx : m.2.2.length ≤ 1048576) (hlw : ws.length ≤ 1048576) (hhi : hi ≤ w.heap.size) (h : OwnM v m w) (hr : Row w lo hi vw (intsV ws)) (ht : CurTab w) (hsen : Sen w) :
    Calls Tryz.prog 28 #[v, vw] w (PostMLb (shM m ws).1 (shM m ws).2 w) := by
  obtain ⟨iM, hiM, hM0, hM1, hM2⟩ := info_parts moneyInfoW
  have HT := Lib.hid ht
  have HSE := Lib.hid hsen
  clear ht hsen
  obtain ⟨Am, cm, rfl⟩ := ownM_form h
  have HM := Lib.hid h
  have HS := Lib.hid (show ∀ W, Below w.heap.size w W → Calls Tryz.prog 18 #[.agg #[.bool m.2.1, .slice Am m.2.2.length cm], vw] W (SharesPost m.2 ws W) from fun W hb => implShares_any _ vw m.2 ws lo hi W hlx hlw (Nat.le_trans hhi hb.size) (OwnS.mk (ownM_open (OwnM.below h hb))) (Row.below hr hb hhi) (HSE.out.below hb))
  obtain ⟨Aw, cw, rfl⟩ := row_form hr
  rw [intsV_length] at HS ⊢
  have bb0 : Below w.heap.size w (w.alloc (.cells #[.string m.1, .bool m.2.1, .slice Am m.2.2.length cm] 53)) := below_al (Below.refl _ _) _
  have km := box_new w #[.string m.1, .bool m.2.1, .slice Am m.2.2.length cm] 53
  clear h hr
  have HN1 := Lib.hid (shM_no1 (m := m) (ws := ws))
  have HN2 := Lib.hid (shM_no2 (m := m) (ws := ws))
  have HY := Lib.hid (shM_yes (m := m) (ws := ws))
  have hbl := okSh_len (x := m.2) (ws := ws)
  go_enter Tryz.func28, Tryz.ntmps28
  have km_c0 := km.here.cell 0 _ rfl
  have km_c1 := km.here.cell 1 _ rfl
  have km_c2 := km.here.cell 2 _ rfl
  go_wp2_with fail
  clear km_c0 km_c1 km_c2
  refine (HS.out _ bb0).mono ?_
  rintro e w1 ⟨u, rfl, hu, b1⟩
  have bb1 := Below.next bb0 b1
  replace km := km.below b1
  generalize (sharesR m.2 ws).2 = ok at *
  generalize (sharesR m.2 ws).1 = ss at *
  generalize shM m ws = R at *
  obtain ⟨Au, cu, rfl⟩ := rowS_len hu
  have HU := Lib.hid hu
  clear hu HS
  cases ok with
  | false =>
    have HV := Lib.hid (HN1.out rfl)
    clear HN1 HN2 HY hbl km
    go_wp2
    go_ret2
    exact postMLb_is HV.out (postMLb_nil bb1)
  | true =>
    have hss := hbl rfl
    clear hbl HN1
    have km_c0 := km.here.cell 0 _ rfl
    have km_c1 := km.here.cell 1 _ rfl
    have km_c2 := km.here.cell 2 _ rfl
    go_wp2_with fail
    clear km_c0 km_c1 km_c2
    refine (implMoneyOk_any _ m _ hlx (OwnM.below HM.out bb1) (HT.out.below bb1)).mono ?_
    rintro e w2 ⟨rfl, b2⟩
    have bb2 := Below.next bb1 b2
    replace km := km.below b2
    obtain ⟨mb, hmb⟩ : ∃ b, okM m = b := ⟨_, rfl⟩
    rw [hmb]
    rw [hmb] at HN2 HY
    clear hmb
    cases mb with
    | false =>
      have HV := Lib.hid (HN2.out rfl)
      clear HN2 HY km
      go_wp2
      go_ret2
      exact postMLb_is HV.out (postMLb_nil bb2)
    | true =>
      have HV := Lib.hid (HY.out (by first | rfl | trivial) (by first | rfl | trivial))
      clear HN2 HY
      obtain ⟨e, h1, h2, h3, h4⟩ := RowS.below HU.out b2
      have hBB : w.heap.size ≤ (w.alloc (.cells #[.string m.1, .bool m.2.1, .slice Am m.2.2.length cm] 53)).heap.size := bb0.size
      have H1 := Lib.hid h1
      have H2 := Lib.hid h2
      have H3 := Lib.hid (show ∀ (j : Nat) x p, ss[j]? = some x → e[j]? = some p → p.1 = x.1 ∧ w2.ownsRow w.heap.size 3 1 p.2 x.2.length (intsV x.2) from fun j x p hx hp => ⟨(h3 j x p hx hp).1, own_lowS (h3 j x p hx hp).2 hBB⟩)
      have H4 := Lib.hid h4
      have HBB := Lib.hid bb2
      have KM := Lib.hid km
      clear h1 h2 h3 h4 HU HM km bb0 bb1 hBB b1 b2
      go_wp2
      go_loopw [8, 10, 27] (fun uw _ i wr => ∃ (k : Nat) (uv : Value), uv = uw ∧ k ≤ ss.length ∧ i = .int .i64 k ∧ wr.ownsRow w2.heap.size 53 3 uv k (flatM (outC m.1 (e.take k))) ∧ Below w2.heap.size w2 wr) (fun _ _ i _ => ss.length - (intOf i).toNat)
      case atStart => exact ⟨0, _, rfl, Nat.zero_le _, rfl, World.ownsRow_nil _ _ _ _, Below.refl _ _⟩
      case round =>
        obtain ⟨k, uv, rfl, hk, rfl, ho, hb⟩ := hrel
        by_cases hlt : k < ss.length
        · obtain ⟨x, hxk⟩ : ∃ x, ss[k]? = some x := ⟨_, List.getElem?_eq_getElem hlt⟩
          obtain ⟨⟨pb, P⟩, hpk⟩ : ∃ p, e[k]? = some p := ⟨_, List.getElem?_eq_getElem (by have := H2.out; omega)⟩
          have hu := own_below H1.out hb
          obtain ⟨g, cap, ev, _, hgl, _⟩ := own_form hu (by omega)
          cases ev
          have hf := flatC_get hpk
          dsimp only at hf
          have k0 := hu.cellAt (k * 2) (by omega)
          rw [hf.1] at k0
          have k1 := hu.cellAt (k * 2 + 1) (by omega)
          rw [hf.2] at k1
          have HSN := Lib.hid (outC_snoc (cu := m.1) hpk)
          obtain ⟨Ap, cp, ep⟩ := own_len (own_zero (H3.out k x _ hxk hpk).2)
          dsimp only at ep
          subst ep
          have hnew : ∀ (j : Nat) (z : Value), [Value.string m.1, Value.bool pb, Value.slice Ap x.2.length cp][j]? = some z → ((wr.alloc (.cells #[.bool pb, .slice Ap x.2.length cp] 29)).alloc (.cells #[.string m.1, .bool pb, .slice Ap x.2.length cp] 53)).cell? (Addr.add ⟨wr.heap.size + 1, 0, none⟩ j) = some z := by
            have h := three_newQ (wr.alloc (.cells #[.bool pb, .slice Ap x.2.length cp] 29)) (.string m.1) (.bool pb) (.slice Ap x.2.length cp) 53
            rw [show (wr.alloc (.cells #[.bool pb, .slice Ap x.2.length cp] 29)).heap.size = wr.heap.size + 1 by simp] at h
            exact h
          have HB := Lib.hid (show Below w2.heap.size w2 ((wr.alloc (.cells #[.bool pb, .slice Ap x.2.length cp] 29)).alloc (.cells #[.string m.1, .bool pb, .slice Ap x.2.length cp] 53)) from below_al (below_al hb _) _)
          have c0 := ((KM.out.below hb).below (below_al (Below.refl _ _) (.cells #[.bool pb, .slice Ap x.2.length cp] 29))).here.cell 0 _ rfl
          have hzb := hb.size
          have HO := Lib.hid (own_alloc (own_alloc ho (.cells #[.bool pb, .slice Ap x.2.length cp] 29)) (.cells #[.string m.1, .bool pb, .slice Ap x.2.length cp] 53))
          have HLT := Lib.hid (show ∀ b, uv.ownBlock = some b → w2.heap.size ≤ b from fun b hb => (own_lt ho hb).1)
          clear hf hu ho hb hxk hpk
          go_wp2_with (at_builtin; refine wpList_append_own _ rfl _ _ 49 rfl w2.heap.size 53 iM (.agg #[.string ⟨#[]⟩, .bool false, .slice none 0 0]) 3 48 Tryz.underlying49 hiM hM0 hM1 hM2 rfl (by decide) uv k (flatM (outC m.1 (e.take k))) rfl HO.out ⟨wr.heap.size + 1, 0, none⟩ 1 1 [.string m.1, .bool pb, .slice Ap x.2.length cp] rfl rfl hnew ?c2 ?c3 ?c4 ?c5 ?_)
          case c2 => exact ⟨rfl, rfl, rfl⟩
          case c3 => unfold maxLen; omega
          case c4 => omega
          case c5 => omega
          intro v2 w3 hown2 hg2 _
          have HB3 := Lib.hid (show Below w2.heap.size w2 w3 from HB.out.grown hg2 HB.out.size HLT.out)
          have HROW := Lib.hid (show w3.ownsRow w2.heap.size 53 3 v2 (k + 1) (flatM (outC m.1 (e.take (k + 1)))) by rw [HSN.out]; exact hown2)
          clear hown2 hg2 k0 k1 c0 hnew
          go_wp2
          go_roundw
          case rel => exact ⟨k + 1, _, rfl, by omega, by go_num, HROW.out, HB3.out⟩
          case measure => simp [intOf]; omega
        · obtain rfl : k = ss.length := by omega
          rw [List.take_of_length_le (by have := H2.out; omega)] at ho
          have hfin := outM_at (B := w.heap.size) H2.out (fun j x p hx hp => ⟨(H3.out j x p hx hp).1, own_below (H3.out j x p hx hp).2 hb⟩) H4.out (own_lowS ho HBB.out.size)
          obtain ⟨S, ha, hw⟩ := hfin
          have HA := Lib.hid ha
          have HW := Lib.hid hw
          have HBL := Lib.hid (Below.next HBB.out hb)
          clear ha hw ho hb
          go_wp2
          go_ret2
          exact postMLb_is HV.out ⟨uv, S, rfl, HA.out, HW.out, HBL.out⟩
end Go.Proofs.YtofehcpapdlcnabGreatDoor
