/-
  What a stable sort of places does, plainly: insertion, rotation, the merge of two parts in order, and the first places of a row in order.
-/
import Derived.Test.YtipbdpdmefcofaaDoorNatPlain
namespace Go.Proofs.YtipbdpdmefcofaaDoor

/-- place i comes ahead of place j: the greater rest, or the same and earlier -/
def Ah (r : Nat → Nat) (i j : Nat) : Prop := r j < r i ∨ (r j = r i ∧ i < j)
def swp (f : Nat → Nat) (i j : Nat) : Nat → Nat := fun k => if k = i then f j else if k = j then f i else f k
/-- g is f but for the places from a up to b, where it holds the same numbers -/
def Same (a b : Nat) (f g : Nat → Nat) : Prop := (∀ k, ¬ (a ≤ k ∧ k < b) → g k = f k) ∧ (∀ v, (∃ k, a ≤ k ∧ k < b ∧ g k = v) ↔ (∃ k, a ≤ k ∧ k < b ∧ f k = v))
def Srt (r f : Nat → Nat) (a b : Nat) : Prop := ∀ i j, a ≤ i → i < j → j < b → Ah r (f i) (f j)
theorem ah_trans {r : Nat → Nat} {i j k : Nat} (h : Ah r i j) (h2 : Ah r j k) : Ah r i k := by unfold Ah at *; omega
theorem ah_irr {r : Nat → Nat} {i : Nat} (h : Ah r i i) : False := by unfold Ah at *; omega
theorem ah_ne {r : Nat → Nat} {i j : Nat} (h : Ah r i j) : i ≠ j := fun e => by subst e; exact ah_irr h
theorem ah_asymm {r : Nat → Nat} {i j : Nat} (h : Ah r i j) (h2 : Ah r j i) : False := ah_irr (ah_trans h h2)
theorem same_refl (a b : Nat) (f : Nat → Nat) : Same a b f f := ⟨fun _ _ => rfl, fun _ => Iff.rfl⟩
theorem same_trans {a b : Nat} {f g h : Nat → Nat} (h1 : Same a b f g) (h2 : Same a b g h) : Same a b f h :=
  ⟨fun k hk => (h2.1 k hk).trans (h1.1 k hk), fun v => (h2.2 v).trans (h1.2 v)⟩
theorem same_wide {a b c d : Nat} {f g : Nat → Nat} (h : Same a b f g) (h1 : c ≤ a) (h2 : b ≤ d) : Same c d f g := by
  refine ⟨fun k hk => h.1 k (by omega), fun v => ⟨fun ⟨k, hk1, hk2, e⟩ => ?_, fun ⟨k, hk1, hk2, e⟩ => ?_⟩⟩
  · by_cases hk : a ≤ k ∧ k < b
    · obtain ⟨k', x, y, z⟩ := (h.2 v).1 ⟨k, hk.1, hk.2, e⟩
      exact ⟨k', by omega, by omega, z⟩
    · exact ⟨k, hk1, hk2, by rw [← h.1 k hk]; exact e⟩
  · by_cases hk : a ≤ k ∧ k < b
    · obtain ⟨k', x, y, z⟩ := (h.2 v).2 ⟨k, hk.1, hk.2, e⟩
      exact ⟨k', by omega, by omega, z⟩
    · exact ⟨k, hk1, hk2, by rw [h.1 k hk]; exact e⟩
theorem same_swp {a b : Nat} (f : Nat → Nat) {i j : Nat} (hi : a ≤ i ∧ i < b) (hj : a ≤ j ∧ j < b) : Same a b f (swp f i j) := by
  refine ⟨fun k hk => ?_, fun v => ⟨fun ⟨k, hk1, hk2, e⟩ => ?_, fun ⟨k, hk1, hk2, e⟩ => ?_⟩⟩
  · unfold swp; rw [if_neg (by omega), if_neg (by omega)]
  · unfold swp at e
    split at e
    · exact ⟨j, hj.1, hj.2, e⟩
    · split at e
      · exact ⟨i, hi.1, hi.2, e⟩
      · exact ⟨k, hk1, hk2, e⟩
  · by_cases h1 : k = i
    · refine ⟨j, hj.1, hj.2, ?_⟩
      unfold swp
      by_cases h2 : j = i
      · rw [if_pos h2, h2, ← h1]; exact e
      · rw [if_neg h2, if_pos rfl, ← h1]; exact e
    · by_cases h2 : k = j
      · exact ⟨i, hi.1, hi.2, by unfold swp; rw [if_pos rfl, ← h2]; exact e⟩
      · exact ⟨k, hk1, hk2, by unfold swp; rw [if_neg h1, if_neg h2]; exact e⟩

/-- the inner loop of the insertion: place i's number stands at j -/
structure Ins (r f0 f : Nat → Nat) (a i j : Nat) : Prop where
  same : Same a (i + 1) f0 f
  aj : a ≤ j
  ji : j ≤ i
  here : f j = i
  less : ∀ p, a ≤ p → p ≤ i → p ≠ j → f p < i
  rest : ∀ p q, a ≤ p → p < q → q ≤ i → p ≠ j → q ≠ j → Ah r (f p) (f q)
  past : ∀ q, j < q → q ≤ i → Ah r (f j) (f q)
theorem ins_start {r f0 : Nat → Nat} {a i : Nat} (h : Srt r f0 a i) (hi : f0 i = i) (ha : a ≤ i) (hl : ∀ p, a ≤ p → p < i → f0 p < i) : Ins r f0 f0 a i i :=
  ⟨same_refl _ _ _, ha, Nat.le_refl _, hi, fun p h1 h2 h3 => hl p h1 (by omega), fun p q h1 h2 h3 h4 h5 => h p q h1 h2 (by omega), fun q h1 h2 => by omega⟩
theorem ins_step {r f0 f : Nat → Nat} {a i j : Nat} (h : Ins r f0 f a i j) (hj : a < j) (hr : r (f (j - 1)) < r (f j)) : Ins r f0 (swp f j (j - 1)) a i (j - 1) := by
  have ji := h.ji
  have hs : Same a (i + 1) f (swp f j (j - 1)) := same_swp f ⟨by omega, by omega⟩ ⟨by omega, by omega⟩
  have e1 : swp f j (j - 1) (j - 1) = f j := by unfold swp; rw [if_neg (by omega), if_pos rfl]
  have e2 : swp f j (j - 1) j = f (j - 1) := by unfold swp; rw [if_pos rfl]
  have e3 : ∀ p, p ≠ j → p ≠ j - 1 → swp f j (j - 1) p = f p := fun p h1 h2 => by unfold swp; rw [if_neg h1, if_neg h2]
  refine ⟨same_trans h.same hs, by omega, by omega, by rw [e1]; exact h.here, fun p h1 h2 h3 => ?_, fun p q h1 h2 h3 h4 h5 => ?_, fun q h1 h2 => ?_⟩
  · by_cases hp : p = j
    · rw [hp, e2]; exact h.less _ (by omega) (by omega) (by omega)
    · rw [e3 p hp h3]; exact h.less p h1 h2 hp
  · by_cases hp : p = j
    · rw [hp, e2, e3 q (by omega) (by omega)]; exact h.rest _ _ (by omega) (by omega) h3 (by omega) (by omega)
    · rw [e3 p hp h4]
      by_cases hq : q = j
      · rw [hq, e2]; exact h.rest _ _ h1 (by omega) (by omega) hp (by omega)
      · rw [e3 q hq h5]; exact h.rest _ _ h1 h2 h3 hp hq
  · rw [e1]
    by_cases hq : q = j
    · rw [hq, e2]; exact Or.inl hr
    · rw [e3 q hq (by omega)]; exact h.past q (by omega) h2
theorem ins_end {r f0 f : Nat → Nat} {a i j : Nat} (h : Ins r f0 f a i j) (hj : j = a ∨ ¬ r (f (j - 1)) < r (f j)) : Srt r f a (i + 1) := by
  have ji := h.ji
  have aj := h.aj
  intro p q h1 h2 h3
  by_cases hp : p = j
  · rw [hp]; exact h.past q (by omega) (by omega)
  · by_cases hq : q = j
    · have hne : a < j := by omega
      have hr : ¬ r (f (j - 1)) < r (f j) := by omega
      have hl : Ah r (f (j - 1)) (f j) := by
        have := h.less (j - 1) (by omega) (by omega) (by omega)
        rw [← h.here] at this
        unfold Ah; omega
      rw [hq]
      by_cases hp1 : p = j - 1
      · rw [hp1]; exact hl
      · exact ah_trans (h.rest p (j - 1) h1 (by omega) (by omega) hp (by omega)) hl
    · exact h.rest p q h1 h2 (by omega) hp hq
/-- the outer loop -/
structure Insd (r x f : Nat → Nat) (a b i : Nat) : Prop where
  same : Same a i x f
  srt : Srt r f a i
  ai : a < i
  ib : i ≤ b
theorem insd_in {r x f : Nat → Nat} {a b i : Nat} (h : Insd r x f a b i) (hx : ∀ k, a ≤ k → k < b → x k = k) (hi : i < b) : Ins r f f a i i := by
  refine ins_start h.srt ?_ (by have := h.ai; omega) ?_
  · rw [h.same.1 i (by omega)]; exact hx i (by have := h.ai; omega) hi
  · intro p h1 h2
    obtain ⟨k, k1, k2, e⟩ := (h.same.2 (f p)).1 ⟨p, h1, h2, rfl⟩
    rw [hx k k1 (by omega)] at e
    omega
theorem insd_out {r x f g : Nat → Nat} {a b i j : Nat} (h : Insd r x f a b i) (hi : i < b) (h2 : Ins r f g a i j) (hj : j = a ∨ ¬ r (g (j - 1)) < r (g j)) : Insd r x g a b (i + 1) :=
  ⟨same_trans (same_wide h.same (Nat.le_refl _) (by omega)) h2.same, ins_end h2 hj, by have := h.ai; omega, by omega⟩

/-- the two parts from a to m and from m to b, exchanged -/
def rot (f : Nat → Nat) (a m b : Nat) : Nat → Nat := fun k => if a ≤ k ∧ k < a + (b - m) then f (k + (m - a)) else if a + (b - m) ≤ k ∧ k < b then f (k - (b - m)) else f k
/-- n numbers at a and n at b, exchanged -/
def swpR (f : Nat → Nat) (a b n : Nat) : Nat → Nat := fun k => if a ≤ k ∧ k < a + n then f (k - a + b) else if b ≤ k ∧ k < b + n then f (k - b + a) else f k
theorem swpR_zero (f : Nat → Nat) (a b : Nat) : swpR f a b 0 = f := by funext k; unfold swpR; rw [if_neg (by omega), if_neg (by omega)]
theorem swpR_succ (f : Nat → Nat) (a b n : Nat) (h : a + n < b) : swp (swpR f a b n) (a + n) (b + n) = swpR f a b (n + 1) := by
  funext k
  unfold swp swpR
  by_cases h1 : k = a + n
  · subst h1
    rw [if_pos rfl, if_neg (by omega), if_neg (by omega), if_pos (by omega)]; congr 1; omega
  · rw [if_neg h1]
    by_cases h2 : k = b + n
    · subst h2
      rw [if_pos rfl, if_neg (by omega), if_neg (by omega), if_neg (by omega), if_pos (by omega)]; congr 1; omega
    · rw [if_neg h2]
      repeat' split
      all_goals first | rfl | omega
theorem rot_left (f : Nat → Nat) (m i j : Nat) (h : j < i) (hm : i ≤ m) : rot (swpR f (m - i) m j) (m - (i - j)) m (m + j) = rot f (m - i) m (m + j) := by
  funext k
  unfold rot swpR
  repeat' split
  all_goals first | (congr 1; omega) | omega
theorem rot_right (f : Nat → Nat) (m i j : Nat) (h : i < j) (hm : i ≤ m) : rot (swpR f (m - i) (m + j - i) i) (m - i) m (m + (j - i)) = rot f (m - i) m (m + j) := by
  funext k
  unfold rot swpR
  repeat' split
  all_goals first | (congr 1; omega) | omega
theorem rot_end (f : Nat → Nat) (m i : Nat) (hm : i ≤ m) : swpR f (m - i) m i = rot f (m - i) m (m + i) := by
  funext k
  unfold rot swpR
  repeat' split
  all_goals first | (congr 1; omega) | omega
theorem same_rot (f : Nat → Nat) (a m b : Nat) (h1 : a ≤ m) (h2 : m ≤ b) : Same a b f (rot f a m b) := by
  refine ⟨fun k hk => ?_, fun v => ⟨fun ⟨k, hk1, hk2, e⟩ => ?_, fun ⟨k, hk1, hk2, e⟩ => ?_⟩⟩
  · unfold rot; rw [if_neg (by omega), if_neg (by omega)]
  · unfold rot at e
    split at e
    · exact ⟨k + (m - a), by omega, by omega, e⟩
    · rw [if_pos (by omega)] at e
      exact ⟨k - (b - m), by omega, by omega, e⟩
  · by_cases h : k < m
    · refine ⟨k + (b - m), by omega, by omega, ?_⟩
      unfold rot
      rw [if_neg (by omega), if_pos (by omega), ← e]; congr 1; omega
    · refine ⟨k - (m - a), by omega, by omega, ?_⟩
      unfold rot
      rw [if_pos (by omega), ← e]; congr 1; omega

/-- what a merge asks: the left part's numbers are below c, the right part's are not, each part is in order -/
structure Mg (r f : Nat → Nat) (a m b c : Nat) : Prop where
  am : a < m
  mb : m < b
  lo : ∀ k, a ≤ k → k < m → f k < c
  hi : ∀ k, m ≤ k → k < b → c ≤ f k
  ls : Srt r f a m
  rs : Srt r f m b
theorem mg_lt {r f : Nat → Nat} {a m b c i j : Nat} (h : Mg r f a m b c) (hi : a ≤ i ∧ i < m) (hj : m ≤ j ∧ j < b) : (¬ r (f i) < r (f j)) ↔ Ah r (f i) (f j) := by
  have h1 := h.lo i hi.1 hi.2
  have h2 := h.hi j hj.1 hj.2
  unfold Ah; omega
theorem mg_gt {r f : Nat → Nat} {a m b c i j : Nat} (h : Mg r f a m b c) (hi : a ≤ i ∧ i < m) (hj : m ≤ j ∧ j < b) : (r (f i) < r (f j)) ↔ Ah r (f j) (f i) := by
  have h1 := h.lo i hi.1 hi.2
  have h2 := h.hi j hj.1 hj.2
  unfold Ah; omega
theorem rot_id {f : Nat → Nat} {s m e : Nat} (h : s = m ∨ e = m) (h1 : s ≤ m) (h2 : m ≤ e) : rot f s m e = f := by
  funext k
  unfold rot
  repeat' split
  all_goals first | rfl | (congr 1; omega)
theorem rot_up (f : Nat → Nat) (a k : Nat) (h : a ≤ k) : swp (rot f a (a + 1) (k + 1)) k (k + 1) = rot f a (a + 1) (k + 1 + 1) := by
  funext x
  unfold swp rot
  by_cases h1 : x = k
  · subst h1; rw [if_pos rfl, if_neg (by omega), if_neg (by omega), if_pos (by omega)]; congr 1; omega
  · rw [if_neg h1]
    by_cases h2 : x = k + 1
    · subst h2; rw [if_pos rfl, if_neg (by omega), if_pos (by omega), if_neg (by omega), if_pos (by omega)]; congr 1; omega
    · rw [if_neg h2]
      repeat' split
      all_goals first | rfl | omega | (congr 1; omega)
theorem rot_down (f : Nat → Nat) (k m : Nat) (h : k < m) : swp (rot f (k + 1) m (m + 1)) (k + 1) k = rot f k m (m + 1) := by
  funext x
  unfold swp rot
  by_cases h1 : x = k + 1
  · subst h1; rw [if_pos rfl, if_neg (by omega), if_neg (by omega), if_neg (by omega), if_pos (by omega)]; congr 1; omega
  · rw [if_neg h1]
    by_cases h2 : x = k
    · subst h2; rw [if_pos rfl, if_pos (by omega), if_pos (by omega)]; congr 1; omega
    · rw [if_neg h2]
      repeat' split
      all_goals first | rfl | omega | (congr 1; omega)

theorem mg_one_left {r f : Nat → Nat} {a b c i : Nat} (h : Mg r f a (a + 1) b c) (hi : a + 1 ≤ i) (hb : i ≤ b) (hl : ∀ k, a + 1 ≤ k → k < i → r (f a) < r (f k)) (hr : i = b ∨ ¬ r (f a) < r (f i)) : Srt r (rot f a (a + 1) i) a b := by
  have e1 : ∀ k, a ≤ k → k < i - 1 → rot f a (a + 1) i k = f (k + 1) := fun k h1 h2 => by unfold rot; rw [if_pos (by omega)]; congr 1; omega
  have e2 : rot f a (a + 1) i (i - 1) = f a := by unfold rot; rw [if_neg (by omega), if_pos (by omega)]; congr 1; omega
  have e3 : ∀ k, i ≤ k → rot f a (a + 1) i k = f k := fun k h1 => by unfold rot; rw [if_neg (by omega), if_neg (by omega)]
  intro p q h1 h2 h3
  by_cases hp : p < i - 1
  · rw [e1 p h1 hp]
    by_cases hq : q < i - 1
    · rw [e1 q (by omega) hq]; exact h.rs _ _ (by omega) (by omega) (by omega)
    · by_cases hq2 : q = i - 1
      · rw [hq2, e2]; exact (mg_gt h ⟨Nat.le_refl _, by omega⟩ ⟨by omega, by omega⟩).1 (hl _ (by omega) (by omega))
      · rw [e3 q (by omega)]; exact h.rs _ _ (by omega) (by omega) (by omega)
  · rw [e3 q (by omega)]
    by_cases hp2 : p = i - 1
    · rw [hp2, e2]
      have hib : i < b := by omega
      have h5 : Ah r (f a) (f i) := (mg_lt h ⟨Nat.le_refl _, by omega⟩ ⟨by omega, by omega⟩).1 (by omega)
      by_cases hqi : q = i
      · rw [hqi]; exact h5
      · exact ah_trans h5 (h.rs _ _ (by omega) (by omega) (by omega))
    · rw [e3 p (by omega)]; exact h.rs _ _ (by omega) (by omega) (by omega)
theorem mg_one_right {r f : Nat → Nat} {a m c i : Nat} (h : Mg r f a m (m + 1) c) (hi : a ≤ i) (hb : i ≤ m) (hl : ∀ k, a ≤ k → k < i → ¬ r (f k) < r (f m)) (hr : i = m ∨ r (f i) < r (f m)) : Srt r (rot f i m (m + 1)) a (m + 1) := by
  have e1 : ∀ k, k < i → rot f i m (m + 1) k = f k := fun k h1 => by unfold rot; rw [if_neg (by omega), if_neg (by omega)]
  have e2 : rot f i m (m + 1) i = f m := by unfold rot; rw [if_pos (by omega)]; congr 1; omega
  have e3 : ∀ k, i < k → k ≤ m → rot f i m (m + 1) k = f (k - 1) := fun k h1 h2 => by unfold rot; rw [if_neg (by omega), if_pos (by omega)]; congr 1; omega
  intro p q h1 h2 h3
  by_cases hp : p < i
  · rw [e1 p hp]
    by_cases hq : q < i
    · rw [e1 q hq]; exact h.ls _ _ (by omega) (by omega) (by omega)
    · by_cases hq2 : q = i
      · rw [hq2, e2]; exact (mg_lt h ⟨by omega, by omega⟩ ⟨by omega, by omega⟩).1 (hl _ (by omega) (by omega))
      · rw [e3 q (by omega) (by omega)]; exact h.ls _ _ (by omega) (by omega) (by omega)
  · rw [e3 q (by omega) (by omega)]
    by_cases hp2 : p = i
    · rw [hp2, e2]
      have him : i < m := by omega
      have h5 : Ah r (f m) (f i) := (mg_gt h ⟨by omega, by omega⟩ ⟨by omega, by omega⟩).1 (by omega)
      by_cases hqi : q - 1 = i
      · rw [hqi]; exact h5
      · exact ah_trans h5 (h.ls _ _ (by omega) (by omega) (by omega))
    · rw [e3 p (by omega) (by omega)]; exact h.ls _ _ (by omega) (by omega) (by omega)
/-- what a merge's cut gives: two smaller merges, and all of the first half ahead of the second -/
structure Cutd (r g : Nat → Nat) (a s mid e b c : Nat) : Prop where
  le1 : a ≤ s
  le2 : s ≤ mid
  le3 : mid ≤ e
  le4 : e ≤ b
  lo1 : ∀ k, a ≤ k → k < s → g k < c
  hi1 : ∀ k, s ≤ k → k < mid → c ≤ g k
  lo2 : ∀ k, mid ≤ k → k < e → g k < c
  hi2 : ∀ k, e ≤ k → k < b → c ≤ g k
  s1 : Srt r g a s
  s2 : Srt r g s mid
  s3 : Srt r g mid e
  s4 : Srt r g e b
  cr : ∀ i j, a ≤ i → i < mid → mid ≤ j → j < b → Ah r (g i) (g j)
theorem mg_cut {r f : Nat → Nat} {a m b c s e : Nat} (h : Mg r f a m b c) (h1 : a ≤ s) (h2 : s ≤ m) (h3 : m ≤ e) (h4 : e ≤ b)
    (hl : s = a ∨ e = b ∨ ¬ r (f (s - 1)) < r (f e)) (hr : s = m ∨ e = m ∨ r (f s) < r (f (e - 1))) : Cutd r (rot f s m e) a s (s + (e - m)) e b c := by
  have e1 : ∀ k, k < s → rot f s m e k = f k := fun k h1 => by unfold rot; rw [if_neg (by omega), if_neg (by omega)]
  have e2 : ∀ k, s ≤ k → k < s + (e - m) → rot f s m e k = f (k + (m - s)) := fun k h1 h2 => by unfold rot; rw [if_pos (by omega)]
  have e3 : ∀ k, s + (e - m) ≤ k → k < e → rot f s m e k = f (k - (e - m)) := fun k h1 h2 => by unfold rot; rw [if_neg (by omega), if_pos (by omega)]
  have e4 : ∀ k, e ≤ k → rot f s m e k = f k := fun k h1 => by unfold rot; rw [if_neg (by omega), if_neg (by omega)]
  -- the left part's head ahead of the right part's tail
  have c1 : ∀ i j, a ≤ i → i < s → e ≤ j → j < b → Ah r (f i) (f j) := by
    intro i j i1 i2 j1 j2
    have h5 : Ah r (f (s - 1)) (f e) := (mg_lt h ⟨by omega, by omega⟩ ⟨by omega, by omega⟩).1 (by omega)
    have h6 : Ah r (f i) (f e) := by
      by_cases hi : i = s - 1
      · rw [hi]; exact h5
      · exact ah_trans (h.ls _ _ i1 (by omega) (by omega)) h5
    by_cases hj : j = e
    · rw [hj]; exact h6
    · exact ah_trans h6 (h.rs _ _ h3 (by omega) j2)
  -- the right part's head ahead of the left part's tail
  have c2 : ∀ i j, m ≤ i → i < e → s ≤ j → j < m → Ah r (f i) (f j) := by
    intro i j i1 i2 j1 j2
    have h5 : Ah r (f (e - 1)) (f s) := (mg_gt h ⟨by omega, by omega⟩ ⟨by omega, by omega⟩).1 (by omega)
    have h6 : Ah r (f i) (f s) := by
      by_cases hi : i = e - 1
      · rw [hi]; exact h5
      · exact ah_trans (h.rs _ _ i1 (by omega) (by omega)) h5
    by_cases hj : j = s
    · rw [hj]; exact h6
    · exact ah_trans h6 (h.ls _ _ h1 (by omega) j2)
  refine ⟨h1, by omega, by omega, h4, fun k k1 k2 => ?_, fun k k1 k2 => ?_, fun k k1 k2 => ?_, fun k k1 k2 => ?_, fun i j i1 i2 i3 => ?_, fun i j i1 i2 i3 => ?_, fun i j i1 i2 i3 => ?_, fun i j i1 i2 i3 => ?_, fun i j i1 i2 i3 i4 => ?_⟩
  · rw [e1 k k2]; exact h.lo k k1 (by omega)
  · rw [e2 k k1 k2]; exact h.hi _ (by omega) (by omega)
  · rw [e3 k k1 k2]; exact h.lo _ (by omega) (by omega)
  · rw [e4 k k1]; exact h.hi _ (by omega) (by omega)
  · rw [e1 i (by omega), e1 j (by omega)]; exact h.ls _ _ i1 i2 (by omega)
  · rw [e2 i (by omega) (by omega), e2 j (by omega) (by omega)]; exact h.rs _ _ (by omega) (by omega) (by omega)
  · rw [e3 i (by omega) (by omega), e3 j (by omega) (by omega)]; exact h.ls _ _ (by omega) (by omega) (by omega)
  · rw [e4 i (by omega), e4 j (by omega)]; exact h.rs _ _ (by omega) i2 i3
  · by_cases hi : i < s
    · rw [e1 i hi]
      by_cases hj : j < e
      · rw [e3 j i3 hj]; exact h.ls _ _ i1 (by omega) (by omega)
      · rw [e4 j (by omega)]; exact c1 i j i1 hi (by omega) i4
    · rw [e2 i (by omega) i2]
      by_cases hj : j < e
      · rw [e3 j i3 hj]; exact c2 _ _ (by omega) (by omega) (by omega) (by omega)
      · rw [e4 j (by omega)]; exact h.rs _ _ (by omega) (by omega) i4
theorem cutd_left {r g : Nat → Nat} {a s mid e b c : Nat} (h : Cutd r g a s mid e b c) (h1 : a < s) (h2 : s < mid) : Mg r g a s mid c := ⟨h1, h2, h.lo1, h.hi1, h.s1, h.s2⟩
theorem cutd_right {r g : Nat → Nat} {a s mid e b c : Nat} (h : Cutd r g a s mid e b c) (h1 : mid < e) (h2 : e < b) : Mg r g mid e b c := ⟨h1, h2, h.lo2, h.hi2, h.s3, h.s4⟩
theorem cutd_left_done {r g : Nat → Nat} {a s mid e b c : Nat} (h : Cutd r g a s mid e b c) (h1 : ¬ (a < s ∧ s < mid)) : Srt r g a mid := by
  have := h.le1; have := h.le2
  by_cases hs : s = a
  · have := h.s2; rw [hs] at this; exact this
  · have hm : s = mid := by omega
    have := h.s1; rw [hm] at this; exact this
theorem cutd_right_done {r g : Nat → Nat} {a s mid e b c : Nat} (h : Cutd r g a s mid e b c) (h1 : ¬ (mid < e ∧ e < b)) : Srt r g mid b := by
  have := h.le3; have := h.le4
  by_cases hs : e = mid
  · have := h.s4; rw [hs] at this; exact this
  · have hm : e = b := by omega
    have := h.s3; rw [hm] at this; exact this
theorem half_join {r g g1 g2 : Nat → Nat} {a mid b : Nat} (cr : ∀ i j, a ≤ i → i < mid → mid ≤ j → j < b → Ah r (g i) (g j)) (h1 : Same a mid g g1) (s1 : Srt r g1 a mid) (h2 : Same mid b g1 g2) (s2 : Srt r g2 mid b) : Srt r g2 a b := by
  intro p q p1 pq qb
  by_cases hq : q < mid
  · rw [h2.1 p (by omega), h2.1 q (by omega)]; exact s1 p q p1 pq hq
  · by_cases hp : p < mid
    · rw [h2.1 p (by omega)]
      obtain ⟨p', x1, x2, ep⟩ := (h1.2 (g1 p)).1 ⟨p, p1, hp, rfl⟩
      obtain ⟨q', y1, y2, eq⟩ := (h2.2 (g2 q)).1 ⟨q, by omega, qb, rfl⟩
      rw [h1.1 q' (by omega)] at eq
      rw [← ep, ← eq]
      exact cr p' q' x1 x2 y1 y2
    · exact s2 p q (by omega) pq qb
/-- what the first merge leaves of what the second asks -/
theorem mg_kept {r g g1 : Nat → Nat} {a mid e b c : Nat} (h : Mg r g mid e b c) (h1 : Same a mid g g1) : Mg r g1 mid e b c := by
  have am := h.am; have mb := h.mb
  have k : ∀ k, mid ≤ k → g1 k = g k := fun k hk => h1.1 k (by omega)
  refine ⟨am, mb, fun i i1 i2 => by rw [k i i1]; exact h.lo i i1 i2, fun i i1 i2 => by rw [k i (by omega)]; exact h.hi i i1 i2, fun i j i1 i2 i3 => ?_, fun i j i1 i2 i3 => ?_⟩
  · rw [k i i1, k j (by omega)]; exact h.ls i j i1 i2 i3
  · rw [k i (by omega), k j (by omega)]; exact h.rs i j i1 i2 i3
theorem srt_kept {r g g1 : Nat → Nat} {a mid b : Nat} (h : Srt r g mid b) (h1 : Same a mid g g1) : Srt r g1 mid b := by
  have k : ∀ k, mid ≤ k → g1 k = g k := fun k hk => h1.1 k (by omega)
  intro i j i1 i2 i3
  rw [k i i1, k j (by omega)]; exact h i j i1 i2 i3

/-- C holds the places that come ahead of all others -/
structure Top (r : Nat → Nat) (n : Nat) (C : List Nat) : Prop where
  nd : C.Nodup
  lt : ∀ i ∈ C, i < n
  ah : ∀ i ∈ C, ∀ j, j < n → j ∉ C → Ah r i j
theorem nodup_sub : ∀ (l m : List Nat), l.Nodup → (∀ x ∈ l, x ∈ m) → l.length ≤ m.length := by
  intro l
  induction l with
  | nil => intro m _ _; simp
  | cons x l ih =>
    intro m hn hs
    rw [List.nodup_cons] at hn
    have hx := hs x (by simp)
    have h := ih (m.erase x) hn.2 (fun y hy => by
      have : y ≠ x := fun e => hn.1 (e ▸ hy)
      exact (List.mem_erase_of_ne this).2 (hs y (by simp [hy])))
    rw [List.length_erase_of_mem hx] at h
    have : 0 < m.length := List.length_pos_of_mem hx
    simp only [List.length_cons]
    omega
theorem top_eq {r : Nat → Nat} {n : Nat} {C D : List Nat} (hC : Top r n C) (hD : Top r n D) (hl : C.length = D.length) (i : Nat) : i ∈ C ↔ i ∈ D := by
  have key : ∀ {C D : List Nat}, Top r n C → Top r n D → C.length = D.length → ∀ i, i ∈ C → i ∈ D := by
    intro C D hC hD hl i hi
    apply Classical.byContradiction
    intro hn
    have h1 : ∃ k, k ∈ D ∧ k ∉ C := by
      apply Classical.byContradiction
      intro hno
      have hsub : ∀ x ∈ i :: D, x ∈ C := by
        intro x hx
        rcases List.mem_cons.1 hx with rfl | hx
        · exact hi
        · exact Classical.byContradiction fun hxc => hno ⟨x, hx, hxc⟩
      have := nodup_sub (i :: D) C (List.nodup_cons.2 ⟨hn, hD.nd⟩) hsub
      simp only [List.length_cons] at this
      omega
    obtain ⟨k, k1, k2⟩ := h1
    exact ah_asymm (hC.ah i hi k (hD.lt k k1) k2) (hD.ah k k1 i (hC.lt i hi) hn)
  exact ⟨key hC hD hl i, key hD hC hl.symm i⟩
/-- the first m places of a row in order -/
theorem top_srt {r f : Nat → Nat} {n m : Nat} (h : Srt r f 0 n) (hs : Same 0 n (fun k => k) f) (hm : m ≤ n) : Top r n ((List.range m).map f) := by
  have inj : ∀ i j, i < n → j < n → f i = f j → i = j := by
    intro i j hi hj e
    rcases Nat.lt_trichotomy i j with h1 | h1 | h1
    · exact absurd e (ah_ne (h i j (Nat.zero_le _) h1 hj))
    · exact h1
    · exact absurd e.symm (ah_ne (h j i (Nat.zero_le _) h1 hi))
  refine ⟨?_, fun i hi => ?_, fun i hi j hj hn => ?_⟩
  · rw [List.nodup_iff_pairwise_ne, List.pairwise_map]
    exact List.Pairwise.imp_of_mem (fun {a b} ha hb hab => ah_ne (h a b (Nat.zero_le _) hab (by have := List.mem_range.1 hb; omega))) List.pairwise_lt_range
  · obtain ⟨k, hk, rfl⟩ := List.mem_map.1 hi
    have hk := List.mem_range.1 hk
    obtain ⟨k', _, h2, e⟩ := (hs.2 (f k)).1 ⟨k, Nat.zero_le _, by omega, rfl⟩
    rw [← e]; exact h2
  · obtain ⟨k, hk, rfl⟩ := List.mem_map.1 hi
    have hk := List.mem_range.1 hk
    obtain ⟨k', _, h2, e⟩ := (hs.2 j).2 ⟨j, Nat.zero_le _, hj, rfl⟩
    have h3 : m ≤ k' := by
      apply Classical.byContradiction
      intro hlt
      exact hn (List.mem_map.2 ⟨k', List.mem_range.2 (by omega), e⟩)
    rw [← e]
    exact h k k' (Nat.zero_le _) (by omega) h2
theorem top_nil (r : Nat → Nat) (n : Nat) : Top r n [] := ⟨List.nodup_nil, (fun _ h => absurd h List.not_mem_nil), (fun _ h _ _ _ => absurd h List.not_mem_nil)⟩
/-- the best of those that are left, taken in -/
theorem top_cons {r : Nat → Nat} {n : Nat} {C : List Nat} (h : Top r n C) {b : Nat} (hb : b < n) (hn : b ∉ C) (hbest : ∀ j, j < n → j ∉ C → j ≠ b → Ah r b j) : Top r n (b :: C) := by
  refine ⟨List.nodup_cons.2 ⟨hn, h.nd⟩, fun i hi => ?_, fun i hi j hj hnj => ?_⟩
  · rcases List.mem_cons.1 hi with rfl | hi
    · exact hb
    · exact h.lt i hi
  · have h1 : j ≠ b := fun e => hnj (e ▸ List.mem_cons_self ..)
    have h2 : j ∉ C := fun hc => hnj (List.mem_cons_of_mem _ hc)
    rcases List.mem_cons.1 hi with rfl | hi
    · exact hbest j hj h2 h1
    · exact h.ah i hi j hj h2
/-- how many come ahead of a place -/
def rankN (r : Nat → Nat) (n i : Nat) : Nat := ((List.range n).filter fun j => decide (r i < r j ∨ (r i = r j ∧ j < i))).length
theorem top_rank {r : Nat → Nat} {n : Nat} {C : List Nat} (h : Top r n C) {i : Nat} (hi : i < n) : i ∈ C ↔ rankN r n i < C.length := by
  have nd : ((List.range n).filter fun j => decide (r i < r j ∨ (r i = r j ∧ j < i))).Nodup := List.Pairwise.filter _ List.nodup_range
  have hm : ∀ j, j ∈ ((List.range n).filter fun j => decide (r i < r j ∨ (r i = r j ∧ j < i))) ↔ j < n ∧ Ah r j i := by
    intro j
    rw [List.mem_filter, List.mem_range, decide_eq_true_eq]
    unfold Ah
    omega
  constructor
  · intro hc
    have h1 := nodup_sub _ (C.erase i) nd (fun j hj => by
      obtain ⟨h1, h2⟩ := (hm j).1 hj
      have hne : j ≠ i := ah_ne h2
      refine (List.mem_erase_of_ne hne).2 ?_
      exact Classical.byContradiction fun hnc => ah_asymm h2 (h.ah i hc j h1 hnc))
    rw [List.length_erase_of_mem hc] at h1
    have : 0 < C.length := List.length_pos_of_mem hc
    unfold rankN
    omega
  · intro hlt
    apply Classical.byContradiction
    intro hn
    have h1 := nodup_sub C _ h.nd (fun j hj => (hm j).2 ⟨h.lt j hj, h.ah j hj i hi hn⟩)
    unfold rankN at hlt
    omega
end Go.Proofs.YtipbdpdmefcofaaDoor
