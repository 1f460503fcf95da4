/-
  Values of type impl.Rat: what laws.toRat, eqRat, markRat, heldRat and szRat return.
-/
import Derived.Test.YtipbdpdmefcofaaDoorSigned
import Derived.Test.YtipbdpdmefcofaaDoorRatPlain
namespace Go.Proofs.YtipbdpdmefcofaaDoor
open Go.RowKit

/-- a value that stands for it, its limbs of the call's own, those of the two parts apart -/
def OwnQ (v : Value) (q : QI) (w : World) : Prop := ∃ u d, v = .agg #[.bool q.1.1, u, d] ∧ OwnI u q.1.2 w ∧ OwnI d q.2 w ∧ (∀ g, u.ownBlock = some g → d.ownBlock ≠ some g)
def MarkQ (v : Value) (q : QI) (m : Int) (w : World) : Prop := ∃ u d, v = .agg #[.bool q.1.1, u, d] ∧ MarkI u q.1.2 m w ∧ MarkI d q.2 (m + szS q.1) w
/-- a value that reads as it -/
def RdQ (w : World) (v : Value) (q : QI) : Prop := ∃ u d, v = .agg #[.bool q.1.1, u, d] ∧ Row w 0 w.heap.size u (intsV q.1.2) ∧ Row w 0 w.heap.size d (intsV q.2)
def szQ (q : QI) : Int := szS q.1 + szI q.2
theorem OwnQ.rd {v : Value} {q : QI} {w : World} (h : OwnQ v q w) : RdQ w v q := by
  obtain ⟨u, d, rfl, o, p, _⟩ := h
  exact ⟨u, d, rfl, o.row, p.row⟩
theorem RdQ.below {w W : World} {v : Value} {q : QI} (h : RdQ w v q) (hb : Below w.heap.size w W) : RdQ W v q := by
  obtain ⟨u, d, rfl, o, p⟩ := h
  exact ⟨u, d, rfl, (o.below hb (Nat.le_refl _)).wide (Nat.le_refl _) hb.size, (p.below hb (Nat.le_refl _)).wide (Nat.le_refl _) hb.size⟩
/-- a new fraction -/
def NewQ (q : QI) (w : World) (e : Ending) (w' : World) : Prop :=
  ∃ u d, e = .returned (.agg #[.bool q.1.1, u, d]) ∧ w'.ownsRow w.heap.size 3 1 u q.1.2.length (intsV q.1.2) ∧ w'.ownsRow w.heap.size 3 1 d q.2.length (intsV q.2) ∧ (∀ g, u.ownBlock = some g → d.ownBlock ≠ some g) ∧ Below w.heap.size w w'

set_option maxHeartbeats 400000 in
set_option maxRecDepth 100000 in
theorem eqRat_at (u v : Value) (x y : QI) (w : World) (hl : x.1.2.length ≤ 9223372036854775807) (hl2 : x.2.length ≤ 9223372036854775807) (hu : RdQ w u x) (hv : RdQ w v y) :
    Calls Tryd.prog 9 #[u, v] w fun e w' => e = .returned (.bool (decide (x = y))) ∧ Below w.heap.size w w' := by
  obtain ⟨p, d, rfl, hp, hd⟩ := hu
  obtain ⟨q, f, rfl, hq, hf⟩ := hv
  obtain ⟨Ap, cp, rfl⟩ := row_form hp
  obtain ⟨Ad, cd, rfl⟩ := row_form hd
  obtain ⟨Aq, cq, rfl⟩ := row_form hq
  obtain ⟨Af, cf, rfl⟩ := row_form hf
  simp only [intsV_length] at hp hd hq hf ⊢
  have hb : Below w.heap.size w ((w.alloc (.cells #[.bool x.1.1, .slice Ap x.1.2.length cp, .slice Ad x.2.length cd] 28)).alloc (.cells #[.bool y.1.1, .slice Aq y.1.2.length cq, .slice Af y.2.length cf] 28)) := below_al (below_al (Below.refl _ _) _) _
  have kx := (box_new w #[.bool x.1.1, .slice Ap x.1.2.length cp, .slice Ad x.2.length cd] 28).below (below_al (Below.refl _ _) (.cells #[.bool y.1.1, .slice Aq y.1.2.length cq, .slice Af y.2.length cf] 28))
  have ky := box_new (w.alloc (.cells #[.bool x.1.1, .slice Ap x.1.2.length cp, .slice Ad x.2.length cd] 28)) #[.bool y.1.1, .slice Aq y.1.2.length cq, .slice Af y.2.length cf] 28
  rw [show (w.alloc (.cells #[.bool x.1.1, .slice Ap x.1.2.length cp, .slice Ad x.2.length cd] 28)).heap.size = w.heap.size + 1 by simp] at ky
  go_enter Tryd.func9, Tryd.ntmps9
  go_wp2_with fail
  refine (eqSigned_at _ _ x.1 y.1 _ hl (rdS_below hp hb) (rdS_below hq hb)).mono ?_
  rintro e w1 ⟨rfl, b1⟩
  have bb1 := Below.next hb b1
  replace kx := kx.below b1
  replace ky := ky.below b1
  have cx2 := kx.here.cell 2 _ rfl
  have cy2 := ky.here.cell 2 _ rfl
  have hd1 := hd.below bb1 (Nat.le_refl _)
  have hf1 := hf.below bb1 (Nat.le_refl _)
  clear hp hq kx ky hd hf
  by_cases h1 : x.1 = y.1
  · rw [decide_eq_true h1]
    have H1 := Lib.hid h1
    clear h1
    go_wp2_with fail
    refine (eqIntS_any _ _ x.2 y.2 0 w.heap.size 0 w.heap.size _ hl2 hd1 hf1).mono ?_
    rintro e w2 ⟨rfl, n, rfl⟩
    by_cases h2 : x.2 = y.2
    · rw [decide_eq_true h2]
      have HV := Lib.hid (show decide (x = y) = true from decide_eq_true (Prod.ext H1.out h2))
      clear h2
      go_wp2
      go_ret
      exact ⟨ret_bool HV.out.symm, below_drewN bb1 n⟩
    · rw [decide_eq_false h2]
      have HV := Lib.hid (show decide (x = y) = false from decide_eq_false (fun e => h2 (by rw [e])))
      clear h2
      go_wp2
      go_ret
      exact ⟨ret_bool HV.out.symm, below_drewN bb1 n⟩
  · rw [decide_eq_false h1]
    have HV := Lib.hid (show decide (x = y) = false from decide_eq_false (fun e => h1 (by rw [e])))
    clear h1
    go_wp2
    go_ret
    exact ⟨ret_bool HV.out.symm, bb1⟩


theorem set3_at {g : Nat} {a b c c0 c1 c2 : Value} {T : TypeId} {W : World} (h : BoxAt g #[c0, c1, c2] T W) : BoxAt g #[a, b, c2] T ((W.setCell ⟨g, 0, none⟩ a).setCell ⟨g, 1, none⟩ b) ∧ BoxAt g #[c0, c1, c] T (W.setCell ⟨g, 2, none⟩ c) := by
  have h' : W.heap[g]? = some (.cells #[c0, c1, c2] T (0, 0)) := h
  exact ⟨by simp [BoxAt, World.setCell, Array.getElem?_modify, h'], by simp [BoxAt, World.setCell, Array.getElem?_modify, h']⟩

/-- the blocks of the limbs of both parts -/
def partsB (u d : Value) : List Nat := u.ownBlock.toList ++ d.ownBlock.toList
theorem At.both {S T : List Nat} {φ ψ : World → Prop} {w : World} (h : At S φ w) (k : At T ψ w) : At (S ++ T) (fun w => φ w ∧ ψ w) w :=
  ⟨⟨h.here, k.here⟩, fun g hg => by rcases List.mem_append.1 hg with hg | hg; exact h.lt g hg; exact k.lt g hg,
    fun w' hk => ⟨h.stays w' fun g hg => hk g (List.mem_append_left _ hg), k.stays w' fun g hg => hk g (List.mem_append_right _ hg)⟩⟩
set_option maxHeartbeats 400000 in
set_option maxRecDepth 100000 in
theorem markRat_at (u d : Value) (x : QI) (m : Int) (w : World) (hm : m + szQ x ≤ 9223372036854775807) (hm0 : 0 ≤ m) (ou : OwnI u x.1.2 w) (od : OwnI d x.2 w) (hap : ∀ g, u.ownBlock = some g → d.ownBlock ≠ some g) :
    Calls Tryd.prog 14 #[.agg #[.bool x.1.1, u, d], .int .i64 m] w fun e w' => e = .returned (.int .i64 (m + szQ x)) ∧ At (partsB u d) (MarkQ (.agg #[.bool x.1.1, u, d]) x m) w' ∧ Chg (partsB u d) w w' := by
  obtain ⟨A, c, rfl⟩ := own_len ou
  obtain ⟨B, f, rfl⟩ := own_len od
  have hs0 : 0 ≤ szS x.1 := by unfold szS szI; omega
  have hs1 : 0 ≤ szI x.2 := by unfold szI; omega
  have HZ := Lib.hid (show szQ x = szS x.1 + szI x.2 from rfl)
  rw [HZ.out] at hm
  have hbx := below_al (Below.refl w.heap.size w) (.cells #[.bool x.1.1, .slice A x.1.2.length c, .slice B x.2.length f] 28)
  have kx := box_new w #[.bool x.1.1, .slice A x.1.2.length c, .slice B x.2.length f] 28
  have au := (own_at' ou).below hbx
  have ad := (own_at' od).below hbx
  have hltu := (own_at' ou).lt
  have hltd := (own_at' od).lt
  have dis : ∀ g ∈ (Value.slice B x.2.length f).ownBlock.toList, g ∉ (Value.slice A x.1.2.length c).ownBlock.toList := fun g hg hm => hap g (by simpa using hm) (by simpa using hg)
  have DIS := Lib.hid dis
  have HLU := Lib.hid hltu
  have HLD := Lib.hid hltd
  clear ou od hap dis hltu hltd
  go_enter Tryd.func14, Tryd.ntmps14
  go_wp2_with fail
  refine (markSigned_at _ x.1 _ m _ (by omega) hm0 (au.imp fun _ h => OwnS.mk (x := x.1) h)).mono ?_
  rintro e w1 ⟨rfl, mu, c1⟩
  replace ad := ad.chg c1 DIS.out
  replace kx := kx.chg c1 (fun i hi hm => by have := HLU.out i hm; simp at hi; omega)
  have cx2 := kx.here.cell 2 _ rfl
  have HC1 := Lib.hid c1
  have HMU := Lib.hid mu
  clear kx c1 au mu
  go_wp2_with fail
  refine (markIntS_at _ x.2 _ (m + szS x.1) _ (by omega) (by omega) ad).mono ?_
  rintro e w2 ⟨rfl, md, c2⟩
  have mu2 := HMU.out.chg c2 (fun i hi hm => DIS.out i hm hi)
  have hall := Lib.hid (show At (partsB (.slice A x.1.2.length c) (.slice B x.2.length f)) (MarkQ (.agg #[.bool x.1.1, .slice A x.1.2.length c, .slice B x.2.length f]) x m) w2 from
    (At.both mu2 md).imp fun W hh => by
      obtain ⟨⟨u', e1, hu'⟩, hd'⟩ := hh
      injection e1 with e1
      have e2 : u' = .slice A x.1.2.length c := by simpa using e1.symm
      rw [e2] at hu'
      exact ⟨_, _, rfl, hu', hd'⟩)
  have hchg := Lib.hid (show Chg (partsB (.slice A x.1.2.length c) (.slice B x.2.length f)) w w2 from
    (Chg.of_below hbx).trans ((HC1.out.more fun g hg => List.mem_append_left _ hg).trans (c2.more fun g hg => List.mem_append_right _ hg)))
  clear md c2 mu2 ad HMU
  go_wp2
  go_ret
  exact ⟨ret_int (by rw [HZ.out]; omega), hall.out, hchg.out⟩

set_option maxHeartbeats 400000 in
set_option maxRecDepth 100000 in
theorem heldRat_at (v : Value) (x : QI) (m : Int) (w : World) (hm : m + szQ x ≤ 9223372036854775807) (hm0 : 0 ≤ m) (h : MarkQ v x m w) :
    Calls Tryd.prog 15 #[v, .int .i64 m] w fun e w' => e = .returned (.int .i64 (m + szQ x)) ∧ Below w.heap.size w w' := by
  obtain ⟨u, d, rfl, ou, od⟩ := h
  obtain ⟨A, c, rfl⟩ := own_len ou
  obtain ⟨B, f, rfl⟩ := own_len od
  have hs0 : 0 ≤ szS x.1 := by unfold szS szI; omega
  have hs1 : 0 ≤ szI x.2 := by unfold szI; omega
  have HZ := Lib.hid (show szQ x = szS x.1 + szI x.2 from rfl)
  rw [HZ.out] at hm
  have hbx := below_al (Below.refl w.heap.size w) (.cells #[.bool x.1.1, .slice A x.1.2.length c, .slice B x.2.length f] 28)
  have kx := box_new w #[.bool x.1.1, .slice A x.1.2.length c, .slice B x.2.length f] 28
  have ou1 : MarkS (.agg #[.bool x.1.1, .slice A x.1.2.length c]) x.1 m _ := ⟨_, rfl, own_below ou hbx⟩
  have od1 := own_below od hbx
  clear ou od
  go_enter Tryd.func15, Tryd.ntmps15
  go_wp2_with fail
  refine (heldSigned_at _ x.1 m _ (by omega) hm0 ou1).mono ?_
  rintro e w1 ⟨rfl, b1⟩
  have bb1 := Below.next hbx b1
  replace kx := kx.below b1
  replace od1 := own_below od1 b1
  have cx2 := kx.here.cell 2 _ rfl
  have hn1 : decide (m + szS x.1 < 0) = false := decide_eq_false (by omega)
  clear ou1 kx
  go_wp2_with fail
  refine (heldIntS_at _ x.2 (m + szS x.1) _ (by omega) (by omega) od1).mono ?_
  rintro e w2 ⟨rfl, b2⟩
  have bb2 := Below.next bb1 b2
  have hn2 : decide (m + szS x.1 + szI x.2 < 0) = false := decide_eq_false (by omega)
  clear hn1
  go_wp2
  go_ret
  exact ⟨ret_int (by rw [HZ.out]; omega), bb2⟩
end Go.Proofs.YtipbdpdmefcofaaDoor
