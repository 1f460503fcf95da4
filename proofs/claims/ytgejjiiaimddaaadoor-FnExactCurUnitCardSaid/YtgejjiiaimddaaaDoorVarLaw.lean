/-
  What a law needs whose row names package-level variables and lists them: whatever they are, they read behind the call as they did before.
-/
import Derived.Test.YtgejjiiaimddaaaDoorLaw
import Derived.Test.YtgejjiiaimddaaaDoorCards
import Derived.Test.YtgejjiiaimddaaaDoorTie
import Derived.Deep.DeepHandedRow
import Derived.OpenVars
import Derived.Lib.LaidU8
namespace Go.Proofs.YtgejjiiaimddaaaDoor
open Go.ChangeShapes Go.WideShapes Go.ChangeAt Go.RowKit

theorem trodVars_length {H : Type} {enc : TypeId × Value → H} {P : Program} {w : World} {sp : Nat → Bool} : ∀ {ns : List String} {gs : List (DataW H)} {ps : List MemPlace}, DataW.TrodVars enc P w sp ns gs ps → gs.length = ns.length
  | [], [], _, _ => rfl
  | [], _ :: _, _, h => h.elim
  | _ :: _, [], _, h => h.elim
  | _ :: _, _ :: _, _, h => by
    obtain ⟨_, _, _, _, _, q, _, _, _, _, h5, _⟩ := h
    simp [trodVars_length h5]

/-- the post of a law that names variables -/
theorem law_postV {H : Type} {enc : TypeId × Value → H} {f : Func} {s : ChangeSpec} {tb : TypeId} {W W' : World} {args : Array Value} {ds gs : List (DataW H)} {before : List MemPlace}
    (hr : legible Tryd.prog f.params.toList = true) (hty : f.resultTypes = #[tb]) (htb : Tryd.prog.underlying tb = some .bool) (hv : varsRowed Tryd.prog s.vars = true)
    (hfn : ∀ gs : List (DataW H), gs.length = s.vars.length → s.fn H (ds ++ gs) = { results := [.lit (.bool true)], args := ds, vars := gs })
    (hW : DataW.Whole enc Tryd.prog f.params.toList s.vars false W args.toList ds gs before) (hb : Below W.heap.size W W') :
    s.post enc Tryd.prog f false true false false W args (.bool true) W' := by
  have hW' := hW
  obtain ⟨p, q, hA, hV, rfl, _, _⟩ := hW
  have hlt : ∀ x ∈ p, x.block < W.heap.size := fun x hx => hW'.lt x (by simp [hx])
  have e := hfn gs (trodVars_length hV)
  refine ⟨ds, gs, _, [], p, q, hW', ?_, ?_, ?_, hb.frame _, fun h => by cases h⟩
  · rw [e, hty]
    exact trodAll_mk1 (shut_bool htb _)
  · rw [e]
    exact args_below Tryd.laidOut hb hr hA hlt
  · rw [e]
    exact Below.trodVars Tryd.laidOut hb hv hV

set_option maxRecDepth 100000 in
/-- from the walk at every argument, the listed variables at hand, to the lifted row -/
theorem law_lifted_vars {H : Type} {enc : TypeId × Value → H} {os : Os} (started : os.Started) {F : Stop.Interp} {f : FuncId} {fn : Func} {s : ChangeSpec} {conds : List PathCond} {tb : TypeId} {laidL : List (String × DataW Unit)}
    (noInit : Tryd.prog.inits.idxOf? f = none) (hfun : Tryd.prog.funcs[f]? = some fn)
    (hr : legible Tryd.prog fn.params.toList = true) (hty : fn.resultTypes = #[tb]) (htb : Tryd.prog.underlying tb = some .bool) (hv : varsRowed Tryd.prog s.vars = true)
    (witness : ∃ (w : World) (tape : Tape) (i : Input), w.os = os ∧ (w.forCall tape i).Shaped Tryd.checked.prog ∧ i.vars = [] ∧ Input.okWide Tryd.checked.prog (w.forCall tape i) .any w.heap.size f i ∧
      (OpenSpec.ofChange s).preRow enc Tryd.checked.prog fn conds false laidL (w.forCall tape i).memory i.args ∧ Assume.holds {} Tryd.checked.prog (lone (Frame.enter Tryd.checked.prog f i.args .normal) [] (w.forCall tape i)))
    (walk : ∀ (W : World) (base : Nat) (args : Array Value) (ds : List (DataW H)) (p : List MemPlace),
      (∀ (j : Nat) t v, fn.params[j]? = some t → args[j]? = some v → Value.okWide Tryd.prog W .any base t v) →
      DataW.TrodAll enc Tryd.prog W 0 (fun _ => true) true fn.params.toList args.toList ds p → (∀ x ∈ p, x.block < W.heap.size) → laidMetH Tryd.prog laidL W →
      (∀ gs : List (DataW H), gs.length = s.vars.length → s.fn H (ds ++ gs) = { results := [.lit (.bool true)], args := ds, vars := gs }) ∧ Calls Tryd.prog f args W fun e W' => e = .returned (.bool true) ∧ Below W.heap.size W W') :
    ReturnsInHanded {} Tryd.checked os f .any ((OpenSpec.ofChange s).preRow enc Tryd.prog fn conds false laidL) (((OpenSpec.ofChange s).at F).post enc Tryd.prog fn false true false false) := by
  refine returnsInHanded_of_row (C := Tryd.checked) (s := OpenSpec.ofChange s) Tryd.own started noInit hfun witness ?_
  intro W base args ds gs before hval hW0 _ _ _ hL _ _
  have hW : DataW.Whole enc Tryd.prog fn.params.toList s.vars false W args.toList ds gs before := hW0
  have hW' := hW
  obtain ⟨p, q, hA, hV, rfl, _, _⟩ := hW
  obtain ⟨hfn, hc⟩ := walk W base args ds p hval hA (fun x hx => hW'.lt x (by simp [hx])) hL
  refine hc.mono fun e W' ⟨he, hb⟩ => ?_
  subst he
  exact ⟨_, rfl, law_postV hr hty htb hv hfn hW' hb⟩
end Go.Proofs.YtgejjiiaimddaaaDoor
