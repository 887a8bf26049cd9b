/-
  Maps from texts, as functions; what a call leaves alone; a deferred call of a builtin.
-/
import Derived.Test.YtdcamcpffiilbaaDoorZM0
import Derived.Maps.OwnSet
import Derived.Maps.Views
import Derived.Maps.AppendAt
import Derived.Defers
import Derived.StringKeys
namespace Go.Proofs.YtdcamcpffiilbaaDoor
open Go.RowKit
set_option linter.unusedVariables false
set_option linter.unusedSimpArgs false

/-! ### Maps from texts -/
def heldV : Value → Option (DataW Value × List MemPlace) := fun v => some (.held v, [])
/-- Block mb is a map of at most n entries: at the text k stands g k. -/
def FM (w : World) (mb n : Nat) (g : Byts8 → Option Value) : Prop := ∃ D : DataW Value, w.ownsMap Tryd.prog 9 heldV mb n D ∧ ∀ k, Maps.has D (.string k) = (g k).isSome ∧ ∀ z, D.atKey (.string k) z = ((g k).map DataW.held).getD z
theorem keyS (k : Byts8) (hk : k.length ≤ maxLen) : keyOf Tryd.prog 9 (.string ⟨k.toArray⟩) = some (.string k) := by
  have := WideMaps.keyOf_string_mk (P := Tryd.prog) (k := 9) Tryd.underlying9 (s := ⟨k.toArray⟩) (show (⟨k.toArray⟩ : ByteArray).size ≤ maxLen from hk)
  simpa using this
theorem keyedS : Maps.Keyed Tryd.prog 9 := Maps.string_keyed Tryd.underlying9
section
variable {w w' : World} {mb n : Nat} {g : Byts8 → Option Value}
theorem FM.made (w : World) : FM (w.alloc (.map #[] 0)) w.heap.size 0 (fun _ => none) := ⟨.map [], World.ownsMap_made _ _ _ _, fun k => ⟨rfl, fun z => rfl⟩⟩
theorem FM.lt (h : FM w mb n g) : mb < w.heap.size := let ⟨_, h1, _⟩ := h; h1.lt
theorem FM.kept {row : Option Nat} (h : FM w mb n g) (hg : w.grownBy w' row) (hne : some mb ≠ row) : FM w' mb n g := let ⟨D, h1, h2⟩ := h; ⟨D, h1.kept hg hne, h2⟩
theorem FM.out {T : Nat → Prop} (h : FM w mb n g) (ho : Out T w w') (hn : ¬ T mb) : FM w' mb n g := by
  obtain ⟨D, ⟨es, clock, hb, r⟩, h2⟩ := h
  have hl : mb < w.heap.size := (Array.getElem?_eq_some_iff.1 hb).1
  exact ⟨D, ⟨es, clock, (ho.block mb hl hn).trans hb, r⟩, h2⟩
theorem FM.ext (h : FM w mb n g) (hx : Ext w w') : FM w' mb n g := h.out (T := fun _ => False) (Out.of_ext hx) id
theorem FM.mono {m : Nat} (h : FM w mb n g) (hm : n ≤ m) : FM w mb m g := let ⟨D, h1, h2⟩ := h; ⟨D, h1.mono hm, h2⟩
theorem FM.congr {g' : Byts8 → Option Value} (h : FM w mb n g) (e : ∀ k, g k = g' k) : FM w mb n g' := by
  have : g = g' := funext e
  rw [← this]
  exact h
theorem FM.look {t e : TypeId} {z : Value} (h : FM w mb n g) (ht : Tryd.prog.underlying t = some (.map 9 e)) (hz : (zeroValue e).run Tryd.prog w = .ok z w) (k : Byts8) (hk : k.length ≤ maxLen) :
    (Instr.lookup t (.map (some mb)) (.string ⟨k.toArray⟩) true).run Tryd.prog w = .ok (.tuple #[(g k).getD z, .bool (g k).isSome]) w := by
  obtain ⟨D, h1, h2⟩ := h
  obtain ⟨v, ps, hrun, hv⟩ := h1.look_ok keyedS ht hz (zd := .held z) (zp := []) rfl (keyS k hk)
  rw [hrun, (h2 k).1]
  have hv2 : DataW.held v = ((g k).map DataW.held).getD (.held z) := by
    rw [← (h2 k).2]
    have := congrArg (Option.map Prod.fst) hv
    simpa [heldV] using this
  have : v = (g k).getD z := by
    cases hg : g k with
    | none => rw [hg] at hv2; simpa using hv2
    | some x => rw [hg] at hv2; simpa using hv2
  rw [this]
theorem FM.put {t e : TypeId} (h : FM w mb n g) (ht : Tryd.prog.underlying t = some (.map 9 e)) (hn : n < maxLen) (k : Byts8) (hk : k.length ≤ maxLen) (v : Value) :
    ∃ w', (Instr.mapUpdate t (.map (some mb)) (.string ⟨k.toArray⟩) v).run Tryd.prog w = .ok () w' ∧ FM w' mb (n + 1) (fun k' => if k' = k then some v else g k') ∧ w.grownBy w' (some mb) := by
  obtain ⟨D, h1, h2⟩ := h
  obtain ⟨w', hrun, h3, h4⟩ := h1.store keyedS ht hn (keyS k hk) (show heldV v = some (.held v, []) from rfl)
  refine ⟨w', hrun, ⟨_, h3, fun k' => ?_⟩, h4.grown⟩
  have hD := h1.isMap
  by_cases hkk : k' = k
  · subst hkk
    dsimp only
    rw [if_pos rfl]
    exact ⟨Maps.has_put_same hD (show WideAt.IsKeyLit (Lit.string k') from trivial) _, fun z => Maps.atKey_put_same hD (show WideAt.IsKeyLit (Lit.string k') from trivial) _ z⟩
  · dsimp only
    rw [if_neg hkk]
    have hne : Lit.string k' ≠ Lit.string k := fun e => hkk (by cases e; rfl)
    exact ⟨(Maps.has_put_other hne _).trans (h2 k').1, fun z => (Maps.atKey_put_other hne _ z).trans ((h2 k').2 z)⟩
theorem FM.del {t e : TypeId} (h : FM w mb n g) (ht : Tryd.prog.underlying t = some (.map 9 e)) (k : Byts8) (hk : k.length ≤ maxLen) (ty : TypeId) :
    ∃ w', (Builtin.delete_ #[t, 9] ty #[.map (some mb), .string ⟨k.toArray⟩]).run Tryd.prog w = .ok (.tuple #[]) w' ∧ FM w' mb n (fun k' => if k' = k then none else g k') ∧ w.grownBy w' (some mb) := by
  obtain ⟨D, h1, h2⟩ := h
  obtain ⟨w', hrun, h3, h4⟩ := h1.drop keyedS ht (keyS k hk) ty
  refine ⟨w', hrun, ⟨_, h3, fun k' => ?_⟩, h4.grown⟩
  by_cases hkk : k' = k
  · subst hkk
    dsimp only
    rw [if_pos rfl]
    exact ⟨Maps.has_del_same, fun z => Maps.atKey_del_same z⟩
  · dsimp only
    rw [if_neg hkk]
    have hne : Lit.string k' ≠ Lit.string k := fun e => hkk (by cases e; rfl)
    exact ⟨(Maps.has_del_other hne).trans (h2 k').1, fun z => (Maps.atKey_del_other hne z).trans ((h2 k').2 z)⟩
end

/-! ### A deferred call of a builtin -/
section
variable {P : Program}
theorem step_deferV {fr : Frame} {cs : List Frame} {w w' : World} {d : Deferred} {ds : List Deferred} {b : Builtin} {ats : Array TypeId} {ty : TypeId} {cns : Array Bool} {v : Value}
    (hm : fr.mode ≠ .run) (hd : fr.defers = d :: ds) (ht : d.target = .builtin b ats ty cns) (hi : (invoke d.target d.args).run P w = .ok (.value v) w') :
    step P (lone fr cs w) = .next (lone { fr with defers := ds } cs w') := by
  obtain ⟨t, a⟩ := d
  simp only at ht hi
  subst ht
  refine step_lone_go ?_
  cases hmode : fr.mode with
  | run => exact absurd hmode hm
  | returning => simp [stepG, unwind, callDeferred, hmode, hd, hi]
  | panicking chain => simp [stepG, unwind, callDeferred, hmode, hd, hi]
/-- What is left to do behind a return: deferred calls of builtins. -/
def LeavesV (P : Program) (fn : Func) (tmps : Array Value) (R : Ending → World → Prop) : List Deferred → World → Prop
  | [], w => ∃ v, (results fn tmps).run P w = .ok v w ∧ R (.returned v) w
  | d :: ds, w => ∃ b ats ty cns v w', d.target = .builtin b ats ty cns ∧ (invoke d.target d.args).run P w = .ok (.value v) w' ∧ LeavesV P fn tmps R ds w'
theorem leavesV_steps {fn : Func} {tmps : Array Value} {R : Ending → World → Prop} : ∀ (ds : List Deferred) (w : World) (fr : Frame)
    (cs : List Frame), fr.mode = .returning → fr.defers = ds → fr.tmps = tmps → P.funcs[fr.fn]? = some fn → fr.kind = .normal → LeavesV P fn tmps R ds w →
    ∃ e w' fr', R e w' ∧ Comes P (lone fr cs w) (lone fr' cs w') e ∧ fr'.fn = fr.fn ∧ fr'.leaving P w' e := by
  intro ds
  induction ds with
  | nil =>
    intro w fr cs hu hd ht hf hk h
    obtain ⟨v, hr, hR⟩ := h
    exact ⟨.returned v, w, fr, hR, Steps.refl P _, rfl, hu, hd, hk, fn, hf, ht ▸ hr⟩
  | cons d ds ih =>
    intro w fr cs hu hd ht hf hk h
    obtain ⟨b, ats, ty, cns, v, w1, htar, hinv, hrest⟩ := h
    have h1 := step_deferV (cs := cs) (by rw [hu]; simp) hd htar hinv
    obtain ⟨e', w'', fr', hR', hs', hfn', hl'⟩ := ih w1 { fr with defers := ds } cs hu rfl ht hf hk hrest
    exact ⟨e', w'', fr', hR', Comes.of_steps (.one h1) hs', hfn', hl'⟩
def bodyPostV (P : Program) (fn : Func) (R : Ending → World → Prop) : Exit → Act → World → Prop
  | .normal, a, w | .ret, a, w => LeavesV P fn a.tmps R a.defers w
  | .outgrown, _, w => R .outgrown w
  | _, _, _ => False
theorem calls_of_wp_defersV {f : FuncId} {fn : Func} {c : Code} {args : Array Value} {w : World} {R : Ending → World → Prop}
    (hf : P.funcs[f]? = some fn) (hb : fn.body = some c)
    (h : c.wp P (bodyPostV P fn R) { tmps := args ++ Array.replicate (fn.ntmps - args.size) undef, defers := [] } w) : Calls P f args w R := by
  intro cs
  let b : Frame := { (default : Frame) with fn := f, kind := .normal }
  have henter : Frame.enter P f args .normal =
      b.at { tmps := args ++ Array.replicate (fn.ntmps - args.size) undef, defers := [] } [.code c] := by
    simp [Frame.enter, Frame.at, hf, hb, b]
  obtain ⟨e, a', w', hq, harr⟩ := h b [] cs
  rw [← henter] at harr
  cases e with
  | normal =>
    obtain ⟨e', w'', fr', hR, hs, hfn, hl⟩ := leavesV_steps a'.defers w' { b.at a' [] with mode := .returning } cs rfl rfl rfl hf rfl hq
    exact ⟨e', w'', fr', hR, Comes.of_steps (Steps.trans harr (.one step_end)) hs, hfn, hl⟩
  | ret =>
    obtain ⟨todo, hs₀⟩ := harr
    obtain ⟨e', w'', fr', hR, hs, hfn, hl⟩ := leavesV_steps a'.defers w' { b.at a' todo with mode := .returning } cs rfl rfl rfl hf rfl hq
    exact ⟨e', w'', fr', hR, Comes.of_steps hs₀ hs, hfn, hl⟩
  | panic chain => exact hq.elim
  | exit id => exact hq.elim
  | goto l => exact hq.elim
  | outgrown => exact ⟨.outgrown, w', b, hq, harr.resolve_left (by simp [b]), rfl, trivial⟩
end
end Go.Proofs.YtdcamcpffiilbaaDoor
