/-
  Maps from texts, as functions; what a call leaves alone; a deferred call of a builtin.
-/
import Derived.Test.YtgcliklpbahfaaaDoorXM
import Derived.Maps.OwnSet
import Derived.Maps.Views
import Derived.Maps.AppendAt
import Derived.Defers
import Derived.StringKeys
namespace Go.Proofs.YtgcliklpbahfaaaDoor
open Go.RowKit
set_option linter.unusedVariables false
set_option linter.unusedSimpArgs false

/-! ### What a call leaves alone -/
/-- All blocks but T's are as they were. -/
structure Out (T : Nat → Prop) (w w' : World) : Prop where
  os : w'.os = w.os
  tape : w'.tape = w.tape
  output : w'.output = w.output
  size : w.heap.size ≤ w'.heap.size
  block : ∀ k, k < w.heap.size → ¬ T k → w'.heap[k]? = w.heap[k]?
/-- T' is T and perhaps blocks that were not there. -/
def Wid (T T' : Nat → Prop) (w : World) : Prop := ∀ b, (b < w.heap.size → T b → T' b) ∧ (T' b → T b ∨ w.heap.size ≤ b)
section
variable {T T' T'' : Nat → Prop} {a b c w w' w'' : World}
theorem Out.refl (T : Nat → Prop) (w : World) : Out T w w := ⟨rfl, rfl, rfl, Nat.le_refl _, fun _ _ _ => rfl⟩
theorem Out.trans (h : Out T a b) (k : Out T' b c) (ht : ∀ k, T' k → T k ∨ a.heap.size ≤ k) : Out T a c :=
  ⟨k.os.trans h.os, k.tape.trans h.tape, k.output.trans h.output, Nat.le_trans h.size k.size, fun i hi hn => (k.block i (Nat.lt_of_lt_of_le hi h.size) (fun hT => by rcases ht i hT with h1 | h1; exact hn h1; omega)).trans (h.block i hi hn)⟩
theorem Out.wide (h : Out T w w') (ht : ∀ k, T k → T' k) : Out T' w w' := ⟨h.os, h.tape, h.output, h.size, fun i hi hn => h.block i hi (fun e => hn (ht i e))⟩
theorem Out.of_ext (h : Ext w w') : Out T w w' := ⟨h.os, h.tape, h.output, h.size, fun k hk _ => h.block k hk⟩
theorem Out.of_grown {r : Option Nat} (h : w.grownBy w' r) (hr : ∀ k, r = some k → T k) : Out T w w' :=
  ⟨h.os, h.tape, h.output, h.size, fun k hk hn => h.block k hk (fun e => hn (hr k e.symm))⟩
theorem Out.ext (h : Out T w w') (ht : ∀ k, T k → w.heap.size ≤ k) : Ext w w' := ⟨h.os, h.tape, h.output, h.size, fun k hk => h.block k hk (fun e => by have := ht k e; omega)⟩
theorem Out.ext0 (h : Out T w w') {v : World} (hx : Ext v w) (ht : ∀ k, T k → v.heap.size ≤ k) : Ext v w' :=
  ⟨h.os.trans hx.os, h.tape.trans hx.tape, h.output.trans hx.output, Nat.le_trans hx.size h.size, fun k hk => (h.block k (Nat.lt_of_lt_of_le hk hx.size) (fun e => by have := ht k e; omega)).trans (hx.block k hk)⟩
theorem Blk.out {n : Nat} {cs : Array Value} {t : TypeId} (h : Blk w n cs t) (ho : Out T w w') (hn : ¬ T n) : Blk w' n cs t := (ho.block n h.lt hn).trans h
theorem Wid.refl (T : Nat → Prop) (w : World) : Wid T T w := fun b => ⟨fun _ h => h, .inl⟩
theorem Wid.low (h : Wid T T' w') (hs : w.heap.size ≤ w'.heap.size) : Wid T T' w := fun b => ⟨fun hb e => (h b).1 (Nat.lt_of_lt_of_le hb hs) e, fun e => (h b).2 e |>.imp id (Nat.le_trans hs)⟩
theorem Wid.trans (h : Wid T T' w) (k : Wid T' T'' w') (hs : w.heap.size ≤ w'.heap.size) : Wid T T'' w := fun b => ⟨fun hb e => (k b).1 (Nat.lt_of_lt_of_le hb hs) ((h b).1 hb e), fun e => by
  rcases (k b).2 e with h1 | h1
  · exact (h b).2 h1
  · exact .inr (by omega)⟩
end

/-! ### Rows of tokens out of T -/
/-- The tokens of a row, its block none of T's. -/
def TF (T : Nat → Prop) (w : World) (v : Value) (L : List Tok) : Prop := TR w v L ∧ ∀ b off n cap, v = .slice (some ⟨b, off, none⟩) n cap → 0 < L.length → ¬ T b
section
variable {T T' : Nat → Prop} {w w' : World} {v : Value} {L : List Tok}
theorem TokAt.out {b off : Nat} {t : Tok} (h : TokAt w b off t) (ho : Out T w w') (hb : ¬ T b) : TokAt w' b off t := by
  have hc : ∀ j u, w.cell? ⟨b, j, none⟩ = some u → w'.cell? ⟨b, j, none⟩ = some u := fun j u hu => by
    have hl := World.block_lt_of_cell? w _ hu
    have := ho.block b hl hb
    unfold World.cell? at hu ⊢
    simp only at hu ⊢
    rw [this]
    exact hu
  exact ⟨hc _ _ h.kind, hc _ _ h.text, hc _ _ h.num, hc _ _ h.place, hc _ _ h.line⟩
theorem TF.out (h : TF T w v L) (ho : Out T w w') : TF T w' v L := by
  obtain ⟨⟨ao, cap, rfl, h1, h2, h3, h4⟩, hT⟩ := h
  refine ⟨⟨ao, cap, rfl, h1, h2, h3, fun i hi => ?_⟩, hT⟩
  obtain ⟨b, off, rfl, c⟩ := h4 i hi
  exact ⟨b, off, rfl, c.out ho (hT b off _ _ rfl (by omega))⟩
theorem TF.wid (h : TF T w v L) (hw : Wid T T' w) : TF T' w v L := by
  refine ⟨h.1, fun b off n cap e hL hT => ?_⟩
  rcases (hw b).2 hT with h1 | h1
  · exact h.2 b off n cap e hL h1
  · obtain ⟨ao, cap', e', _, _, _, h4⟩ := h.1
    obtain ⟨b', off', e2, c⟩ := h4 0 hL
    rw [e] at e'
    cases e'
    cases e2
    have := World.block_lt_of_cell? w _ c.kind
    simp only at this
    omega
theorem TF.step (h : TF T w v L) (ho : Out T w w') (hw : Wid T T' w) : TF T' w' v L := by
  have h1 := h.wid hw
  have h2 := h.out ho
  exact ⟨h2.1, h1.2⟩
theorem TF.ext (h : TF T w v L) (hx : Ext w w') : TF T w' v L := ⟨h.1.ext hx, h.2⟩
theorem TF.nil (w : World) : TF T w (.slice none 0 0) [] := ⟨TR.nil w, fun _ _ _ _ e => by cases e⟩
/-- A row that came with a call's answer. -/
theorem TF.of_TO {base : Nat} (h : TO w base v L) (ht : ∀ b, base ≤ b → ¬ T b) : TF T w v L := by
  refine ⟨h.tr, fun b off n cap e hL => ?_⟩
  rcases h.2 with ⟨_, h0⟩ | ⟨g, c, cur, e2, hb, _⟩
  · omega
  · rw [e] at e2
    cases e2
    exact ht b hb
/-- The tokens behind the first one. -/
theorem TF.tail {ao : Option Addr} {b off n cap : Nat} {t : Tok} (h : TF T w (.slice (some ⟨b, off, none⟩) n cap) (t :: L)) : TF T w (.slice (some ⟨b, off + 5, none⟩) L.length (cap - 1)) L := by
  obtain ⟨⟨ao, cap', e, h1, h2, h3, h4⟩, hT⟩ := h
  cases e
  simp only [List.length_cons] at h2
  refine ⟨⟨_, _, rfl, (fun e => by cases e), by omega, by omega, fun i hi => ?_⟩, fun b' off' n' cap'' e' hL => ?_⟩
  · obtain ⟨b', off', e', c⟩ := h4 (i + 1) (by simpa using hi)
    cases e'
    refine ⟨b, off + 5, rfl, ?_⟩
    rw [show off + 5 + i * 5 = off + (i + 1) * 5 by omega]
    simpa using c
  · cases e'
    exact hT b off _ _ rfl (by simp)
end

/-! ### Maps from texts -/
def heldV : Value → Option (DataW Value × List MemPlace) := fun v => some (.held v, [])
/-- Block mb is a map of at most n entries: at the text k stands g k. -/
def FM (w : World) (mb n : Nat) (g : Byts8 → Option Value) : Prop := ∃ D : DataW Value, w.ownsMap Tryd.prog 9 heldV mb n D ∧ ∀ k, Maps.has D (.string k) = (g k).isSome ∧ ∀ z, D.atKey (.string k) z = ((g k).map DataW.held).getD z
theorem keyS (k : Byts8) (hk : k.length ≤ maxLen) : keyOf Tryd.prog 9 (.string ⟨k.toArray⟩) = some (.string k) := by
  have := WideMaps.keyOf_string_mk (P := Tryd.prog) (k := 9) Tryd.underlying9 (s := ⟨k.toArray⟩) (show (⟨k.toArray⟩ : ByteArray).size ≤ maxLen from hk)
  simpa using this
theorem keyedS : Maps.Keyed Tryd.prog 9 := Maps.string_keyed Tryd.underlying9
section
variable {w w' : World} {mb n : Nat} {g : Byts8 → Option Value}
theorem FM.made (w : World) : FM (w.alloc (.map #[] 0)) w.heap.size 0 (fun _ => none) := ⟨.map [], World.ownsMap_made _ _ _ _, fun k => ⟨rfl, fun z => rfl⟩⟩
theorem FM.lt (h : FM w mb n g) : mb < w.heap.size := let ⟨_, h1, _⟩ := h; h1.lt
theorem FM.kept {row : Option Nat} (h : FM w mb n g) (hg : w.grownBy w' row) (hne : some mb ≠ row) : FM w' mb n g := let ⟨D, h1, h2⟩ := h; ⟨D, h1.kept hg hne, h2⟩
theorem FM.out {T : Nat → Prop} (h : FM w mb n g) (ho : Out T w w') (hn : ¬ T mb) : FM w' mb n g := by
  obtain ⟨D, ⟨es, clock, hb, r⟩, h2⟩ := h
  have hl : mb < w.heap.size := (Array.getElem?_eq_some_iff.1 hb).1
  exact ⟨D, ⟨es, clock, (ho.block mb hl hn).trans hb, r⟩, h2⟩
theorem FM.ext (h : FM w mb n g) (hx : Ext w w') : FM w' mb n g := h.out (T := fun _ => False) (Out.of_ext hx) id
theorem FM.mono {m : Nat} (h : FM w mb n g) (hm : n ≤ m) : FM w mb m g := let ⟨D, h1, h2⟩ := h; ⟨D, h1.mono hm, h2⟩
theorem FM.congr {g' : Byts8 → Option Value} (h : FM w mb n g) (e : ∀ k, g k = g' k) : FM w mb n g' := by
  have : g = g' := funext e
  rw [← this]
  exact h
theorem FM.look {t e : TypeId} {z : Value} (h : FM w mb n g) (ht : Tryd.prog.underlying t = some (.map 9 e)) (hz : (zeroValue e).run Tryd.prog w = .ok z w) (k : Byts8) (hk : k.length ≤ maxLen) :
    (Instr.lookup t (.map (some mb)) (.string ⟨k.toArray⟩) true).run Tryd.prog w = .ok (.tuple #[(g k).getD z, .bool (g k).isSome]) w := by
  obtain ⟨D, h1, h2⟩ := h
  obtain ⟨v, ps, hrun, hv⟩ := h1.look_ok keyedS ht hz (zd := .held z) (zp := []) rfl (keyS k hk)
  rw [hrun, (h2 k).1]
  have hv2 : DataW.held v = ((g k).map DataW.held).getD (.held z) := by
    rw [← (h2 k).2]
    have := congrArg (Option.map Prod.fst) hv
    simpa [heldV] using this
  have : v = (g k).getD z := by
    cases hg : g k with
    | none => rw [hg] at hv2; simpa using hv2
    | some x => rw [hg] at hv2; simpa using hv2
  rw [this]
theorem FM.put {t e : TypeId} (h : FM w mb n g) (ht : Tryd.prog.underlying t = some (.map 9 e)) (hn : n < maxLen) (k : Byts8) (hk : k.length ≤ maxLen) (v : Value) :
    ∃ w', (Instr.mapUpdate t (.map (some mb)) (.string ⟨k.toArray⟩) v).run Tryd.prog w = .ok () w' ∧ FM w' mb (n + 1) (fun k' => if k' = k then some v else g k') ∧ w.grownBy w' (some mb) := by
  obtain ⟨D, h1, h2⟩ := h
  obtain ⟨w', hrun, h3, h4⟩ := h1.store keyedS ht hn (keyS k hk) (show heldV v = some (.held v, []) from rfl)
  refine ⟨w', hrun, ⟨_, h3, fun k' => ?_⟩, h4.grown⟩
  have hD := h1.isMap
  by_cases hkk : k' = k
  · subst hkk
    dsimp only
    rw [if_pos rfl]
    exact ⟨Maps.has_put_same hD (show WideAt.IsKeyLit (Lit.string k') from trivial) _, fun z => Maps.atKey_put_same hD (show WideAt.IsKeyLit (Lit.string k') from trivial) _ z⟩
  · dsimp only
    rw [if_neg hkk]
    have hne : Lit.string k' ≠ Lit.string k := fun e => hkk (by cases e; rfl)
    exact ⟨(Maps.has_put_other hne _).trans (h2 k').1, fun z => (Maps.atKey_put_other hne _ z).trans ((h2 k').2 z)⟩
theorem FM.del {t e : TypeId} (h : FM w mb n g) (ht : Tryd.prog.underlying t = some (.map 9 e)) (k : Byts8) (hk : k.length ≤ maxLen) (ty : TypeId) :
    ∃ w', (Builtin.delete_ #[t, 9] ty #[.map (some mb), .string ⟨k.toArray⟩]).run Tryd.prog w = .ok (.tuple #[]) w' ∧ FM w' mb n (fun k' => if k' = k then none else g k') ∧ w.grownBy w' (some mb) := by
  obtain ⟨D, h1, h2⟩ := h
  obtain ⟨w', hrun, h3, h4⟩ := h1.drop keyedS ht (keyS k hk) ty
  refine ⟨w', hrun, ⟨_, h3, fun k' => ?_⟩, h4.grown⟩
  by_cases hkk : k' = k
  · subst hkk
    dsimp only
    rw [if_pos rfl]
    exact ⟨Maps.has_del_same, fun z => Maps.atKey_del_same z⟩
  · dsimp only
    rw [if_neg hkk]
    have hne : Lit.string k' ≠ Lit.string k := fun e => hkk (by cases e; rfl)
    exact ⟨(Maps.has_del_other hne).trans (h2 k').1, fun z => (Maps.atKey_del_other hne z).trans ((h2 k').2 z)⟩
end

/-! ### A deferred call of a builtin -/
section
variable {P : Program}
theorem step_deferV {fr : Frame} {cs : List Frame} {w w' : World} {d : Deferred} {ds : List Deferred} {b : Builtin} {ats : Array TypeId} {ty : TypeId} {cns : Array Bool} {v : Value}
    (hm : fr.mode ≠ .run) (hd : fr.defers = d :: ds) (ht : d.target = .builtin b ats ty cns) (hi : (invoke d.target d.args).run P w = .ok (.value v) w') :
    step P (lone fr cs w) = .next (lone { fr with defers := ds } cs w') := by
  obtain ⟨t, a⟩ := d
  simp only at ht hi
  subst ht
  refine step_lone_go ?_
  cases hmode : fr.mode with
  | run => exact absurd hmode hm
  | returning => simp [stepG, unwind, callDeferred, hmode, hd, hi]
  | panicking chain => simp [stepG, unwind, callDeferred, hmode, hd, hi]
/-- What is left to do behind a return: deferred calls of builtins. -/
def LeavesV (P : Program) (fn : Func) (tmps : Array Value) (R : Ending → World → Prop) : List Deferred → World → Prop
  | [], w => ∃ v, (results fn tmps).run P w = .ok v w ∧ R (.returned v) w
  | d :: ds, w => ∃ b ats ty cns v w', d.target = .builtin b ats ty cns ∧ (invoke d.target d.args).run P w = .ok (.value v) w' ∧ LeavesV P fn tmps R ds w'
theorem leavesV_steps {fn : Func} {tmps : Array Value} {R : Ending → World → Prop} : ∀ (ds : List Deferred) (w : World) (fr : Frame)
    (cs : List Frame), fr.mode = .returning → fr.defers = ds → fr.tmps = tmps → P.funcs[fr.fn]? = some fn → fr.kind = .normal → LeavesV P fn tmps R ds w →
    ∃ e w' fr', R e w' ∧ Comes P (lone fr cs w) (lone fr' cs w') e ∧ fr'.fn = fr.fn ∧ fr'.leaving P w' e := by
  intro ds
  induction ds with
  | nil =>
    intro w fr cs hu hd ht hf hk h
    obtain ⟨v, hr, hR⟩ := h
    exact ⟨.returned v, w, fr, hR, Steps.refl P _, rfl, hu, hd, hk, fn, hf, ht ▸ hr⟩
  | cons d ds ih =>
    intro w fr cs hu hd ht hf hk h
    obtain ⟨b, ats, ty, cns, v, w1, htar, hinv, hrest⟩ := h
    have h1 := step_deferV (cs := cs) (by rw [hu]; simp) hd htar hinv
    obtain ⟨e', w'', fr', hR', hs', hfn', hl'⟩ := ih w1 { fr with defers := ds } cs hu rfl ht hf hk hrest
    exact ⟨e', w'', fr', hR', Comes.of_steps (.one h1) hs', hfn', hl'⟩
def bodyPostV (P : Program) (fn : Func) (R : Ending → World → Prop) : Exit → Act → World → Prop
  | .normal, a, w | .ret, a, w => LeavesV P fn a.tmps R a.defers w
  | .outgrown, _, w => R .outgrown w
  | _, _, _ => False
theorem calls_of_wp_defersV {f : FuncId} {fn : Func} {c : Code} {args : Array Value} {w : World} {R : Ending → World → Prop}
    (hf : P.funcs[f]? = some fn) (hb : fn.body = some c)
    (h : c.wp P (bodyPostV P fn R) { tmps := args ++ Array.replicate (fn.ntmps - args.size) undef, defers := [] } w) : Calls P f args w R := by
  intro cs
  let b : Frame := { (default : Frame) with fn := f, kind := .normal }
  have henter : Frame.enter P f args .normal =
      b.at { tmps := args ++ Array.replicate (fn.ntmps - args.size) undef, defers := [] } [.code c] := by
    simp [Frame.enter, Frame.at, hf, hb, b]
  obtain ⟨e, a', w', hq, harr⟩ := h b [] cs
  rw [← henter] at harr
  cases e with
  | normal =>
    obtain ⟨e', w'', fr', hR, hs, hfn, hl⟩ := leavesV_steps a'.defers w' { b.at a' [] with mode := .returning } cs rfl rfl rfl hf rfl hq
    exact ⟨e', w'', fr', hR, Comes.of_steps (Steps.trans harr (.one step_end)) hs, hfn, hl⟩
  | ret =>
    obtain ⟨todo, hs₀⟩ := harr
    obtain ⟨e', w'', fr', hR, hs, hfn, hl⟩ := leavesV_steps a'.defers w' { b.at a' todo with mode := .returning } cs rfl rfl rfl hf rfl hq
    exact ⟨e', w'', fr', hR, Comes.of_steps hs₀ hs, hfn, hl⟩
  | panic chain => exact hq.elim
  | exit id => exact hq.elim
  | goto l => exact hq.elim
  | outgrown => exact ⟨.outgrown, w', b, hq, harr.resolve_left (by simp [b]), rfl, trivial⟩
end
end Go.Proofs.YtgcliklpbahfaaaDoor
