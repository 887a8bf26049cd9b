/-
  What is told: the closure that calls itself, its memory.
-/
import Derived.Test.YtdcamcpffiilbaaDoorZF
import Derived.Deep.RegionLaw
namespace Go.Proofs.YtdcamcpffiilbaaDoor
open Go.RowKit
set_option linter.unusedVariables false
set_option linter.unusedSimpArgs false

theorem expL_app (f : Tok → Nat → Option (List Tok × Nat)) (B : List Tok) : ∀ (A : List Tok) (d : Nat), expL f (A ++ B) d = match expL f A d with
    | none => none
    | some (ys, d1) => match expL f B d1 with
      | none => none
      | some (zs, d2) => some (ys ++ zs, d2)
  | [], d => by
    simp only [List.nil_append, expL]
    cases expL f B d <;> rfl
  | t :: A, d => by
    simp only [List.cons_append, expL]
    cases f t d with
    | none => rfl
    | some p =>
      obtain ⟨xs, d1⟩ := p
      simp only
      rw [expL_app f B A d1]
      cases expL f A d1 with
      | none => rfl
      | some p =>
        obtain ⟨ys, d2⟩ := p
        simp only
        cases expL f B d2 with
        | none => rfl
        | some p => obtain ⟨zs, d3⟩ := p; simp
theorem expL_one (f : Tok → Nat → Option (List Tok × Nat)) (t : Tok) (d : Nat) : expL f [t] d = f t d := by
  simp only [expL]
  cases f t d with
  | none => rfl
  | some p => obtain ⟨xs, d1⟩ := p; simp

/-- A step of the list: told so far. -/
theorem expL_take {f : Tok → Nat → Option (List Tok × Nat)} {L : List Tok} {j d d1 d2 : Nat} {ys xs : List Tok} (hj : j < L.length) (h : expL f (L.take j) d = some (ys, d1)) (ht : f L[j] d1 = some (xs, d2)) : expL f (L.take (j + 1)) d = some (ys ++ xs, d2) := by
  rw [List.take_succ_eq_append_getElem hj, expL_app, h]
  simp only
  rw [expL_one, ht]
/-- A token too much is too much for all. -/
theorem expL_bad {f : Tok → Nat → Option (List Tok × Nat)} {L : List Tok} {j d d1 : Nat} {ys : List Tok} {n : Nat} (hj : j < L.length) (h : expL f (L.take j) d = some (ys, d1)) (ht : f L[j] d1 = none ∨ ∃ xs d2, f L[j] d1 = some (xs, d2) ∧ 2048 < (n + ys.length) + xs.length) :
    expL f L d = none ∨ ∃ xs d2, expL f L d = some (xs, d2) ∧ 2048 < n + xs.length := by
  have e : L = L.take j ++ (L[j] :: L.drop (j + 1)) := by rw [← List.drop_eq_getElem_cons hj, List.take_append_drop]
  rw [e, expL_app, h]
  simp only
  rcases ht with ht | ⟨xs, d2, ht, hl⟩
  · left
    simp only [expL, ht]
  · simp only [expL, ht]
    cases expL f (L.drop (j + 1)) d2 with
    | none => exact .inl rfl
    | some p =>
      obtain ⟨zs, d3⟩ := p
      refine .inr ⟨_, _, rfl, ?_⟩
      simp only [List.length_append]
      omega

section
variable {w w' : World} {T T' : Nat → Prop} {base rb mb n : Nat} {po : Option Addr} {pc : Nat} {to : Option Addr} {tc : Nat} {E : Env} {ps : List Part} {tl : List Tok}
/-- A block beside the reader's turns. -/
theorem RD.other {c : Nat} (h : RD w T base rb mb n po pc to tc E ps tl) (hg : w.grownBy w' (some c)) (hT : T c) (h1 : c ≠ rb) (h2 : c ≠ mb) (h3 : (Value.slice po ps.length pc).ownBlock ≠ some c) (h4 : (Value.slice to tl.length tc).ownBlock ≠ some c) : RD w' T base rb mb n po pc to tc E ps tl ∧ Out T w w' := by
  have ho : Out T w w' := Out.of_grown hg (fun k e => by cases e; exact hT)
  obtain ⟨f, hf, hs⟩ := h.map
  refine ⟨⟨h.blk.grown hg (fun e => h1 e.symm), ⟨f, hf.kept hg (fun e => h2 (by cases e; rfl)), fun k => (hs k).out ho⟩, World.ownsRow.kept h.parts hg (.inr h3), World.ownsRow.kept h.told hg (.inr h4), h.trb, h.tmb, h.ne, h.tpo, h.tto, h.low, Nat.le_trans h.high hg.size⟩, ho⟩
/-- T grows by new blocks. -/
theorem RD.wid (h : RD w T base rb mb n po pc to tc E ps tl) (hw : Wid T T' w) : RD w T' base rb mb n po pc to tc E ps tl := by
  obtain ⟨f, hf, hs⟩ := h.map
  refine ⟨h.blk, ⟨f, hf, fun k => (hs k).wid hw⟩, h.parts, h.told, (hw _).1 h.blk.lt h.trb, (hw _).1 hf.lt h.tmb, h.ne, fun b hb => ⟨(hw b).1 (World.ownsRow.lt h.parts b hb).2 (h.tpo b hb).1, (h.tpo b hb).2⟩, fun b hb => ⟨(hw b).1 (World.ownsRow.lt h.told b hb).2 (h.tto b hb).1, (h.tto b hb).2⟩, fun b hb => ?_, h.high⟩
  rcases (hw b).2 hb with h1 | h1
  · exact h.low b h1
  · exact Nat.le_trans h.high h1
/-- A token is told. -/
theorem RD.tellTok {to' : Option Addr} {tc' : Nat} {qs : List Tok} (h : RD w T base rb mb n po pc to tc E ps tl) (hg : w.grownBy w' (Value.slice to tl.length tc).ownBlock) (hp : TO w' base (.slice to' qs.length tc') qs)
    (hloc : ∀ b, (Value.slice to' qs.length tc').ownBlock = some b → (Value.slice to tl.length tc).ownBlock = some b ∨ w.heap.size ≤ b) :
    ∃ T', Wid T T' w ∧ RD (w'.setCell ⟨rb, 2, none⟩ (.slice to' qs.length tc')) T' base rb mb n po pc to' tc' E ps qs ∧ Out T w (w'.setCell ⟨rb, 2, none⟩ (.slice to' qs.length tc')) := by
  obtain ⟨f, hf, hs⟩ := h.map
  have hrbl := h.blk.lt
  have hmbl := hf.lt
  have ho6 : Out T w w' := Out.of_grown hg (fun k e => (h.tto k e).1)
  have hg7 := grownBy_set w' rb 2 (.slice to' qs.length tc')
  have ho : Out T w (w'.setCell ⟨rb, 2, none⟩ (.slice to' qs.length tc')) := ho6.trans (Out.of_grown hg7 (T := T) (fun k e => by cases e; exact h.trb)) (fun k e => .inl e)
  have hnew : ∀ b, (Value.slice to' qs.length tc').ownBlock = some b → b ≠ rb ∧ b ≠ mb ∧ (Value.slice po ps.length pc).ownBlock ≠ some b := fun b hb => by
    rcases hloc b hb with h1 | h1
    · exact (h.tto b h1).2
    · refine ⟨by omega, by omega, fun e => ?_⟩
      have := (World.ownsRow.lt h.parts b e).2
      omega
  have hw : Wid T (fun b => T b ∨ (Value.slice to' qs.length tc').ownBlock = some b) w := fun b => ⟨fun _ => .inl, fun e => by
    rcases e with e | e
    · exact .inl e
    · rcases hloc b e with h1 | h1
      · exact .inl (h.tto b h1).1
      · exact .inr h1⟩
  refine ⟨_, hw, ⟨?_, ⟨f, (hf.kept hg (fun e => (h.tto mb e.symm).2.2.1 rfl)).kept hg7 (fun e => h.ne (by cases e; rfl)), fun k => (hs k).step ho hw⟩, ?_, ?_, .inl h.trb, .inl h.tmb, h.ne, fun b hb => ⟨.inl (h.tpo b hb).1, (h.tpo b hb).2⟩, fun b hb => ⟨.inr hb, (hnew b hb).1, (hnew b hb).2.1, (hnew b hb).2.2⟩, fun b hb => ?_, Nat.le_trans h.high ho.size⟩, ho⟩
  · exact (blkGrownO h.blk hg (fun e => (h.tto rb e).2.1 rfl)).set 2 (.slice to' qs.length tc')
  · refine World.ownsRow.kept (World.ownsRow.kept h.parts hg ?_) hg7 ?_
    · cases hv : (Value.slice po ps.length pc).ownBlock with
      | none => exact .inl rfl
      | some b => exact .inr (fun e => (h.tto b e.symm).2.2.2 hv)
    · cases hv : (Value.slice po ps.length pc).ownBlock with
      | none => exact .inl rfl
      | some b => exact .inr (fun e => by cases e; exact (h.tpo _ hv).2.1 rfl)
  · refine World.ownsRow.kept hp hg7 ?_
    cases hv : (Value.slice to' qs.length tc').ownBlock with
    | none => exact .inl rfl
    | some b => exact .inr (fun e => by cases e; exact (hnew _ hv).1 rfl)
  · rcases hb with hb | hb
    · exact h.low b hb
    · exact (World.ownsRow.lt hp b hb).1
end

/-- 'append(told, x)', the block of x laid last: its run. -/
theorem append_T {w : World} {base : Nat} {v : Value} {L : List Tok} (h : TO w base v L) (hb : base ≤ w.heap.size) (hL : L.length ≤ 2932031007401) (x : Tok) :
    ∃ ao' cap' w2, (Builtin.append_ #[23, 23] 23 #[v, .slice (some ⟨w.heap.size, 0, none⟩) 1 1]).run Tryd.prog (w.alloc (.cells #[.int .i64 x.kind, .string ⟨x.text.toArray⟩, .int .i32 x.num, .int .i64 x.place, .int .i64 x.line] 33)) = .ok (.slice ao' (L.length + 1) cap') w2 ∧
      TO w2 base (.slice ao' (L.length + 1) cap') (L ++ [x]) ∧ (w.alloc (.cells #[.int .i64 x.kind, .string ⟨x.text.toArray⟩, .int .i32 x.num, .int .i64 x.place, .int .i64 x.line] 33)).grownBy w2 v.ownBlock ∧ ∀ b, (Value.slice ao' (L.length + 1) cap').ownBlock = some b → v.ownBlock = some b ∨ w.heap.size < b := by
  obtain ⟨i0, hi, hz0, hz1, hz2⟩ := info_parts3 infoT
  have hown := World.ownsRow.alloc h (.cells #[.int .i64 x.kind, .string ⟨x.text.toArray⟩, .int .i32 x.num, .int .i64 x.place, .int .i64 x.line] 33)
  obtain ⟨v', w2, hrun, h1, h2, _, h4⟩ := run_append_own_at (P := Tryd.prog) (w.alloc (.cells #[.int .i64 x.kind, .string ⟨x.text.toArray⟩, .int .i32 x.num, .int .i64 x.place, .int .i64 x.line] 33)) base 23 23 33 i0 _ 5 48 Tryd.underlying23 hi hz0 hz1 hz2 rfl (by decide) v L.length (tcells L) hown ⟨w.heap.size, 0, none⟩ 1 1 (tcell x) rfl
    (by
      intro j u hu
      have hB := Blk.new w #[.int .i64 x.kind, .string ⟨x.text.toArray⟩, .int .i32 x.num, .int .i64 x.place, .int .i64 x.line] 33
      rw [Addr.add_lit, Nat.zero_add]
      exact hB.cell (by simpa [tcell] using hu))
    (tcell_ones x) (by unfold maxLen; omega) (by omega) (by simp; omega)
  rw [← tcells_one x, ← tcells_append] at h1
  have hl : (L ++ [x]).length = L.length + 1 := by simp
  have hsh : ∃ ao' cap', v' = .slice ao' (L.length + 1) cap' := by
    rcases h1.2 with ⟨e, h0⟩ | ⟨g, c, cur, e, _⟩
    · omega
    · exact ⟨_, _, e⟩
  obtain ⟨ao', cap', rfl⟩ := hsh
  refine ⟨ao', cap', w2, hrun, by unfold TO; rw [hl]; exact h1, h2, fun b hb2 => ?_⟩
  rcases h4 with h4 | h4
  · exact .inl (h4 ▸ hb2)
  · rw [h4] at hb2
    simp at hb2
    exact .inr (by omega)
/-- 'append' at a step of a region that draws, its run known. -/
theorem step_run {P : Program} {ops : Array Oper} {o : Oper} {a : Act} {w w' : World} {K : Act → World → Prop} {Q : Exit → Act → World → Prop} {E : Prop} (hgd : o.guard = none) (s x : Operand) (t : TypeId)
    (ho : o.op = .call { callee := .builtin .append, args := #[s, x], argTypes := #[t, t] }) {v vx v' : Value} (hs : a.eval s = v) (hx : a.eval x = vx) (hr : (Builtin.append_ #[t, t] o.type #[v, vx]).run P w = .ok v' w') (h : K (a.put o.dst v') w') :
    if Region.wanted o (yielded ops a.tmps) = true then Oper.wp P o a w K Q else E := by
  have hw : Region.wanted o (yielded ops a.tmps) = true := by simp [Region.wanted, hgd]
  rw [if_pos hw]
  unfold Oper.wp execOp
  simp only [ho, resolve, invoke, builtin, Sem.run_bind, Sem.run_pure, Result.andThen_ok, List.map_toArray, List.map_cons, List.map_nil, hs, hx, hr]
  exact h

def inW (wi : List Byts8) : Byts8 → Option Value := fun k => if wi.contains k = true then some (.agg #[]) else none
/-- What the closure holds. -/
structure CL (w : World) (T : Nat → Prop) (rb mb cr cw ct cn ca wm : Nat) (pv tv : Value) (tk : Tok) (d nw : Nat) (wi : List Byts8) : Prop where
  r : Blk w cr #[.pointer (some ⟨rb, 0, none⟩)] 34
  wv : Blk w cw #[.map (some wm)] 81
  t : Blk w ct #[.int .i64 tk.kind, .string ⟨tk.text.toArray⟩, .int .i32 tk.num, .int .i64 tk.place, .int .i64 tk.line] 33
  nn : Blk w cn #[.int .i64 (d : Int)] 3
  a : Blk w ca #[.func (.func 53) #[] #[.pointer (some ⟨cr, 0, none⟩), .pointer (some ⟨cw, 0, none⟩), .pointer (some ⟨ct, 0, none⟩), .pointer (some ⟨cn, 0, none⟩), .pointer (some ⟨ca, 0, none⟩)]] 61
  m : FM w wm nw (inW wi)
  nT : ¬ T cr ∧ ¬ T cw ∧ ¬ T ct ∧ ¬ T ca
  tT : T cn ∧ T wm
  ne : cn ≠ wm ∧ cn ≠ rb ∧ cn ≠ mb ∧ wm ≠ rb ∧ wm ≠ mb ∧ pv.ownBlock ≠ some cn ∧ pv.ownBlock ≠ some wm ∧ tv.ownBlock ≠ some cn ∧ tv.ownBlock ≠ some wm
  le : nw ≤ d
section
variable {w w' : World} {T T' : Nat → Prop} {rb mb cr cw ct cn ca wm : Nat} {pv tv : Value} {tk : Tok} {d nw : Nat} {wi : List Byts8}
theorem CL.ext (h : CL w T rb mb cr cw ct cn ca wm pv tv tk d nw wi) (hx : Ext w w') : CL w' T rb mb cr cw ct cn ca wm pv tv tk d nw wi :=
  ⟨h.r.ext hx, h.wv.ext hx, h.t.ext hx, h.nn.ext hx, h.a.ext hx, h.m.ext hx, h.nT, h.tT, h.ne, h.le⟩
/-- Blocks of T but these two turn. -/
theorem CL.step {tv' : Value} (h : CL w T rb mb cr cw ct cn ca wm pv tv tk d nw wi) (ho : Out T w w') (hw : Wid T T' w) (h1 : w'.heap[cn]? = w.heap[cn]?) (h2 : w'.heap[wm]? = w.heap[wm]?) (h3 : tv'.ownBlock ≠ some cn ∧ tv'.ownBlock ≠ some wm) : CL w' T' rb mb cr cw ct cn ca wm pv tv' tk d nw wi := by
  have nw1 : ∀ b, b < w.heap.size → ¬ T b → ¬ T' b := fun b hb hn e => by
    rcases (hw b).2 e with h | h
    · exact hn h
    · omega
  refine ⟨h.r.out ho h.nT.1, h.wv.out ho h.nT.2.1, h.t.out ho h.nT.2.2.1, h1.trans h.nn, h.a.out ho h.nT.2.2.2, ?_, ⟨nw1 _ h.r.lt h.nT.1, nw1 _ h.wv.lt h.nT.2.1, nw1 _ h.t.lt h.nT.2.2.1, nw1 _ h.a.lt h.nT.2.2.2⟩, ⟨(hw _).1 h.nn.lt h.tT.1, (hw _).1 h.m.lt h.tT.2⟩, ⟨h.ne.1, h.ne.2.1, h.ne.2.2.1, h.ne.2.2.2.1, h.ne.2.2.2.2.1, h.ne.2.2.2.2.2.1, h.ne.2.2.2.2.2.2.1, h3.1, h3.2⟩, h.le⟩
  obtain ⟨D, ⟨es, clock, hb, r⟩, h5⟩ := h.m
  exact ⟨D, ⟨es, clock, h2.trans hb, r⟩, h5⟩
end
end Go.Proofs.YtdcamcpffiilbaaDoor
