/-
  Rows of whatever structs in memory that are read, and rows of corners.
-/
import Derived.Test.YtbhdloanlagddaaHAa
import Derived.Test.YtbhdloanlagddaaGO
import Derived.Test.YtbhdloanlagddaaOVa
namespace Go.Proofs.Ytbhdloanlagddaa
open Go.RowKit
set_option linter.unusedVariables false
set_option linter.unusedSimpArgs false

/-- The slice value v holds R's things, as cells. -/
def SR {α : Type} (enc : α → List Value) (size : Nat) (w : World) (v : Value) (R : List α) : Prop :=
  ∃ ao cap, v = .slice ao R.length cap ∧ (ao = none → cap = 0) ∧ R.length ≤ cap ∧ cap ≤ maxLen ∧ ∀ i (h : i < R.length), ∃ b off, ao = some ⟨b, off, none⟩ ∧ ∀ j u, (enc R[i])[j]? = some u → w.cell? ⟨b, off + i * size + j, none⟩ = some u
section
variable {α : Type} {enc : α → List Value} {e : TypeId} {size : Nat} {w w' : World} {base : Nat} {v : Value} {R : List α}
theorem SR.ext (h : SR enc size w v R) (hx : Ext w w') : SR enc size w' v R := by
  obtain ⟨ao, cap, e, h1, h2, h3, h4⟩ := h
  refine ⟨ao, cap, e, h1, h2, h3, fun i hi => ?_⟩
  obtain ⟨b, off, e2, hc⟩ := h4 i hi
  refine ⟨b, off, e2, fun j u hu => ?_⟩
  rw [hx.cell (p := ⟨b, off + i * size + j, none⟩) (World.block_lt_of_cell? w _ (hc j u hu))]
  exact hc j u hu
theorem SR.grown {r : Nat} (h : SR enc size w v R) (hg : w.grownBy w' (some r)) (hne : R ≠ [] → v.ownBlock ≠ some r) : SR enc size w' v R := by
  obtain ⟨ao, cap, e, h1, h2, h3, h4⟩ := h
  refine ⟨ao, cap, e, h1, h2, h3, fun i hi => ?_⟩
  obtain ⟨b, off, e2, hc⟩ := h4 i hi
  have hb : b ≠ r := by
    intro e3
    subst e3
    refine hne (by intro e4; rw [e4] at hi; simp at hi) ?_
    rw [e, e2]
    rfl
  refine ⟨b, off, e2, fun j u hu => ?_⟩
  rw [World.cell?_of_block (w := w) (hg.block b (World.block_lt_of_cell? w _ (hc j u hu)) (by simpa using hb))]
  exact hc j u hu
theorem SR.nil (w : World) : SR enc size w (.slice none 0 0) ([] : List α) := ⟨none, 0, rfl, fun _ => rfl, Nat.le_refl _, Nat.zero_le _, fun i hi => by simp at hi⟩
theorem SR.len {ao : Option Addr} {n cap : Nat} (h : SR enc size w (.slice ao n cap) R) : n = R.length := by
  obtain ⟨_, _, e, _⟩ := h
  cases e
  rfl
theorem SR.at {ao : Option Addr} {n cap : Nat} (h : SR enc size w (.slice ao n cap) R) (i : Nat) (hi : i < R.length) : ∃ b off, ao = some ⟨b, off, none⟩ ∧ ∀ j u, (enc R[i])[j]? = some u → w.cell? ⟨b, off + i * size + j, none⟩ = some u := by
  obtain ⟨_, _, e, _, _, _, h4⟩ := h
  cases e
  exact h4 i hi
/-- Where there is a thing its block is known, for all worlds beyond. -/
theorem SR.all {ao : Option Addr} {n cap : Nat} (h : SR enc size w (.slice ao n cap) R) (h0 : 0 < R.length) : ∃ b off, ao = some ⟨b, off, none⟩ ∧ ∀ i (hi : i < R.length) wx, Ext w wx → ∀ j u, (enc R[i])[j]? = some u → wx.cell? ⟨b, off + i * size + j, none⟩ = some u := by
  obtain ⟨b, off, rfl, _⟩ := h.at 0 h0
  refine ⟨b, off, rfl, fun i hi wx hx j u hu => ?_⟩
  obtain ⟨b2, off2, e2, hc⟩ := (h.ext hx).at i hi
  cases e2
  exact hc j u hu
theorem SR.lt (h : SR enc size w v R) (hs : ∀ x, (enc x).length = size) (hp : 0 < size) (hne : R ≠ []) : ∀ b, v.ownBlock = some b → b < w.heap.size := by
  intro b hb
  obtain ⟨ao, cap, rfl, _, _, _, h4⟩ := h
  have h0 : 0 < R.length := List.length_pos_iff.2 hne
  obtain ⟨b2, off, rfl, hc⟩ := h4 0 h0
  cases hb
  have hl := hs R[0]
  have : (enc R[0])[0]? = some ((enc R[0])[0]'(by omega)) := List.getElem?_eq_getElem _
  have h9 := World.block_lt_of_cell? w _ (hc 0 _ this)
  exact h9
theorem SR.take {ao : Option Addr} {n cap : Nat} (h : SR enc size w (.slice ao n cap) R) (m : Nat) (hm : m ≤ R.length) : SR enc size w (.slice ao m cap) (R.take m) := by
  obtain ⟨ao', cap', e, h1, h2, h3, h4⟩ := h
  cases e
  have hl : (R.take m).length = m := by simp; omega
  refine ⟨ao, cap, by rw [hl], h1, by rw [hl]; omega, h3, fun i hi => ?_⟩
  rw [hl] at hi
  have := h4 i (by omega)
  simpa using this
theorem GO.sr (h : GO enc e size w base v R) (hs : ∀ x, (enc x).length = size) : SR enc size w v R := by
  obtain ⟨ao, cap, rfl, h1, h2, h3⟩ := GO.shape h
  refine ⟨ao, cap, rfl, h1, h2, h3, fun i hi => ?_⟩
  obtain ⟨g, rfl, _, _, hc⟩ := GO.at hs h i hi
  refine ⟨g, 0, rfl, fun j u hu => ?_⟩
  have hj : j < size := by rw [← hs R[i]]; exact (List.getElem?_eq_some_iff.1 hu).1
  rw [Nat.zero_add]
  exact hc j u hj hu
theorem SR.ofBlk {g : Nat} {t : TypeId} (hs : ∀ x, (enc x).length = size) (h : Blk w g (R.flatMap enc).toArray t) (hm : R.length ≤ maxLen) : SR enc size w (.slice (some ⟨g, 0, none⟩) R.length R.length) R := by
  refine ⟨_, _, rfl, (fun h => by cases h), Nat.le_refl _, hm, fun i hi => ⟨g, 0, rfl, fun j u hu => ?_⟩⟩
  have hj : j < size := by rw [← hs R[i]]; exact (List.getElem?_eq_some_iff.1 hu).1
  rw [Nat.zero_add]
  refine h.cell ?_
  rw [List.getElem?_toArray, flat_get hs R i hi j hj]
  exact hu
end
/-- Several things appended to a row that is the call's own. -/
theorem run_append_GM {P : Program} {α : Type} {enc : α → List Value} {e : TypeId} {size : Nat} {w : World} {z : Value} {bytes : Nat} {t : TypeId} (ty : TypeId)
    (hinfo : (P.info? e).map (fun i => (i.zero, i.size, i.bytes)) = some (some z, size, bytes)) (hu : P.underlying t = some (.slice e)) (hz : z.cells.size = size) (hp : 0 < size) (hb : bytes ≤ 400)
    (base : Nat) (v : Value) (L M : List α) (hown : GO enc e size w base v L) (ad : Addr) (cm : Nat) (hM : SR enc size w (.slice (some ad) M.length cm) M) (hsz : ∀ x, (enc x).length = size) (hone : ∀ x ∈ M, ∀ u ∈ enc x, u.oneCell' = true)
    (hL : L.length + M.length ≤ 100000000000) (hbase : base ≤ w.heap.size) :
    ∃ ao cap N w', N = L ++ M ∧ (Builtin.append_ #[t, t] ty #[v, .slice (some ad) M.length cm]).run P w = .ok (.slice ao N.length cap) w' ∧ GO enc e size w' base (.slice ao N.length cap) N ∧ w.grownBy w' v.ownBlock ∧ (∀ b, (Value.slice ao N.length cap).ownBlock = some b → v.ownBlock = some b ∨ w.heap.size ≤ b) := by
  obtain ⟨i0, hi, hz0, hz1, hz2⟩ := info_partsG hinfo
  obtain ⟨v', w', hr, h1, h2, _, h4⟩ := run_append_own_at (P := P) w base t ty e i0 _ size bytes hu hi hz0 hz1 hz2 hz hp v L.length (L.flatMap enc) hown ad M.length cm (M.flatMap enc) (flat_len hsz M)
    (by
      intro j u hu
      have hj : j < M.length * size := by
        have := (List.getElem?_eq_some_iff.1 hu).1
        rwa [flat_len hsz M] at this
      have hk : j / size < M.length := Nat.div_lt_of_lt_mul (by rwa [Nat.mul_comm] at hj)
      have hm : j % size < size := Nat.mod_lt _ hp
      have h1 := flat_get hsz M (j / size) hk (j % size) hm
      have e : j / size * size + j % size = j := by rw [Nat.mul_comm]; exact Nat.div_add_mod j size
      rw [e, hu] at h1
      obtain ⟨b, off, had, hcell⟩ := hM.at (j / size) hk
      have h2 := hcell (j % size) u h1.symm
      rw [Nat.add_assoc, e] at h2
      cases had
      rw [Addr.add_lit]
      exact h2)
    (by
      intro u hu
      obtain ⟨x, hx, h⟩ := List.mem_flatMap.1 hu
      exact hone x hx u h) (by unfold maxLen; omega)
    (by
      have : (L.length + M.length) * bytes ≤ (L.length + M.length) * 400 := Nat.mul_le_mul_left _ hb
      omega) hbase
  have h3 : GO enc e size w' base v' (L ++ M) := by
    unfold GO
    rw [List.flatMap_append, List.length_append]
    simpa using h1
  obtain ⟨ao, cap, rfl, _⟩ := h3.shape
  refine ⟨ao, cap, _, w', rfl, hr, h3, h2, fun b hb => ?_⟩
  rcases h4 with h4 | h4
  · exact .inl (h4 ▸ hb)
  · rw [h4] at hb
    cases hb
    exact .inr (Nat.le_refl _)
/-- The same, of a row that has some. -/
theorem run_append_GL {P : Program} {α : Type} {enc : α → List Value} {e : TypeId} {size : Nat} {w : World} {z : Value} {bytes : Nat} {t : TypeId} (ty : TypeId)
    (hinfo : (P.info? e).map (fun i => (i.zero, i.size, i.bytes)) = some (some z, size, bytes)) (hu : P.underlying t = some (.slice e)) (hz : z.cells.size = size) (hp : 0 < size) (hb : bytes ≤ 400)
    (base : Nat) (v : Value) (L M : List α) (hown : GO enc e size w base v L) (vm : Value) (hM : SR enc size w vm M) (hM0 : M ≠ []) (hsz : ∀ x, (enc x).length = size) (hone : ∀ x ∈ M, ∀ u ∈ enc x, u.oneCell' = true)
    (hL : L.length + M.length ≤ 100000000000) (hbase : base ≤ w.heap.size) :
    ∃ ao cap N w', N = L ++ M ∧ (Builtin.append_ #[t, t] ty #[v, vm]).run P w = .ok (.slice ao N.length cap) w' ∧ GO enc e size w' base (.slice ao N.length cap) N ∧ w.grownBy w' v.ownBlock ∧ (∀ b, (Value.slice ao N.length cap).ownBlock = some b → v.ownBlock = some b ∨ w.heap.size ≤ b) := by
  obtain ⟨am, cm, rfl, _⟩ := id hM
  obtain ⟨b, off, rfl, _⟩ := hM.all (List.length_pos_iff.2 hM0)
  exact run_append_GM ty hinfo hu hz hp hb base v L M hown _ cm hM hsz hone hL hbase
theorem wpList_runA {P : Program} {w w' : World} {ops : Array Oper} {rest : List Oper} {o : Oper} {a : Act} {Q : Exit → Act → World → Prop} (hgd : o.guard = none) (s x : Operand) (t : TypeId)
    (ho : o.op = .call { callee := .builtin .append, args := #[s, x], argTypes := #[t, t] }) {v vx v' : Value} (hs : a.eval s = v) (hx : a.eval x = vx) (hr : (Builtin.append_ #[t, t] o.type #[v, vx]).run P w = .ok v' w') (h : wpList P ops Q rest (a.put o.dst v') w') : wpList P ops Q (o :: rest) a w := by
  refine wpList_plain hgd fun K hK => ?_
  unfold Oper.wp execOp
  simp only [ho, resolve, invoke, builtin, Sem.run_bind, Sem.run_pure, Result.andThen_ok, List.map_toArray, List.map_cons, List.map_nil, hs, hx, hr]
  exact hK _ _ h
theorem wp_runA {P : Program} {w w' : World} {o : Oper} {a : Act} {K : Act → World → Prop} {Q : Exit → Act → World → Prop} (s x : Operand) (t : TypeId)
    (ho : o.op = .call { callee := .builtin .append, args := #[s, x], argTypes := #[t, t] }) {v vx v' : Value} (hs : a.eval s = v) (hx : a.eval x = vx) (hr : (Builtin.append_ #[t, t] o.type #[v, vx]).run P w = .ok v' w') (h : K (a.put o.dst v') w') : o.wp P a w K Q := by
  unfold Oper.wp execOp
  simp only [ho, resolve, invoke, builtin, Sem.run_bind, Sem.run_pure, Result.andThen_ok, List.map_toArray, List.map_cons, List.map_nil, hs, hx, hr]
  exact h
/-- 'append' at a step of a region that draws, its run known. -/
theorem step_runA {P : Program} {ops : Array Oper} {o : Oper} {a : Act} {w w' : World} {K : Act → World → Prop} {Q : Exit → Act → World → Prop} {E : Prop} (hgd : o.guard = none) (s x : Operand) (t : TypeId)
    (ho : o.op = .call { callee := .builtin .append, args := #[s, x], argTypes := #[t, t] }) {v vx v' : Value} (hs : a.eval s = v) (hx : a.eval x = vx) (hr : (Builtin.append_ #[t, t] o.type #[v, vx]).run P w = .ok v' w') (h : K (a.put o.dst v') w') :
    if Region.wanted o (yielded ops a.tmps) = true then Oper.wp P o a w K Q else E := by
  have hw : Region.wanted o (yielded ops a.tmps) = true := by simp [Region.wanted, hgd]
  rw [if_pos hw]
  unfold Oper.wp execOp
  simp only [ho, resolve, invoke, builtin, Sem.run_bind, Sem.run_pure, Result.andThen_ok, List.map_toArray, List.map_cons, List.map_nil, hs, hx, hr]
  exact h

/-- A corner in memory: what it is, and its Vars as a value. -/
abbrev Vx := Vt × Value
def vxC (x : Vx) : List Value := [.int .i32 (x.1.p 0), .int .i32 (x.1.p 1), .int .i32 (x.1.p 2), .int .i32 (x.1.p 3), .int .i32 x.1.s, x.2]
theorem vxC_len (x : Vx) : (vxC x).length = 6 := rfl
/-- A corner in the window, in memory. -/
abbrev Wx := Wn × Value
def wxC (x : Wx) : List Value := [.int .i64 x.1.x, .int .i64 x.1.y, .int .i32 x.1.z, .int .i32 x.1.w, .int .i32 x.1.s, x.2]
theorem wxC_len (x : Wx) : (wxC x).length = 6 := rfl
abbrev Tx := Wx × Wx × Wx
def txC (t : Tx) : List Value := wxC t.1 ++ wxC t.2.1 ++ wxC t.2.2
theorem txC_len (x : Tx) : (txC x).length = 18 := rfl
def txP (t : Tx) : Wn × Wn × Wn := (t.1.1, t.2.1.1, t.2.2.1)
/-- The Vars of a corner. -/
def VQ (w : World) (v : Value) (vs : List (Nat → Int)) : Prop := SR vEnc 4 w v vs
theorem SR.one1 {w : World} {v : Value} {vs : List (Nat → Int)} (h : VQ w v vs) : v.oneCell' = true := by
  obtain ⟨ao, cap, rfl, _⟩ := h
  rfl
/-- A row of corners that is read. -/
structure VtR (w : World) (v : Value) (R : List Vx) : Prop where
  row : SR vxC 6 w v R
  vars : ∀ x ∈ R, VQ w x.2 x.1.vs
theorem VtR.ext {w w' : World} {v : Value} {R : List Vx} (h : VtR w v R) (hx : Ext w w') : VtR w' v R := ⟨h.row.ext hx, fun x hx2 => SR.ext (h.vars x hx2) hx⟩
/-- The same, of corners in the window. -/
structure WnR (w : World) (v : Value) (R : List Wx) : Prop where
  row : SR wxC 6 w v R
  vars : ∀ x ∈ R, VQ w x.2 x.1.vs
theorem WnR.ext {w w' : World} {v : Value} {R : List Wx} (h : WnR w v R) (hx : Ext w w') : WnR w' v R := ⟨h.row.ext hx, fun x hx2 => SR.ext (h.vars x hx2) hx⟩
/-- The Vars of three corners. -/
def TQ (w : World) (t : Tx) : Prop := VQ w t.1.2 t.1.1.vs ∧ VQ w t.2.1.2 t.2.1.1.vs ∧ VQ w t.2.2.2 t.2.2.1.vs
theorem TQ.ext {w w' : World} {t : Tx} (h : TQ w t) (hx : Ext w w') : TQ w' t := ⟨SR.ext h.1 hx, SR.ext h.2.1 hx, SR.ext h.2.2 hx⟩
structure TnR (w : World) (v : Value) (R : List Tx) : Prop where
  row : SR txC 18 w v R
  vars : ∀ x ∈ R, TQ w x
theorem TnR.ext {w w' : World} {v : Value} {R : List Tx} (h : TnR w v R) (hx : Ext w w') : TnR w' v R := ⟨h.row.ext hx, fun x hx2 => (h.vars x hx2).ext hx⟩
/-- Vars do not lie in block r. -/
def Off (v : Value) (vs : List (Nat → Int)) (r : Option Nat) : Prop := vs ≠ [] → ∀ b, r = some b → v.ownBlock ≠ some b
theorem VQ.grown {w w' : World} {v : Value} {vs : List (Nat → Int)} {r : Option Nat} (h : VQ w v vs) (hg : w.grownBy w' r) (ho : Off v vs r) : VQ w' v vs := by
  cases r with
  | none => exact SR.ext h ⟨hg.os, hg.tape, hg.output, hg.size, fun i hi => hg.block i hi (by simp)⟩
  | some b => exact SR.grown h hg (fun hne => ho hne b rfl)
theorem VQ.off {w : World} {v : Value} {vs : List (Nat → Int)} {r : Option Nat} (h : VQ w v vs) (hr : ∀ b, r = some b → w.heap.size ≤ b) : Off v vs r := by
  intro hne b hb e
  have := SR.lt h vEnc_len (by decide) hne b e
  have := hr b hb
  omega
/-- A row of corners that is the call's own. -/
structure VtO (w : World) (base : Nat) (v : Value) (R : List Vx) : Prop where
  own : GO vxC 29 6 w base v R
  vars : ∀ x ∈ R, VQ w x.2 x.1.vs ∧ Off x.2 x.1.vs v.ownBlock
theorem VtO.nil (w : World) (base : Nat) : VtO w base (.slice none 0 0) [] := ⟨GO.nil _ _, by simp⟩
theorem VtO.ext {w w' : World} {base : Nat} {v : Value} {R : List Vx} (h : VtO w base v R) (hx : Ext w w') : VtO w' base v R := ⟨GO.ext h.own hx, fun x hx2 => ⟨SR.ext (h.vars x hx2).1 hx, (h.vars x hx2).2⟩⟩
theorem VtO.r {w : World} {base : Nat} {v : Value} {R : List Vx} (h : VtO w base v R) : VtR w v R := ⟨h.own.sr vxC_len, fun x hx => (h.vars x hx).1⟩
theorem infoVt : (Try.prog.info? 29).map (fun i => (i.zero, i.size, i.bytes)) = some (some (.agg #[.int .i32 0, .int .i32 0, .int .i32 0, .int .i32 0, .int .i32 0, .slice none 0 0]), 6, 48) := by kernel_rfl
theorem infoVc : (Try.prog.info? 26).map (fun i => (i.zero, i.size, i.bytes)) = some (some (.agg #[.int .i32 0, .int .i32 0, .int .i32 0, .int .i32 0]), 4, 16) := by kernel_rfl
theorem vxC_one {w : World} {x : Vx} (h : VQ w x.2 x.1.vs) : ∀ u ∈ vxC x, u.oneCell' = true := by
  intro u hu
  simp only [vxC, List.mem_cons, List.not_mem_nil, or_false] at hu
  rcases hu with rfl | rfl | rfl | rfl | rfl | rfl
  · rfl
  · rfl
  · rfl
  · rfl
  · rfl
  · exact SR.one1 h
/-- Corners appended to a row of the call's own: its run, and what it holds. -/
theorem push_vt {w W W1 : World} {R M : List Vx} {v vm : Value} (hR : VtO W w.heap.size v R) (hX : Ext w W) (hx : Ext W W1) (hM : VtR W1 vm M) (hM0 : M ≠ []) (hl : R.length + M.length ≤ 100000000000) (hoff : ∀ x ∈ M, Off x.2 x.1.vs v.ownBlock) :
    ∃ ao2 cap2 N w9, N = R ++ M ∧ (Builtin.append_ #[39, 39] 39 #[v, vm]).run Try.prog W1 = .ok (.slice ao2 N.length cap2) w9 ∧ VtO w9 w.heap.size (.slice ao2 N.length cap2) N ∧ Ext w w9 ∧ W1.grownBy w9 v.ownBlock := by
  have hX1 := hX.trans hx
  have hR1 := hR.ext hx
  obtain ⟨ao2, cap2, N, w9, hN, hrun, r1, r2, r3⟩ := run_append_GL (P := Try.prog) (t := 39) 39 infoVt Try.underlying39 rfl (by decide) (by decide) w.heap.size v R M hR1.own vm hM.row hM0 vxC_len (fun x hx => vxC_one (hM.vars x hx)) hl hX1.size
  refine ⟨ao2, cap2, N, w9, hN, hrun, ⟨r1, ?_⟩, hX1.grown r2 hX1.size (fun r hr => (GO.lt hR1.own r hr).1), r2⟩
  subst hN
  intro x hx2
  have key : VQ W1 x.2 x.1.vs ∧ Off x.2 x.1.vs v.ownBlock := by
    rcases List.mem_append.1 hx2 with h | h
    · exact hR1.vars x h
    · exact ⟨hM.vars x h, hoff x h⟩
  refine ⟨VQ.grown key.1 r2 key.2, fun hne b hb e => ?_⟩
  rcases r3 b hb with h | h
  · exact key.2 hne b h e
  · have := SR.lt key.1 vEnc_len (by decide) hne b e
    omega
end Go.Proofs.Ytbhdloanlagddaa
