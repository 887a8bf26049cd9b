/-
  Codes: rows of instructions that are the call's own; whole values moved within a fence.
-/
import Derived.Test.YtfoffnbkfnbglaaCJ
import Derived.Test.YtfoffnbkfnbglaaCO
namespace Go.Proofs.Ytfoffnbkfnbglaa
open Go.RowKit
set_option linter.unusedVariables false
set_option linter.unusedSimpArgs false

def icells (L : List (Nat → Int)) : List Value := L.flatMap (fun I => (insA I).toList)
theorem icells_len (L : List (Nat → Int)) : (icells L).length = L.length * 16 := by
  induction L with
  | nil => rfl
  | cons x r ih =>
    unfold icells at ih ⊢
    rw [List.flatMap_cons, List.length_append, ih]
    simp [insA]
    omega
theorem icells_append (A B : List (Nat → Int)) : icells (A ++ B) = icells A ++ icells B := by
  unfold icells
  rw [List.flatMap_append]
theorem icells_one (x : Nat → Int) : icells [x] = (insA x).toList := by simp [icells]
theorem icells_get : ∀ (L : List (Nat → Int)) (i : Nat) (h : i < L.length) (j : Nat), j < 16 → (icells L)[i * 16 + j]? = (insA L[i]).toList[j]?
  | x :: r, 0, _, j, hj => by
    have e : icells (x :: r) = (insA x).toList ++ icells r := rfl
    rw [e, List.getElem?_append_left (by simp [insA]; omega)]
    simp
  | x :: r, i + 1, h, j, hj => by
    have ih := icells_get r i (by simpa using h) j hj
    have e : icells (x :: r) = (insA x).toList ++ icells r := rfl
    have el : (insA x).toList.length = 16 := rfl
    rw [e, List.getElem?_append_right (by omega), el, show (i + 1) * 16 + j - 16 = i * 16 + j by omega]
    simpa using ih
theorem icells_ones (L : List (Nat → Int)) : ∀ u ∈ icells L, u.oneCell' = true := by
  intro u hu
  unfold icells at hu
  obtain ⟨I, _, h⟩ := List.mem_flatMap.1 hu
  simp [insA] at h
  rcases h with rfl | rfl | rfl | rfl | rfl | rfl | rfl | rfl | rfl | rfl | rfl | rfl | rfl | rfl | rfl | rfl <;> rfl

/-- The slice value v is the call's own and holds the instructions L. -/
def OI (w : World) (base : Nat) (v : Value) (L : List (Nat → Int)) : Prop := w.ownsRow base 39 16 v L.length (icells L)
section
variable {w w' : World} {base : Nat} {v : Value} {L : List (Nat → Int)}
theorem OI.ir (h : OI w base v L) : IR w v L := by
  have h0 := h
  rcases h.2 with ⟨e, h0⟩ | ⟨g, cap, cur, e, hb, hg, hnc, hcm, hcs, htake⟩
  · refine ⟨none, 0, by rw [h0]; exact e, fun _ => rfl, by omega, Nat.zero_le _, fun i hi => by omega⟩
  · refine ⟨_, cap, e, (fun h => by cases h), hnc, hcm, fun i hi => ⟨g, 0, rfl, ?_⟩⟩
    have hc := World.ownsRow.cells h0 (g := g) (by rw [e]; rfl)
    intro j u hu
    have hj : j < 16 := by have := (List.getElem?_eq_some_iff.1 hu).1; simpa [insA] using this
    have := hc (i * 16 + j) u (by rw [icells_get L i hi j hj]; exact hu)
    rw [Addr.add_lit] at this
    rw [Nat.add_assoc]
    exact this
theorem OI.nil (w : World) (base : Nat) : OI w base (.slice none 0 0) [] := World.ownsRow_nil _ _ _ _
theorem OI.ext (h : OI w base v L) (hx : Ext w w') : OI w' base v L := by
  refine World.ownsRow.kept h (extG hx none) ?_
  cases v.ownBlock <;> simp
theorem OI.kept9 {r : Nat} (h : OI w base v L) (hg : w.grownBy w' (some r)) (hne : v.ownBlock ≠ some r) : OI w' base v L := by
  refine World.ownsRow.kept h hg ?_
  cases hv : v.ownBlock with
  | none => exact .inl rfl
  | some b => exact .inr (fun e => hne (by rw [hv, e]))
theorem OI.lt (h : OI w base v L) : ∀ g, v.ownBlock = some g → base ≤ g ∧ g < w.heap.size := World.ownsRow.lt h
theorem OI.low {b2 : Nat} (h : OI w base v L) (hb : b2 ≤ base) : OI w b2 v L := by
  refine ⟨h.1, ?_⟩
  rcases h.2 with hn | ⟨g, cap, cur, e, h1, r⟩
  · exact .inl hn
  · exact .inr ⟨g, cap, cur, e, by omega, r⟩
theorem OI.shape (h : OI w base v L) : ∃ ao cap, v = .slice ao L.length cap ∧ (ao = none → cap = 0) ∧ L.length ≤ cap ∧ cap ≤ maxLen := by
  obtain ⟨ao, cap, e, h1, h2, h3, _⟩ := h.ir
  exact ⟨ao, cap, e, h1, h2, h3⟩
theorem OI.neB {G : Nat} {t : TypeId} {cs : Array Value} (h : OI w base v L) (hB : Blk w G cs t) (hne : t ≠ 39) : v.ownBlock ≠ some G := by
  intro hv
  rcases h.2 with ⟨rfl, _⟩ | ⟨g, cap, cur, rfl, _, hg, _⟩
  · cases hv
  · cases hv
    rw [show w.heap[g]? = some (.cells cs t (0, 0)) from hB] at hg
    cases hg
    exact hne rfl
theorem OI.cells (h : OI w base v L) : ∀ (j : Nat) (o : Obj), v.ownBlock = some j → w.heap[j]? = some o → o.isCells = true := by
  intro j o hj ho
  rcases h.2 with ⟨rfl, _⟩ | ⟨g, cap, cur, rfl, _, hg, _⟩
  · cases hj
  · cases hj
    rw [hg] at ho
    cases ho
    rfl
theorem OI.keptC {row : Option Nat} (h : OI w base v L) (hg : w.grownBy w' row) (hr : ∀ r, row = some r → ∃ o : Obj, w.heap[r]? = some o ∧ o.isCells = false) : OI w' base v L := by
  refine World.ownsRow.kept h hg ?_
  rcases h.2 with ⟨rfl, _⟩ | ⟨g, cap, cur, rfl, _, hgg, _⟩
  · exact .inl rfl
  · refine .inr (fun e => ?_)
    obtain ⟨o, ho, hc⟩ := hr g e.symm
    rw [hgg] at ho
    cases ho
    cases hc
end
theorem infoI : (Try.prog.info? 39).map (fun i => (i.zero, i.size, i.bytes)) = some (some (.agg (insA zI)), 16, 112) := by kernel_rfl
theorem info_all {P : Program} {t : TypeId} {z : Value} {n b : Nat} (h : (P.info? t).map (fun i => (i.zero, i.size, i.bytes)) = some (some z, n, b)) : ∃ i, P.info? t = some i ∧ i.zero = some z ∧ i.size = n ∧ i.bytes = b := by
  cases hi : P.info? t with
  | none => rw [hi] at h; cases h
  | some i =>
    rw [hi] at h
    simp only [Option.map_some, Option.some.injEq, Prod.mk.injEq] at h
    exact ⟨i, rfl, h.1, h.2.1, h.2.2⟩

section
variable {F : Fence} {n : Nat} {P : Program} {w : World} {ops : Array Oper} {rest : List Oper} {o : Oper} {a : Act} {Q : Exit → Act → World → Prop}
theorem wpListIn_load_rowC (hgd : o.guard = none) (ty : TypeId) (x : Operand) (ho : o.op = .load ty x)
    (g : Nat) (hx : a.eval x = .pointer (some ⟨g, 0, none⟩)) (t : TypeId) (cs : Array Value) (fr : Nat × Nat) (d : TypeDesc) (hg : w.heap[g]? = some (.cells cs t fr))
    (hu : P.underlying ty = some d) (hd : (match d with | .struct _ | .array _ _ => true | _ => false) = true) (hi : (P.info? ty).map (·.size) = some cs.size)
    (h : wpListIn F n P ops Q rest (a.put o.dst (.agg cs)) w) : wpListIn F n P ops Q (o :: rest) a w := by
  refine wpListIn_plain hgd fun K hK => ?_
  unfold Oper.wpIn
  refine ⟨by simp [Oper.about, ho], ?_⟩
  rw [Oper.semAt_plain F _ _ (by rw [ho]; intro c hc'; cases hc')]
  unfold execOp
  simp only [ho, hx, Instr.loadAt, Instr.sureAddr, Sem.run_bind, Sem.run_pure, Result.andThen_ok, run_loadVar_row w g t ty cs fr d hg hu hd hi]
  exact hK _ _ h
theorem wpListIn_storeLastC (hgd : o.guard = none) (ty : TypeId) (x y : Operand) (ho : o.op = .store ty x y) (old : Array Value) (g : Nat) (hgg : w.heap.size = g) (hx : a.eval x = .pointer (some ⟨g, 0, none⟩)) (cells : Array Value) (hy : a.eval y = .agg cells)
    (m : Nat) (hi : (P.info? ty).map (·.size) = some m) (hn : cells.size = m) (hold : old.size = m) (h1 : cells.all (·.oneCell') = true) (h : wpListIn F n P ops Q rest (a.put o.dst undef) (w.alloc (.cells cells ty))) :
    wpListIn F n P ops Q (o :: rest) a (w.alloc (.cells old ty)) := by
  subst hgg
  refine wpListIn_plain hgd fun K hK => ?_
  unfold Oper.wpIn
  refine ⟨by simp [Oper.about, ho], ?_⟩
  rw [Oper.semAt_plain F _ _ (by rw [ho]; intro c hc'; cases hc')]
  unfold execOp
  simp only [ho, hx, hy, Instr.storeAt, Instr.sureAddr, Sem.run_bind, Sem.run_pure, Result.andThen_ok, run_storeVar_row (w.alloc (.cells old ty)) w.heap.size ty ty old cells (heap_alloc_last w _) (by rw [hi, hn]) (by omega) h1]
  rw [World.setRow_alloc_new]
  exact hK _ _ h
theorem wpListIn_buildSliceC (hgd : o.guard = none) (t e : TypeId) (len : Nat) (parts : Array (Nat × Operand)) (ho : o.op = .buildSlice t len parts)
    (cells : Array Value) (ie : TypeInfo) (z : Value) (hu : P.underlying t = some (.slice e)) (hie : P.info? e = some ie) (hz : ie.zero = some z) (hsmall : ¬ len * ie.size > 2 ^ 24) (hpos : ¬ len * ie.size = 0)
    (hf : Instr.fill (fun i => some (i * ie.size, ie.size)) ((Array.range (len * ie.size)).map (z.cells[· % z.cells.size]!)) (parts.map fun (i, x) => (i, a.eval x)).toList = some cells)
    (h : wpListIn F n P ops Q rest (a.put o.dst (.slice (some ⟨w.heap.size, 0, none⟩) len len)) (w.alloc (.cells cells e))) : wpListIn F n P ops Q (o :: rest) a w := by
  refine wpListIn_plain hgd fun K hK => ?_
  unfold Oper.wpIn
  refine ⟨by simp [Oper.about, ho], ?_⟩
  rw [Oper.semAt_plain F _ _ (by rw [ho]; intro c hc'; cases hc')]
  unfold execOp
  simp only [ho, Sem.run_bind, run_buildSlice w t e len _ cells ie z hu hie hz hsmall hpos hf, Result.andThen_ok]
  exact hK _ _ h
end
end Go.Proofs.Ytfoffnbkfnbglaa
