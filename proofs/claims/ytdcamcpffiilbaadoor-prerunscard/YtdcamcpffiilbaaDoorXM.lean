/-
  Rows of tokens in memory: such as are read, such as are the call's own.
-/
import Derived.Test.YtdcamcpffiilbaaDoorXE
import Derived.Maps.AppendAt
import Derived.Laws.CopyOwn
namespace Go.Proofs.YtdcamcpffiilbaaDoor
open Go.RowKit

def tcell (t : Tok) : List Value := [.int .i64 t.kind, .string ⟨t.text.toArray⟩, .int .i32 t.num, .int .i64 t.place, .int .i64 t.line]
def tcells (L : List Tok) : List Value := L.flatMap tcell
theorem tcells_len (L : List Tok) : (tcells L).length = L.length * 5 := by
  induction L with
  | nil => rfl
  | cons x r ih =>
    unfold tcells at ih ⊢
    rw [List.flatMap_cons, List.length_append, ih]
    simp [tcell]
    omega
theorem tcells_append (A B : List Tok) : tcells (A ++ B) = tcells A ++ tcells B := by
  unfold tcells
  rw [List.flatMap_append]
theorem tcells_one (x : Tok) : tcells [x] = tcell x := by simp [tcells]
theorem tcells_get : ∀ (L : List Tok) (i : Nat) (h : i < L.length) (j : Nat), j < 5 → (tcells L)[i * 5 + j]? = (tcell L[i])[j]?
  | x :: r, 0, _, j, hj => by
    have e : tcells (x :: r) = tcell x ++ tcells r := rfl
    rw [e, List.getElem?_append_left (by simp [tcell]; omega)]
    simp
  | x :: r, i + 1, h, j, hj => by
    have ih := tcells_get r i (by simpa using h) j hj
    have e : tcells (x :: r) = tcell x ++ tcells r := rfl
    have el : (tcell x).length = 5 := rfl
    rw [e, List.getElem?_append_right (by omega), el, show (i + 1) * 5 + j - 5 = i * 5 + j by omega]
    simpa using ih

/-- The cells of a token at a place in memory. -/
structure TokAt (w : World) (b off : Nat) (t : Tok) : Prop where
  kind : w.cell? ⟨b, off, none⟩ = some (.int .i64 t.kind)
  text : w.cell? ⟨b, off + 1, none⟩ = some (.string ⟨t.text.toArray⟩)
  num : w.cell? ⟨b, off + 2, none⟩ = some (.int .i32 t.num)
  place : w.cell? ⟨b, off + 3, none⟩ = some (.int .i64 t.place)
  line : w.cell? ⟨b, off + 4, none⟩ = some (.int .i64 t.line)
theorem TokAt.ext {w w' : World} {b off : Nat} {t : Tok} (h : TokAt w b off t) (hx : Ext w w') : TokAt w' b off t := by
  have hc : ∀ j u, w.cell? ⟨b, j, none⟩ = some u → w'.cell? ⟨b, j, none⟩ = some u := fun j u hu => by
    rw [hx.cell (p := ⟨b, j, none⟩) (World.block_lt_of_cell? w _ hu)]
    exact hu
  exact ⟨hc _ _ h.kind, hc _ _ h.text, hc _ _ h.num, hc _ _ h.place, hc _ _ h.line⟩

/-- The slice value v holds the tokens L in the world w. -/
def TR (w : World) (v : Value) (L : List Tok) : Prop := ∃ ao cap, v = .slice ao L.length cap ∧ (ao = none → cap = 0) ∧ L.length ≤ cap ∧ cap ≤ maxLen ∧ ∀ i (h : i < L.length), ∃ b off, ao = some ⟨b, off, none⟩ ∧ TokAt w b (off + i * 5) L[i]
theorem TR.ext {w w' : World} {v : Value} {L : List Tok} (h : TR w v L) (hx : Ext w w') : TR w' v L := by
  obtain ⟨ao, cap, e, h1, h2, h3, h4⟩ := h
  refine ⟨ao, cap, e, h1, h2, h3, fun i hi => ?_⟩
  obtain ⟨b, off, e2, c⟩ := h4 i hi
  exact ⟨b, off, e2, c.ext hx⟩
theorem TR.nil (w : World) : TR w (.slice none 0 0) [] := ⟨none, 0, rfl, fun _ => rfl, Nat.le_refl _, Nat.zero_le _, fun i hi => by simp at hi⟩
theorem TR.len {w : World} {ao : Option Addr} {n cap : Nat} {L : List Tok} (h : TR w (.slice ao n cap) L) : n = L.length := by
  obtain ⟨ao', cap', e, _⟩ := h
  cases e
  rfl
theorem TR.at {w : World} {ao : Option Addr} {n cap : Nat} {L : List Tok} (h : TR w (.slice ao n cap) L) (i : Nat) (hi : i < L.length) : ∃ b off, ao = some ⟨b, off, none⟩ ∧ TokAt w b (off + i * 5) L[i] := by
  obtain ⟨ao', cap', e, _, _, _, h4⟩ := h
  cases e
  exact h4 i hi

/-- The slice value v is the call's own and holds the tokens L. -/
def TO (w : World) (base : Nat) (v : Value) (L : List Tok) : Prop := w.ownsRow base 33 5 v L.length (tcells L)
section
variable {w w' : World} {base : Nat} {v : Value} {L : List Tok}
theorem TO.tr (h : TO w base v L) : TR w v L := by
  have h0 := h
  rcases h.2 with ⟨e, h0⟩ | ⟨g, cap, cur, e, hb, hg, hnc, hcm, hcs, htake⟩
  · refine ⟨none, 0, by rw [h0]; exact e, fun _ => rfl, by omega, Nat.zero_le _, fun i hi => by omega⟩
  · refine ⟨_, cap, e, (fun h => by cases h), hnc, hcm, fun i hi => ⟨g, 0, rfl, ?_⟩⟩
    have hc := World.ownsRow.cells h0 (g := g) (by rw [e]; rfl)
    have hj : ∀ j u, j < 5 → (tcell L[i])[j]? = some u → w.cell? ⟨g, 0 + i * 5 + j, none⟩ = some u := fun j u h5 hu => by
      have := hc (i * 5 + j) u (by rw [tcells_get L i hi j h5]; exact hu)
      rw [Addr.add_lit] at this
      rw [Nat.add_assoc]
      exact this
    exact ⟨hj 0 _ (by omega) rfl, hj 1 _ (by omega) rfl, hj 2 _ (by omega) rfl, hj 3 _ (by omega) rfl, hj 4 _ (by omega) rfl⟩
theorem TO.nil (w : World) (base : Nat) : TO w base (.slice none 0 0) [] := World.ownsRow_nil _ _ _ _
theorem extGrown (hx : Ext w w') (r : Option Nat) : w.grownBy w' r := ⟨hx.os, hx.tape, hx.output, hx.size, fun i hi _ => hx.block i hi⟩
theorem TO.ext (h : TO w base v L) (hx : Ext w w') : TO w' base v L := by
  refine World.ownsRow.kept h (extGrown hx none) ?_
  cases v.ownBlock <;> simp
theorem TO.grown {r : Nat} (h : TO w base v L) (hg : w.grownBy w' (some r)) (hr : r < base) : TO w' base v L := by
  refine World.ownsRow.kept h hg ?_
  cases hv : v.ownBlock with
  | none => exact .inl rfl
  | some b => exact .inr (fun e => by
      have := World.ownsRow.lt h b hv
      cases e
      omega)
theorem TO.lower {b2 : Nat} (h : TO w base v L) (hb : b2 ≤ base) : TO w b2 v L := by
  refine ⟨h.1, ?_⟩
  rcases h.2 with hn | ⟨g, cap, cur, e, h1, r⟩
  · exact .inl hn
  · exact .inr ⟨g, cap, cur, e, by omega, r⟩
theorem TO.shape (h : TO w base v L) : ∃ ao cap, v = .slice ao L.length cap ∧ (ao = none → cap = 0) ∧ L.length ≤ cap ∧ cap ≤ maxLen := by
  obtain ⟨ao, cap, e, h1, h2, h3, _⟩ := h.tr
  exact ⟨ao, cap, e, h1, h2, h3⟩
end
theorem infoT : (Tryd.prog.info? 33).map (fun i => (i.zero, i.size, i.bytes)) = some (some (.agg #[.int .i64 0, .string ⟨#[]⟩, .int .i32 0, .int .i64 0, .int .i64 0]), 5, 48) := by kernel_rfl
theorem tcell_ones (x : Tok) : ∀ u ∈ tcell x, u.oneCell' = true := by
  intro u hu
  simp [tcell] at hu
  rcases hu with rfl | rfl | rfl | rfl | rfl <;> rfl
theorem info_parts3 {P : Program} {t : TypeId} {z : Value} {n b : Nat} (h : (P.info? t).map (fun i => (i.zero, i.size, i.bytes)) = some (some z, n, b)) : ∃ i, P.info? t = some i ∧ i.zero = some z ∧ i.size = n ∧ i.bytes = b := by
  cases hi : P.info? t with
  | none => rw [hi] at h; cases h
  | some i =>
    rw [hi] at h
    simp only [Option.map_some, Option.some.injEq, Prod.mk.injEq] at h
    exact ⟨i, rfl, h.1, h.2.1, h.2.2⟩

/-- 'append(tokens, x)', the tokens' row the call's own, the block of x laid last. -/
theorem wpList_append_tok {w : World} {ops : Array Oper} {rest : List Oper} {o : Oper} {a : Act} {Q : Exit → Act → World → Prop} (hgd : o.guard = none) (s x : Operand)
    (ho : o.op = .call { callee := .builtin .append, args := #[s, x], argTypes := #[23, 23] }) (base : Nat) (v : Value) (L : List Tok) (y : Tok) (hs : a.eval s = v)
    (hown : TO w base v L) (g c : Nat) (hx : a.eval x = .slice (some ⟨g, 0, none⟩) 1 c) (t : TypeId) (hB : Blk w g (tcell y).toArray t)
    (hL : L.length ≤ 2000000000000) (hbase : base ≤ w.heap.size)
    (h : ∀ ao cap w', TO w' base (.slice ao (L.length + 1) cap) (L ++ [y]) → w.grownBy w' v.ownBlock → wpList Tryd.prog ops Q rest (a.put o.dst (.slice ao (L.length + 1) cap)) w') :
    wpList Tryd.prog ops Q (o :: rest) a w := by
  obtain ⟨i0, hi, hz0, hz1, hz2⟩ := info_parts3 infoT
  refine wpList_append_own w hgd s x 23 ho base 33 i0 _ 5 48 Tryd.underlying23 hi hz0 hz1 hz2 rfl (by decide) v L.length (tcells L) hs hown ⟨g, 0, none⟩ 1 c (tcell y) hx rfl ?_ (tcell_ones y) (by unfold maxLen; omega) (by omega) hbase ?_
  · intro j u hu
    rw [Addr.add_lit, Nat.zero_add]
    exact hB.cell (by simpa using hu)
  · intro v' w' h1 h2 _
    rw [← tcells_one y, ← tcells_append] at h1
    have hl : (L ++ [y]).length = L.length + 1 := by simp
    have hsh : ∃ ao cap, v' = .slice ao (L.length + 1) cap := by
      rcases h1.2 with ⟨_, h0⟩ | ⟨g2, c2, cur, e, _⟩
      · omega
      · exact ⟨_, _, e⟩
    obtain ⟨ao, cap, rfl⟩ := hsh
    exact h ao cap w' (by unfold TO; rw [hl]; exact h1) h2
end Go.Proofs.YtdcamcpffiilbaaDoor
