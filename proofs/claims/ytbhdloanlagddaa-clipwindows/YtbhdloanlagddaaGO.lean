/-
  Rows of whatever structs that are the call's own, by what their cells are. Nothing here speaks of the program.
-/
import Derived.Test.YtbhdloanlagddaaBlk
import Derived.Laws.OwnMore
import Derived.Maps.AppendAt
namespace Go.Proofs.Ytbhdloanlagddaa
open Go.RowKit
set_option linter.unusedVariables false
set_option linter.unusedSimpArgs false

/-- The slice value v is the call's own and holds what L's things are as cells. -/
def GO {α : Type} (enc : α → List Value) (e : TypeId) (size : Nat) (w : World) (base : Nat) (v : Value) (L : List α) : Prop := w.ownsRow base e size v L.length (L.flatMap enc)
section
variable {α : Type} {enc : α → List Value} {e : TypeId} {size : Nat} {w w' : World} {base : Nat} {v : Value} {L : List α}
theorem extGrownG (hx : Ext w w') (r : Option Nat) : w.grownBy w' r := ⟨hx.os, hx.tape, hx.output, hx.size, fun i hi _ => hx.block i hi⟩
theorem GO.ext (h : GO enc e size w base v L) (hx : Ext w w') : GO enc e size w' base v L := by
  refine World.ownsRow.kept h (extGrownG hx none) ?_
  cases v.ownBlock <;> simp
theorem GO.lt (h : GO enc e size w base v L) : ∀ g, v.ownBlock = some g → base ≤ g ∧ g < w.heap.size := World.ownsRow.lt h
theorem GO.keep {r : Nat} (h : GO enc e size w base v L) (hg : w.grownBy w' (some r)) (hr : ∀ b, v.ownBlock = some b → b ≠ r) : GO enc e size w' base v L := by
  refine World.ownsRow.kept h hg ?_
  cases hv : v.ownBlock with
  | none => exact .inl rfl
  | some b => exact .inr (fun e => hr b hv (by cases e; rfl))
theorem GO.lower {b2 : Nat} (h : GO enc e size w base v L) (hb : b2 ≤ base) : GO enc e size w b2 v L := by
  refine ⟨h.1, ?_⟩
  rcases h.2 with hn | ⟨g, cap, cur, e, h1, r⟩
  · exact .inl hn
  · exact .inr ⟨g, cap, cur, e, by omega, r⟩
theorem GO.shape (h : GO enc e size w base v L) : ∃ ao cap, v = .slice ao L.length cap ∧ (ao = none → cap = 0) ∧ L.length ≤ cap ∧ cap ≤ maxLen := by
  rcases h.2 with ⟨e, h0⟩ | ⟨g, cap, cur, e, hb, hg, hnc, hcm, hcs, htake⟩
  · exact ⟨none, 0, by rw [h0]; exact e, fun _ => rfl, by omega, Nat.zero_le _⟩
  · exact ⟨_, cap, e, (fun h => by cases h), hnc, hcm⟩
theorem GO.nil (w : World) (base : Nat) : GO enc e size w base (.slice none 0 0) ([] : List α) := World.ownsRow_nil _ _ _ _
theorem GO.one {g : Nat} {x : α} (hs : (enc x).length = size) (h : Blk w g (enc x).toArray e) (hb : base ≤ g) : GO enc e size w base (.slice (some ⟨g, 0, none⟩) 1 1) [x] := by
  refine ⟨by simp [hs], .inr ⟨g, 1, (enc x).toArray, rfl, hb, h, Nat.le_refl _, by unfold maxLen; decide, by simp [hs], by subst hs; simp⟩⟩
theorem flat_len (hs : ∀ x, (enc x).length = size) : ∀ (L : List α), (L.flatMap enc).length = L.length * size
  | [] => by simp
  | x :: r => by
    rw [List.flatMap_cons, List.length_append, flat_len hs r, hs, List.length_cons, Nat.succ_mul, Nat.add_comm]
theorem flat_get (hs : ∀ x, (enc x).length = size) : ∀ (L : List α) (i : Nat) (h : i < L.length) (j : Nat), j < size → (L.flatMap enc)[i * size + j]? = (enc L[i])[j]?
  | x :: r, 0, _, j, hj => by
    rw [List.flatMap_cons, List.getElem?_append_left (by rw [hs]; omega)]
    simp
  | x :: r, i + 1, h, j, hj => by
    have ih := flat_get hs r i (by simpa using h) j hj
    have e1 : (i + 1) * size + j - size = i * size + j := by rw [Nat.succ_mul]; omega
    rw [List.flatMap_cons, List.getElem?_append_right (by rw [hs, Nat.succ_mul]; omega), hs, e1]
    simpa using ih
theorem GO.at (hs : ∀ x, (enc x).length = size) {ao : Option Addr} {n cap : Nat} (h : GO enc e size w base (.slice ao n cap) L) (i : Nat) (hi : i < L.length) : ∃ g, ao = some ⟨g, 0, none⟩ ∧ base ≤ g ∧ g < w.heap.size ∧ ∀ j u, j < size → (enc L[i])[j]? = some u → w.cell? ⟨g, i * size + j, none⟩ = some u := by
  rcases id h.2 with ⟨h1, h0⟩ | ⟨g, c2, cur, e2, hb, hg, _⟩
  · omega
  · cases e2
    refine ⟨g, rfl, hb, (Array.getElem?_eq_some_iff.1 hg).1, fun j u hj hu => ?_⟩
    have := World.ownsRow.cells h (g := g) rfl (i * size + j) u (by rw [flat_get hs L i hi j hj]; exact hu)
    rw [Addr.add_lit, Nat.zero_add] at this
    exact this
end
theorem info_partsG {P : Program} {t : TypeId} {z : Value} {n b : Nat} (h : (P.info? t).map (fun i => (i.zero, i.size, i.bytes)) = some (some z, n, b)) : ∃ i, P.info? t = some i ∧ i.zero = some z ∧ i.size = n ∧ i.bytes = b := by
  cases hi : P.info? t with
  | none => rw [hi] at h; cases h
  | some i =>
    rw [hi] at h
    simp only [Option.map_some, Option.some.injEq, Prod.mk.injEq] at h
    exact ⟨i, rfl, h.1, h.2.1, h.2.2⟩
/-- 'append(row, x)', the row the call's own, the block of x laid last. -/
theorem wpList_append_G {P : Program} {α : Type} {enc : α → List Value} {e : TypeId} {size : Nat} {w : World} {ops : Array Oper} {rest : List Oper} {o : Oper} {a : Act} {Q : Exit → Act → World → Prop} {z : Value} {bytes : Nat} {t : TypeId}
    (hinfo : (P.info? e).map (fun i => (i.zero, i.size, i.bytes)) = some (some z, size, bytes)) (hu : P.underlying t = some (.slice e)) (hz : z.cells.size = size) (hp : 0 < size) (hb : bytes ≤ 100) (hgd : o.guard = none) (s x : Operand)
    (ho : o.op = .call { callee := .builtin .append, args := #[s, x], argTypes := #[t, t] }) (base : Nat) (v : Value) (L : List α) (y : α) (hs : a.eval s = v)
    (hown : GO enc e size w base v L) (g c : Nat) (hx : a.eval x = .slice (some ⟨g, 0, none⟩) 1 c) (t2 : TypeId) (hB : Blk w g (enc y).toArray t2) (hsz : (enc y).length = size) (hone : ∀ u ∈ enc y, u.oneCell' = true)
    (hL : L.length ≤ 1000000000000) (hbase : base ≤ w.heap.size)
    (h : ∀ ao cap N w', N = L ++ [y] → GO enc e size w' base (.slice ao N.length cap) N → w.grownBy w' v.ownBlock → (∀ b, (Value.slice ao N.length cap).ownBlock = some b → v.ownBlock = some b ∨ w.heap.size ≤ b) → wpList P ops Q rest (a.put o.dst (.slice ao N.length cap)) w') :
    wpList P ops Q (o :: rest) a w := by
  obtain ⟨i0, hi, hz0, hz1, hz2⟩ := info_partsG hinfo
  refine wpList_append_own_at w hgd s x t ho base e i0 _ size bytes hu hi hz0 hz1 hz2 hz hp v L.length (L.flatMap enc) hs hown ⟨g, 0, none⟩ 1 c (enc y) hx (by omega) ?_ hone (by unfold maxLen; omega) ?_ hbase ?_
  · intro j u hu
    rw [Addr.add_lit, Nat.zero_add]
    exact hB.cell (by simpa using hu)
  · have : (L.length + 1) * bytes ≤ (L.length + 1) * 100 := Nat.mul_le_mul_left _ hb
    omega
  · intro v' w' h1 h2 _ h4
    have h3 : GO enc e size w' base v' (L ++ [y]) := by
      unfold GO
      rw [List.flatMap_append, List.length_append]
      simpa using h1
    obtain ⟨ao, cap, rfl, _⟩ := h3.shape
    refine h ao cap _ w' rfl h3 h2 (fun b hb => ?_)
    rcases h4 with h4 | h4
    · exact .inl (h4 ▸ hb)
    · rw [h4] at hb
      cases hb
      exact .inr (Nat.le_refl _)
/-- The same as a run, for regions that draw. -/
theorem run_append_G {P : Program} {α : Type} {enc : α → List Value} {e : TypeId} {size : Nat} {w : World} {z : Value} {bytes : Nat} {t : TypeId} (ty : TypeId)
    (hinfo : (P.info? e).map (fun i => (i.zero, i.size, i.bytes)) = some (some z, size, bytes)) (hu : P.underlying t = some (.slice e)) (hz : z.cells.size = size) (hp : 0 < size) (hb : bytes ≤ 100)
    (base : Nat) (v : Value) (L : List α) (y : α) (hown : GO enc e size w base v L) (g c : Nat) (t2 : TypeId) (hB : Blk w g (enc y).toArray t2) (hsz : (enc y).length = size) (hone : ∀ u ∈ enc y, u.oneCell' = true)
    (hL : L.length ≤ 1000000000000) (hbase : base ≤ w.heap.size) :
    ∃ ao cap N w', N = L ++ [y] ∧ (Builtin.append_ #[t, t] ty #[v, .slice (some ⟨g, 0, none⟩) 1 c]).run P w = .ok (.slice ao N.length cap) w' ∧ GO enc e size w' base (.slice ao N.length cap) N ∧ w.grownBy w' v.ownBlock ∧ (∀ b, (Value.slice ao N.length cap).ownBlock = some b → v.ownBlock = some b ∨ w.heap.size ≤ b) := by
  obtain ⟨i0, hi, hz0, hz1, hz2⟩ := info_partsG hinfo
  obtain ⟨v', w', hr, h1, h2, _, h4⟩ := run_append_own_at (P := P) w base t ty e i0 _ size bytes hu hi hz0 hz1 hz2 hz hp v L.length (L.flatMap enc) hown ⟨g, 0, none⟩ 1 c (enc y) (by omega)
    (by
      intro j u hu
      rw [Addr.add_lit, Nat.zero_add]
      exact hB.cell (by simpa using hu)) hone (by unfold maxLen; omega)
    (by
      have : (L.length + 1) * bytes ≤ (L.length + 1) * 100 := Nat.mul_le_mul_left _ hb
      omega) hbase
  have h3 : GO enc e size w' base v' (L ++ [y]) := by
    unfold GO
    rw [List.flatMap_append, List.length_append]
    simpa using h1
  obtain ⟨ao, cap, rfl, _⟩ := h3.shape
  refine ⟨ao, cap, _, w', rfl, hr, h3, h2, fun b hb => ?_⟩
  rcases h4 with h4 | h4
  · exact .inl (h4 ▸ hb)
  · rw [h4] at hb
    cases hb
    exact .inr (Nat.le_refl _)
end Go.Proofs.Ytbhdloanlagddaa
