/-
  Levels in memory: rows of levels that are read, rows of the call's own.
-/
import Derived.Test.YtpjapdifmfpcnaaIA
import Derived.Test.YtpjapdifmfpcnaaPC
import Derived.Test.YtpjapdifmfpcnaaW1
import Derived.Maps.AppendAt
import Derived.Laws.CopyOwn
namespace Go.Proofs.Ytpjapdifmfpcnaa
open Go.RowKit

/-- A level in memory: its sides, its bytes as a value and as numbers. -/
abbrev Ent := Int × Int × Value × List Int
def absE (p : Ent) : Lev := (p.1, p.2.1, p.2.2.2)
def absL (L : List Ent) : List Lev := L.map absE
def ecells (p : Ent) : List Value := [.int .i64 p.1, .int .i64 p.2.1, p.2.2.1]
def lcells (L : List Ent) : List Value := L.flatMap ecells
theorem absL_len (L : List Ent) : (absL L).length = L.length := by simp [absL]
theorem absL_append (A B : List Ent) : absL (A ++ B) = absL A ++ absL B := by simp [absL]
theorem absL_get (L : List Ent) (i : Nat) (h : i < L.length) : (absL L)[i]'(by rw [absL_len]; exact h) = absE L[i] := by simp [absL]
theorem absL_getD (L : List Ent) (i : Nat) (h : i < L.length) : (absL L).getD i noLev = absE L[i] := by simp [absL, h]
theorem lcells_len (L : List Ent) : (lcells L).length = L.length * 3 := by
  induction L with
  | nil => rfl
  | cons x r ih =>
    unfold lcells at ih ⊢
    rw [List.flatMap_cons, List.length_append, ih]
    simp [ecells]
    omega
theorem lcells_append (A B : List Ent) : lcells (A ++ B) = lcells A ++ lcells B := by
  unfold lcells
  rw [List.flatMap_append]
theorem lcells_one (x : Ent) : lcells [x] = ecells x := by simp [lcells]
theorem lcells_get : ∀ (L : List Ent) (i : Nat) (h : i < L.length), (lcells L)[i * 3]? = some (.int .i64 L[i].1) ∧ (lcells L)[i * 3 + 1]? = some (.int .i64 L[i].2.1) ∧ (lcells L)[i * 3 + 2]? = some L[i].2.2.1
  | x :: r, 0, _ => ⟨rfl, rfl, rfl⟩
  | x :: r, i + 1, h => by
    have ih := lcells_get r i (by simpa using h)
    have e : lcells (x :: r) = ecells x ++ lcells r := rfl
    have el : (ecells x).length = 3 := rfl
    rw [e, List.getElem?_append_right (by omega), List.getElem?_append_right (by omega), List.getElem?_append_right (by omega), el]
    simp only [List.getElem_cons_succ]
    rw [show (i + 1) * 3 - 3 = i * 3 by omega, show (i + 1) * 3 + 1 - 3 = i * 3 + 1 by omega, show (i + 1) * 3 + 2 - 3 = i * 3 + 2 by omega]
    exact ih
/-- The bytes' cell of one level is set. -/
theorem lcells_set (A B : List Ent) (x : Ent) (v : Value) (ys : List Int) : (lcells (A ++ x :: B)).set (A.length * 3 + 2) v = lcells (A ++ (x.1, x.2.1, v, ys) :: B) := by
  rw [lcells_append, lcells_append, List.set_append_right _ _ (by rw [lcells_len]; omega), lcells_len, Nat.add_sub_cancel_left]
  rfl
theorem lcells_set3 (A B : List Ent) (x y : Ent) : (((lcells (A ++ x :: B)).set (A.length * 3) (.int .i64 y.1)).set (A.length * 3 + 1) (.int .i64 y.2.1)).set (A.length * 3 + 2) y.2.2.1 = lcells (A ++ y :: B) := by
  rw [lcells_append, lcells_append]
  have hl := lcells_len A
  rw [List.set_append_right _ _ (by omega), List.set_append_right _ _ (by omega), List.set_append_right _ _ (by omega), hl, Nat.add_sub_cancel_left, Nat.add_sub_cancel_left, Nat.sub_self]
  rfl
theorem lcells_setW (A B : List Ent) (x : Ent) (n : Int) : (lcells (A ++ x :: B)).set (A.length * 3) (.int .i64 n) = lcells (A ++ (n, x.2.1, x.2.2.1, x.2.2.2) :: B) := by
  rw [lcells_append, lcells_append, List.set_append_right _ _ (by rw [lcells_len]; omega), lcells_len, Nat.sub_self]
  rfl

/-- The slice value v holds the levels L in the world w. -/
structure LR (w : World) (v : Value) (L : List Ent) : Prop where
  shape : ∃ ao cap, v = .slice ao L.length cap ∧ (ao = none → cap = 0) ∧ L.length ≤ cap ∧ cap ≤ maxLen ∧ ∀ i (h : i < L.length), ∃ b off, ao = some ⟨b, off, none⟩ ∧
    w.cell? ⟨b, off + i * 3, none⟩ = some (.int .i64 L[i].1) ∧ w.cell? ⟨b, off + i * 3 + 1, none⟩ = some (.int .i64 L[i].2.1) ∧ w.cell? ⟨b, off + i * 3 + 2, none⟩ = some L[i].2.2.1
  row : ∀ p ∈ L, Row .u8 w p.2.2.1 p.2.2.2
theorem LR.ext {w w' : World} {v : Value} {L : List Ent} (h : LR w v L) (hx : Ext w w') : LR w' v L := by
  obtain ⟨ao, cap, e, h1, h2, h3, h4⟩ := h.shape
  refine ⟨⟨ao, cap, e, h1, h2, h3, fun i hi => ?_⟩, fun p hp => (h.row p hp).ext hx⟩
  obtain ⟨b, off, e2, c0, c1, c2⟩ := h4 i hi
  have hc : ∀ j u, w.cell? ⟨b, j, none⟩ = some u → w'.cell? ⟨b, j, none⟩ = some u := fun j u hu => by
    rw [hx.cell (p := ⟨b, j, none⟩) (World.block_lt_of_cell? w _ hu)]
    exact hu
  exact ⟨b, off, e2, hc _ _ c0, hc _ _ c1, hc _ _ c2⟩
theorem LR.nil (w : World) : LR w (.slice none 0 0) [] := ⟨⟨none, 0, rfl, fun _ => rfl, Nat.le_refl _, Nat.zero_le _, fun i hi => by simp at hi⟩, by simp⟩
/-- Level i: its cells, its bytes' value written out. -/
theorem LR.at {w : World} {ao : Option Addr} {n cap : Nat} {L : List Ent} (h : LR w (.slice ao n cap) L) (i : Nat) (hi : i < L.length) : ∃ b off bo bcap, ao = some ⟨b, off, none⟩ ∧ L[i].2.2.1 = .slice bo L[i].2.2.2.length bcap ∧
    w.cell? ⟨b, off + i * 3, none⟩ = some (.int .i64 L[i].1) ∧ w.cell? ⟨b, off + i * 3 + 1, none⟩ = some (.int .i64 L[i].2.1) ∧ w.cell? ⟨b, off + i * 3 + 2, none⟩ = some (.slice bo L[i].2.2.2.length bcap) ∧ Row .u8 w (.slice bo L[i].2.2.2.length bcap) L[i].2.2.2 := by
  obtain ⟨ao', cap', e, _, _, _, h4⟩ := h.shape
  cases e
  obtain ⟨b, off, e2, c0, c1, c2⟩ := h4 i hi
  have hr := h.row _ (List.getElem_mem hi)
  obtain ⟨bo, bcap, eb, _⟩ := hr.shape
  rw [eb] at c2 hr
  exact ⟨b, off, bo, bcap, e2, eb, c0, c1, c2, hr⟩
theorem LR.len {w : World} {ao : Option Addr} {n cap : Nat} {L : List Ent} (h : LR w (.slice ao n cap) L) : n = L.length := by
  obtain ⟨ao', cap', e, _⟩ := h.shape
  cases e
  rfl
/-- The first levels alone. -/
theorem LR.take {w : World} {ao : Option Addr} {n cap : Nat} {L : List Ent} (h : LR w (.slice ao n cap) L) (m : Nat) (hm : m ≤ L.length) : LR w (.slice ao m cap) (L.take m) := by
  obtain ⟨ao', cap', e, h1, h2, h3, h4⟩ := h.shape
  cases e
  have hl : (L.take m).length = m := by simp; omega
  refine ⟨⟨ao, cap, by rw [hl], h1, by rw [hl]; omega, h3, fun i hi => ?_⟩, fun p hp => h.row p (List.mem_of_mem_take hp)⟩
  rw [hl] at hi
  have := h4 i (by omega)
  simpa using this

/-- The slice value v is the call's own and holds the levels L, each with bytes of its own. -/
structure LO (w : World) (base : Nat) (v : Value) (L : List Ent) : Prop where
  own : w.ownsRow base 48 3 v L.length (lcells L)
  bys : ∀ p ∈ L, Own .u8 w base 5 p.2.2.1 p.2.2.2
  alone : L.Pairwise fun p q => ∀ b, p.2.2.1.ownBlock = some b → q.2.2.1.ownBlock ≠ some b

theorem row_lr {w : World} {base : Nat} {v : Value} {L : List Ent} (h : w.ownsRow base 48 3 v L.length (lcells L)) (hr : ∀ p ∈ L, Row .u8 w p.2.2.1 p.2.2.2) : LR w v L := by
  refine ⟨?_, hr⟩
  rcases h.2 with ⟨e, h0⟩ | ⟨g, cap, cur, e, hb, hg, hnc, hcm, hcs, htake⟩
  · refine ⟨none, 0, by rw [h0]; exact e, fun _ => rfl, by omega, Nat.zero_le _, fun i hi => by omega⟩
  · refine ⟨_, cap, e, (fun h => by cases h), hnc, hcm, fun i hi => ⟨g, 0, rfl, ?_⟩⟩
    have hc := World.ownsRow.cells h (g := g) (by rw [e]; rfl)
    obtain ⟨e0, e1, e2⟩ := lcells_get L i hi
    have c0 := hc _ _ e0
    have c1 := hc _ _ e1
    have c2 := hc _ _ e2
    rw [Addr.add_lit] at c0 c1 c2
    simp only [Nat.zero_add] at c0 c1 c2 ⊢
    exact ⟨c0, c1, c2⟩
section
variable {w w' : World} {base : Nat} {v : Value} {L : List Ent}
theorem LO.lr (h : LO w base v L) : LR w v L := row_lr h.own fun p hp => (h.bys p hp).row
theorem LO.nil (w : World) (base : Nat) : LO w base (.slice none 0 0) [] := ⟨World.ownsRow_nil _ _ _ _, by simp, by simp⟩
theorem ext_grown {w w' : World} (hx : Ext w w') (r : Option Nat) : w.grownBy w' r := ⟨hx.os, hx.tape, hx.output, hx.size, fun i hi _ => hx.block i hi⟩
theorem LO.ext (h : LO w base v L) (hx : Ext w w') : LO w' base v L := by
  refine ⟨World.ownsRow.kept h.own (ext_grown hx none) ?_, fun p hp => (h.bys p hp).kept hx, h.alone⟩
  cases v.ownBlock <;> simp
theorem row_lower {b2 : Nat} {e : TypeId} {size n : Nat} {xs : List Value} (h : w.ownsRow base e size v n xs) (hb : b2 ≤ base) : w.ownsRow b2 e size v n xs := by
  refine ⟨h.1, ?_⟩
  rcases h.2 with hn | ⟨g, cap, cur, e, h1, r⟩
  · exact .inl hn
  · exact .inr ⟨g, cap, cur, e, by omega, r⟩
theorem Own.lower {b2 : Nat} {xs : List Int} {e : TypeId} {k : IntKind} (h : Own k w base e v xs) (hb : b2 ≤ base) : Own k w b2 e v xs := row_lower h hb
theorem Own.grown {r : Nat} {xs : List Int} {e : TypeId} {k : IntKind} (h : Own k w base e v xs) (hg : w.grownBy w' (some r)) (hne : ∀ b, v.ownBlock = some b → b ≠ r) : Own k w' base e v xs := by
  refine World.ownsRow.kept h hg ?_
  cases hv : v.ownBlock with
  | none => exact .inl rfl
  | some b => exact .inr (fun e => hne b hv (by cases e; rfl))
theorem LO.lower {b2 : Nat} (h : LO w base v L) (hb : b2 ≤ base) : LO w b2 v L := ⟨row_lower h.own hb, fun p hp => (h.bys p hp).lower hb, h.alone⟩
/-- Bytes do not lie in a block of levels. -/
theorem own_ne {g : Nat} {cur : Array Value} {u : Value} {xs : List Int} (hg : w.heap[g]? = some (.cells cur 48 (0, 0))) (h : Own .u8 w base 5 u xs) : ∀ b, u.ownBlock = some b → b ≠ g := by
  intro b hb e
  subst e
  rcases h.2 with ⟨e, _⟩ | ⟨g2, cap, cur2, e, _, hg2, _⟩
  · rw [e] at hb
    cases hb
  · rw [e] at hb
    cases hb
    rw [hg] at hg2
    simp at hg2
theorem LO.cut (h : LO w base v L) : ∃ ao cap, v = .slice ao L.length cap ∧ (ao = none → cap = 0) ∧ L.length ≤ cap ∧ cap ≤ maxLen := by
  obtain ⟨ao, cap, e, h1, h2, h3, _⟩ := h.lr.shape
  exact ⟨ao, cap, e, h1, h2, h3⟩
/-- Where there is a level its block is known. -/
theorem LO.blk {ao : Option Addr} {n cap : Nat} (h : LO w base (.slice ao n cap) L) (hn : 0 < L.length) : ∃ g cur, ao = some ⟨g, 0, none⟩ ∧ n = L.length ∧ base ≤ g ∧ w.heap[g]? = some (.cells cur 48 (0, 0)) := by
  rcases h.own.2 with ⟨_, h0⟩ | ⟨g, c, cur, e, hb, hg, _⟩
  · omega
  · cases e
    exact ⟨g, cur, rfl, rfl, hb, hg⟩
end
theorem infoL : (Try.prog.info? 48).map (fun i => (i.zero, i.size, i.bytes)) = some (some (.agg #[.int .i64 0, .int .i64 0, .slice none 0 0]), 3, 40) := by kernel_rfl
theorem sizeL : (Try.prog.info? 48).map (·.size) = some 3 := by kernel_rfl
theorem sizeI : (Try.prog.info? 24).map (·.size) = some 6 := by kernel_rfl
theorem ecells_one {x : Ent} {ao : Option Addr} {n cap : Nat} (hx : x.2.2.1 = .slice ao n cap) : ∀ u ∈ ecells x, u.oneCell' = true := by
  intro u hu
  simp [ecells] at hu
  rcases hu with rfl | rfl | rfl
  · rfl
  · rfl
  · rw [hx]; rfl

/-- 'append(levels, x)', the levels' row the call's own, the block of x laid last. -/
theorem wpList_append_lev {w : World} {ops : Array Oper} {rest : List Oper} {o : Oper} {a : Act} {Q : Exit → Act → World → Prop} (hgd : o.guard = none) (s x : Operand)
    (ho : o.op = .call { callee := .builtin .append, args := #[s, x], argTypes := #[22, 22] }) (base : Nat) (v : Value) (L : List Ent) (y : Ent) (hs : a.eval s = v)
    (hown : w.ownsRow base 48 3 v L.length (lcells L)) (g c : Nat) (hx : a.eval x = .slice (some ⟨g, 0, none⟩) 1 c) (t : TypeId) (hB : Blk w g #[.int .i64 y.1, .int .i64 y.2.1, y.2.2.1] t) {yo : Option Addr} {yn ycap : Nat} (hy : y.2.2.1 = .slice yo yn ycap)
    (hL : L.length ≤ 3518437208780) (hbase : base ≤ w.heap.size)
    (h : ∀ ao cap w', w'.ownsRow base 48 3 (.slice ao (L.length + 1) cap) (L ++ [y]).length (lcells (L ++ [y])) → w.grownBy w' v.ownBlock → wpList Try.prog ops Q rest (a.put o.dst (.slice ao (L.length + 1) cap)) w') :
    wpList Try.prog ops Q (o :: rest) a w := by
  obtain ⟨i0, hi, hz0, hz1, hz2⟩ := info_parts infoL
  refine wpList_append_own w hgd s x 22 ho base 48 i0 _ 3 40 Try.underlying22 hi hz0 hz1 hz2 rfl (by decide) v L.length (lcells L) hs hown ⟨g, 0, none⟩ 1 c (ecells y) hx rfl ?_ (ecells_one hy) (by unfold maxLen; omega) (by omega) hbase ?_
  · intro j u hu
    rw [Addr.add_lit, Nat.zero_add]
    exact hB.cell (by simpa [ecells] using hu)
  · intro v' w' h1 h2 _
    rw [← lcells_one y, ← lcells_append] at h1
    have hl : (L ++ [y]).length = L.length + 1 := by simp
    have hsh : ∃ ao cap, v' = .slice ao (L.length + 1) cap := by
      rcases h1.2 with ⟨_, h0⟩ | ⟨g2, c2, cur, e, _⟩
      · omega
      · exact ⟨_, _, e⟩
    obtain ⟨ao, cap, rfl⟩ := hsh
    exact h ao cap w' (by rw [hl]; exact h1) h2
end Go.Proofs.Ytpjapdifmfpcnaa
