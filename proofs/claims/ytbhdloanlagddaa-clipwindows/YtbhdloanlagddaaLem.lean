/-
  Plain facts on rows of numbers in memory, for the walks of this seat: what a slice of numbers holds, and that it stays so while other blocks turn. Nothing here speaks of the program.
-/
import Derived.WalkKit
import Derived.WalkSpells
import Derived.WalkLawsBesides
import Derived.Laws.AppendOwnNone
namespace Go.Proofs.Ytbhdloanlagddaa
open Go.RowKit

theorem hide {p : Prop} (h : p) : Hid p := h
theorem unhide {p : Prop} (h : Hid p) : p := h

/-- The slice value v holds the numbers xs (of kind k) in the world w. -/
def Row (k : IntKind) (w : World) (v : Value) (xs : List Int) : Prop :=
  (xs = [] ∧ ∃ ao cap, v = .slice ao 0 cap ∧ (ao = none → cap = 0) ∧ cap ≤ maxLen) ∨
  (xs ≠ [] ∧ ∃ b off cap, v = .slice (some ⟨b, off, none⟩) xs.length cap ∧ xs.length ≤ cap ∧ cap ≤ maxLen ∧ ∀ i, i < xs.length → w.cell? ⟨b, off + i, none⟩ = some (.int k (xs.getD i 0)))

theorem Row.nil (k : IntKind) (w : World) : Row k w (.slice none 0 0) [] := .inl ⟨rfl, none, 0, rfl, fun _ => rfl, Nat.zero_le _⟩

/-- The numbers are bytes. -/
def Byt (xs : List Int) : Prop := ∀ x ∈ xs, 0 ≤ x ∧ x ≤ 255
theorem Byt.cut {xs : List Int} (h : Byt xs) (p m : Nat) : Byt ((xs.drop p).take m) := fun x hx => h x (List.mem_of_mem_drop (List.mem_of_mem_take hx))
theorem Byt.get {xs : List Int} (h : Byt xs) (i : Nat) : 0 ≤ xs.getD i 0 ∧ xs.getD i 0 ≤ 255 := by
  by_cases hi : i < xs.length
  · have e : xs.getD i 0 = xs[i] := by simp [hi]
    rw [e]
    exact h _ (List.getElem_mem hi)
  · have e : xs.getD i 0 = 0 := by simp [List.getElem?_eq_none (Nat.le_of_not_lt hi)]
    rw [e]; omega
theorem Byt.append {xs ys : List Int} (h : Byt xs) (h2 : Byt ys) : Byt (xs ++ ys) := fun x hx => by
  rcases List.mem_append.1 hx with hx | hx
  · exact h x hx
  · exact h2 x hx

/-- What a row's cells are in w they are in every world whose blocks below w's size are w's. -/
theorem Row.below {k : IntKind} {w w' : World} {v : Value} {xs : List Int} (h : Row k w v xs) (hb : Below w.heap.size w w') : Row k w' v xs := by
  rcases h with h | ⟨hne, b, off, cap, rfl, hl, hm, hc⟩
  · exact .inl h
  · refine .inr ⟨hne, b, off, cap, rfl, hl, hm, fun i hi => ?_⟩
    rw [hb.cell (p := ⟨b, off + i, none⟩) (World.block_lt_of_cell? w _ (hc i hi))]
    exact hc i hi

/-- What is owned, as a row. -/
theorem Row.ofOwn {k : IntKind} {w : World} {base : Nat} {e : TypeId} {v : Value} {n : Nat} {xs : List Int} (h : w.ownsRow base e 1 v n (xs.map (Value.int k))) : Row k w v xs ∧ n = xs.length := by
  have hn : n = xs.length := by have := h.1; simp at this; omega
  subst hn
  refine ⟨?_, rfl⟩
  rcases h.2 with ⟨rfl, h0⟩ | ⟨g, cap, cur, rfl, hb, hg, hnc, hcm, hcs, htake⟩
  · have : xs = [] := List.eq_nil_of_length_eq_zero h0
    subst this
    exact Row.nil k w
  · by_cases hx : xs = []
    · subst hx
      exact .inl ⟨rfl, some ⟨g, 0, none⟩, cap, rfl, (fun h => by cases h), hcm⟩
    · refine .inr ⟨hx, g, 0, cap, rfl, hnc, hcm, fun i hi => ?_⟩
      have := h.cells (g := g) rfl i (.int k (xs.getD i 0)) (by simp [hi])
      simpa [Addr.add_lit] using this

/-- The cells of a row as the laws on append ask for them. -/
theorem Row.news {k : IntKind} {w : World} {b off : Nat} {xs : List Int} (hc : ∀ i, i < xs.length → w.cell? ⟨b, off + i, none⟩ = some (.int k (xs.getD i 0))) :
    ∀ j u, (xs.map (Value.int k))[j]? = some u → w.cell? ((⟨b, off, none⟩ : Addr).add j) = some u := by
  intro j u hu
  have hj : j < xs.length := by
    have := (List.getElem?_eq_some_iff.1 hu).1
    simpa using this
  rw [Addr.add_lit, hc j hj]
  simp [hj] at hu
  simp [hj, hu]

theorem grown_below {B : Nat} {w w' : World} {row : Option Nat} (hg : w.grownBy w' row) (hB : B ≤ w.heap.size) (hr : ∀ k, row = some k → B ≤ k) : Below B w w' :=
  (Below.refl B w).grown hg hB hr

theorem Row.shape {k : IntKind} {w : World} {v : Value} {xs : List Int} (h : Row k w v xs) : ∃ ao cap, v = .slice ao xs.length cap ∧ (ao = none → xs = [] ∧ cap = 0) ∧ xs.length ≤ cap ∧ cap ≤ maxLen := by
  rcases h with ⟨rfl, ao, cap, rfl, h0, hm⟩ | ⟨hne, b, off, cap, rfl, hl, hm, _⟩
  · exact ⟨ao, cap, rfl, fun h => ⟨rfl, h0 h⟩, Nat.zero_le _, hm⟩
  · exact ⟨_, cap, rfl, (fun h => by cases h), hl, hm⟩

/-- Where a row has an element its address is known, and its cells. -/
theorem Row.at {k : IntKind} {w : World} {ao : Option Addr} {n cap : Nat} {xs : List Int} (h : Row k w (.slice ao n cap) xs) (i : Nat) (hi : i < xs.length) : ∃ b off, ao = some ⟨b, off, none⟩ ∧ ∀ j (hj : j < xs.length), w.cell? ⟨b, off + j, none⟩ = some (.int k xs[j]) := by
  rcases h with ⟨rfl, _⟩ | ⟨hne, b, off, c, hv, hl, hm, hc⟩
  · simp at hi
  · cases hv
    refine ⟨b, off, rfl, fun j hj => ?_⟩
    rw [hc j hj]
    simp [hj]

/-- The slice value v is the call's own (its block lies from 'base' on) and holds the numbers xs. A name that the walk does not open. -/
def Own (k : IntKind) (w : World) (base : Nat) (e : TypeId) (v : Value) (xs : List Int) : Prop := w.ownsRow base e 1 v xs.length (xs.map (Value.int k))

section
variable {k : IntKind} {w : World} {base : Nat} {e : TypeId} {v : Value} {xs : List Int}
theorem Own.row (h : Own k w base e v xs) : Row k w v xs := (Row.ofOwn h).1
theorem Own.shape (h : Own k w base e v xs) : ∃ ao cap, v = .slice ao xs.length cap := by
  obtain ⟨ao, cap, h, _⟩ := h.row.shape
  exact ⟨ao, cap, h⟩
theorem Own.alloc (h : Own k w base e v xs) (o : Obj) : Own k (w.alloc o) base e v xs := World.ownsRow.alloc h o
theorem Own.lt (h : Own k w base e v xs) : ∀ g, v.ownBlock = some g → base ≤ g ∧ g < w.heap.size := World.ownsRow.lt h
theorem Own.nil (k : IntKind) (w : World) (base : Nat) (e : TypeId) : Own k w base e (.slice none 0 0) [] := World.ownsRow_nil _ _ _ _
theorem Own.made (w : World) (hb : base ≤ w.heap.size) : Own k (w.alloc (.cells #[] e)) base e (.slice (some ⟨w.heap.size, 0, none⟩) 0 0) [] := World.ownsRow_made w #[] 0 hb (Nat.zero_le _) rfl
theorem Own.made0 {n : Nat} (h : w.ownsRow base e 1 v 0 []) (_hn : n = 0) : Own k w base e v [] := h
theorem Own.kept {w' : World} (h : Own k w base e v xs) (hb : Below w.heap.size w w') : Own k w' base e v xs := by
  refine World.ownsRow.kept (row := none) h ⟨hb.os, hb.tape, hb.output, hb.size, fun i hi _ => hb.block i hi⟩ ?_
  cases v.ownBlock <;> simp
end

/-- 'append(out, xs...)', out the call's own, xs whatever row: nil, empty or not. -/
theorem wpList_append_Own {P : Program} {w : World} {ops : Array Oper} {rest : List Oper} {o : Oper} {a : Act} {Q : Exit → Act → World → Prop} (hgd : o.guard = none) (s x : Operand) (t : TypeId)
    (ho : o.op = .call { callee := .builtin .append, args := #[s, x], argTypes := #[t, t] })
    (base : Nat) (e : TypeId) (i : TypeInfo) (k : IntKind) (bytes : Nat) (ht : P.underlying t = some (.slice e)) (hi : P.info? e = some i) (hz : i.zero = some (.int k 0))
    (hsize : i.size = 1) (hby : i.bytes = bytes) (v : Value) (xs : List Int) (hs : a.eval s = v) (hown : Own k w base e v xs)
    (vx : Value) (ys : List Int) (hx : a.eval x = vx) (hrow : Row k w vx ys) (h63 : xs.length + ys.length ≤ maxLen) (hbytes : (xs.length + ys.length) * bytes ≤ 140737488355328) (hbase : base ≤ w.heap.size)
    (h : ∀ v' w', Own k w' base e v' (xs ++ ys) → w.grownBy w' v.ownBlock → wpList P ops Q rest (a.put o.dst v') w') : wpList P ops Q (o :: rest) a w := by
  have fin : ∀ v' w', w'.ownsRow base e 1 v' (xs.length + ys.length) (xs.map (Value.int k) ++ ys.map (Value.int k)) → Own k w' base e v' (xs ++ ys) := by
    intro v' w' h1
    unfold Own
    rw [List.length_append, List.map_append]
    exact h1
  rcases hrow with ⟨rfl, ao, cap, rfl, h0, hm⟩ | ⟨hne, b, off, cap, rfl, hl, hm, hc⟩
  · cases ao with
    | none =>
      obtain rfl := h0 rfl
      refine wpList_append_own_none hgd s x t ho base e i 1 ht hi v _ _ hs hown hx ?_
      exact h v w (by rw [List.append_nil]; exact hown) (World.grownBy.refl _ _)
    | some ad =>
      refine wpList_append_own w hgd s x t ho base e i (.int k 0) 1 bytes ht hi hz hsize hby rfl (by decide) v _ _ hs hown ad 0 cap [] hx rfl (by simp) (by simp) h63 hbytes hbase ?_
      intro v' w' h1 h2 _
      exact h v' w' (fin v' w' h1) h2
  · refine wpList_append_own w hgd s x t ho base e i (.int k 0) 1 bytes ht hi hz hsize hby rfl (by decide) v _ _ hs hown ⟨b, off, none⟩ ys.length cap (ys.map (Value.int k)) hx (by simp) (Row.news hc) (ints_oneCell _ _) h63 hbytes hbase ?_
    intro v' w' h1 h2 _
    exact h v' w' (fin v' w' h1) h2

/-- 'make([]T, 0, n)'. -/
theorem wpList_make_Own {P : Program} (w : World) {ops : Array Oper} {rest : List Oper} {o : Oper} {a : Act} {Q : Exit → Act → World → Prop}
    (hg : o.guard = none) (l c : Operand) (t : TypeId) (hop : o.op = Op.makeSlice t l c)
    (base : Nat) (e : TypeId) (i : TypeInfo) (z : Value) (k : IntKind) (h1 : P.underlying t = some (.slice e)) (h2 : P.info? e = some i) (h3 : i.zero = some z) (h4 : i.size = 1)
    (kl kc : IntKind) (C : Int) (n : Nat) (hl : a.eval l = .int kl 0) (hc : a.eval c = .int kc C) (hC : C = (n : Int)) (b2 : i.bytes * n ≤ 281474976710656) (b3 : n ≤ maxLen) (b4 : base ≤ w.heap.size)
    (hK : ∀ w', Own k w' base e (.slice (some ⟨w.heap.size, 0, none⟩) 0 n) [] → w.grownBy w' none → wpList P ops Q rest (a.put o.dst (.slice (some ⟨w.heap.size, 0, none⟩) 0 n)) w') :
    wpList P ops Q (o :: rest) a w :=
  wpList_make_own w hg l c t hop base e i z 1 h1 h2 h3 h4 kl kc C n hl hc hC b2 b3 b4 (fun w' h hg => hK w' h hg)

/-- 'make([]T, n)': n zeros. -/
theorem wpList_make_Zeros {P : Program} (w : World) {ops : Array Oper} {rest : List Oper} {o : Oper} {a : Act} {Q : Exit → Act → World → Prop}
    (hg : o.guard = none) (l c : Operand) (t : TypeId) (hop : o.op = Op.makeSlice t l c)
    (base : Nat) (e : TypeId) (i : TypeInfo) (k : IntKind) (h1 : P.underlying t = some (.slice e)) (h2 : P.info? e = some i) (h3 : i.zero = some (.int k 0)) (h4 : i.size = 1)
    (kl kc : IntKind) (L C : Int) (n : Nat) (hl : a.eval l = .int kl L) (hc : a.eval c = .int kc C) (hL : L = (n : Int)) (hC : C = (n : Int)) (b2 : i.bytes * n ≤ 281474976710656) (b3 : n ≤ maxLen) (b4 : base ≤ w.heap.size)
    (hK : ∀ w', Own k w' base e (.slice (some ⟨w.heap.size, 0, none⟩) n n) (List.replicate n 0) → w.grownBy w' none → wpList P ops Q rest (a.put o.dst (.slice (some ⟨w.heap.size, 0, none⟩) n n)) w') :
    wpList P ops Q (o :: rest) a w := by
  refine wpList_make_full w hg l c t hop base e i (.int k 0) 1 h1 h2 h3 h4 kl kc L C n hl hc hL hC b2 b3 b4 (fun w' h hg => hK w' ?_ hg)
  unfold Own
  rw [List.length_replicate, List.map_replicate]
  have e : (madeCells (Value.int k 0).cells (n * 1)).toList = List.replicate n (Value.int k 0) := by rw [Nat.mul_one]; exact toList_madeCells_one _ _
  rw [← e]
  exact h

section
variable {k : IntKind} {w : World} {base : Nat} {e : TypeId} {xs : List Int} {g n cap : Nat}
theorem Own.cellAt (h : Own k w base e (.slice (some ⟨g, 0, none⟩) n cap) xs) (j : Nat) (hj : j < xs.length) : w.cell? ⟨g, j, none⟩ = some (.int k xs[j]) := by
  have hn : n = xs.length := by obtain ⟨_, _, hv⟩ := h.shape; cases hv; rfl
  subst hn
  have h2 := World.ownsRow.cellAt h j (by omega)
  rw [h2]
  simp [hj]
theorem Own.frozenAt (h : Own k w base e (.slice (some ⟨g, 0, none⟩) n cap) xs) (j : Nat) : w.frozen? ⟨g, j, none⟩ = false := by
  have hn : n = xs.length := by obtain ⟨_, _, hv⟩ := h.shape; cases hv; rfl
  subst hn
  exact World.ownsRow.frozenAt h j
theorem Own.stored (h : Own k w base e (.slice (some ⟨g, 0, none⟩) n cap) xs) (j : Nat) (u : Int) : Own k (w.setCell ⟨g, j, none⟩ (.int k u)) base e (.slice (some ⟨g, 0, none⟩) n cap) (xs.set j u) := by
  have hn : n = xs.length := by obtain ⟨_, _, hv⟩ := h.shape; cases hv; rfl
  subst hn
  unfold Own
  rw [List.length_set, List.map_set]
  exact (World.ownsRow.stored h j _).1
end

/-- The block of one cell that 'append(out, c)' lays for c. -/
theorem Row.one (k : IntKind) (w : World) (c : Int) (e : TypeId) : Row k (w.alloc (.cells #[.int k c] e)) (.slice (some ⟨w.heap.size, 0, none⟩) 1 1) [c] := by
  refine .inr ⟨by simp, w.heap.size, 0, 1, rfl, by simp, by unfold maxLen; decide, fun i hi => ?_⟩
  have hi0 : i = 0 := by simp at hi; omega
  subst hi0
  simp

/-- Nothing that was there has turned. -/
def Ext (w w' : World) : Prop := Below w.heap.size w w'
theorem Ext.refl (w : World) : Ext w w := Below.refl _ _
theorem Ext.trans {a b c : World} (h : Ext a b) (k : Ext b c) : Ext a c := Below.trans h (k.mono h.size)
theorem Ext.alloc {a b : World} (h : Ext a b) (o : Obj) : Ext a (b.alloc o) := Below.alloc h h.size o
theorem Ext.drewN {a b : World} (h : Ext a b) (n : Nat) : Ext a (b.drewN n) := below_drewN h n
theorem Ext.drew {a b : World} (h : Ext a b) : Ext a b.drew := Below.drew h
theorem Row.ext {k : IntKind} {w w' : World} {v : Value} {xs : List Int} (h : Row k w v xs) (hb : Ext w w') : Row k w' v xs := h.below hb
end Go.Proofs.Ytbhdloanlagddaa
