/- Several texts in one. -/
import Derived.WalkKit
import Derived.WalkSpells
import Derived.WalkLawsBesides
import Derived.Laws.AppendOwnNone
import Derived.Test.YtglfhmlcmffoaaaGreatProg
import Derived.ProofKit
import Derived.OpenShut
import Derived.BigQuiet
import Derived.Deep.RegionHeld3
import Derived.Shelf.Abstract
import Derived.Laws.EntriesVeiled
/-
  Plain facts on rows of numbers in memory, for the walks of this seat: what a slice of numbers holds, and that it stays so while other blocks turn. Nothing here speaks of the program.
-/
namespace Go.Proofs.YtglfhmlcmffoaaaGreat
open Go.RowKit

theorem hide {p : Prop} (h : p) : Hid p := h
theorem unhide {p : Prop} (h : Hid p) : p := h

/-- The slice value v holds the numbers xs (of kind k) in the world w. -/
def Row (k : IntKind) (w : World) (v : Value) (xs : List Int) : Prop :=
  (xs = [] ∧ ∃ ao cap, v = .slice ao 0 cap ∧ (ao = none → cap = 0) ∧ cap ≤ maxLen) ∨
  (xs ≠ [] ∧ ∃ b off cap, v = .slice (some ⟨b, off, none⟩) xs.length cap ∧ xs.length ≤ cap ∧ cap ≤ maxLen ∧ ∀ i, i < xs.length → w.cell? ⟨b, off + i, none⟩ = some (.int k (xs.getD i 0)))

theorem Row.nil (k : IntKind) (w : World) : Row k w (.slice none 0 0) [] := .inl ⟨rfl, none, 0, rfl, fun _ => rfl, Nat.zero_le _⟩

/-- The numbers are bytes. -/
def Byt (xs : List Int) : Prop := ∀ x ∈ xs, 0 ≤ x ∧ x ≤ 255
theorem Byt.cut {xs : List Int} (h : Byt xs) (p m : Nat) : Byt ((xs.drop p).take m) := fun x hx => h x (List.mem_of_mem_drop (List.mem_of_mem_take hx))
theorem Byt.get {xs : List Int} (h : Byt xs) (i : Nat) : 0 ≤ xs.getD i 0 ∧ xs.getD i 0 ≤ 255 := by
  by_cases hi : i < xs.length
  · have e : xs.getD i 0 = xs[i] := by simp [hi]
    rw [e]
    exact h _ (List.getElem_mem hi)
  · have e : xs.getD i 0 = 0 := by simp [List.getElem?_eq_none (Nat.le_of_not_lt hi)]
    rw [e]; omega
theorem Byt.append {xs ys : List Int} (h : Byt xs) (h2 : Byt ys) : Byt (xs ++ ys) := fun x hx => by
  rcases List.mem_append.1 hx with hx | hx
  · exact h x hx
  · exact h2 x hx

/-- What a row's cells are in w they are in every world whose blocks below w's size are w's. -/
theorem Row.below {k : IntKind} {w w' : World} {v : Value} {xs : List Int} (h : Row k w v xs) (hb : Below w.heap.size w w') : Row k w' v xs := by
  rcases h with h | ⟨hne, b, off, cap, rfl, hl, hm, hc⟩
  · exact .inl h
  · refine .inr ⟨hne, b, off, cap, rfl, hl, hm, fun i hi => ?_⟩
    rw [hb.cell (p := ⟨b, off + i, none⟩) (World.block_lt_of_cell? w _ (hc i hi))]
    exact hc i hi

/-- What is owned, as a row. -/
theorem Row.ofOwn {k : IntKind} {w : World} {base : Nat} {e : TypeId} {v : Value} {n : Nat} {xs : List Int} (h : w.ownsRow base e 1 v n (xs.map (Value.int k))) : Row k w v xs ∧ n = xs.length := by
  have hn : n = xs.length := by have := h.1; simp at this; omega
  subst hn
  refine ⟨?_, rfl⟩
  rcases h.2 with ⟨rfl, h0⟩ | ⟨g, cap, cur, rfl, hb, hg, hnc, hcm, hcs, htake⟩
  · have : xs = [] := List.eq_nil_of_length_eq_zero h0
    subst this
    exact Row.nil k w
  · by_cases hx : xs = []
    · subst hx
      exact .inl ⟨rfl, some ⟨g, 0, none⟩, cap, rfl, (fun h => by cases h), hcm⟩
    · refine .inr ⟨hx, g, 0, cap, rfl, hnc, hcm, fun i hi => ?_⟩
      have := h.cells (g := g) rfl i (.int k (xs.getD i 0)) (by simp [hi])
      simpa [Addr.add_lit] using this

/-- The cells of a row as the laws on append ask for them. -/
theorem Row.news {k : IntKind} {w : World} {b off : Nat} {xs : List Int} (hc : ∀ i, i < xs.length → w.cell? ⟨b, off + i, none⟩ = some (.int k (xs.getD i 0))) :
    ∀ j u, (xs.map (Value.int k))[j]? = some u → w.cell? ((⟨b, off, none⟩ : Addr).add j) = some u := by
  intro j u hu
  have hj : j < xs.length := by
    have := (List.getElem?_eq_some_iff.1 hu).1
    simpa using this
  rw [Addr.add_lit, hc j hj]
  simp [hj] at hu
  simp [hj, hu]

theorem grown_below {B : Nat} {w w' : World} {row : Option Nat} (hg : w.grownBy w' row) (hB : B ≤ w.heap.size) (hr : ∀ k, row = some k → B ≤ k) : Below B w w' :=
  (Below.refl B w).grown hg hB hr

theorem Row.shape {k : IntKind} {w : World} {v : Value} {xs : List Int} (h : Row k w v xs) : ∃ ao cap, v = .slice ao xs.length cap ∧ (ao = none → xs = [] ∧ cap = 0) ∧ xs.length ≤ cap ∧ cap ≤ maxLen := by
  rcases h with ⟨rfl, ao, cap, rfl, h0, hm⟩ | ⟨hne, b, off, cap, rfl, hl, hm, _⟩
  · exact ⟨ao, cap, rfl, fun h => ⟨rfl, h0 h⟩, Nat.zero_le _, hm⟩
  · exact ⟨_, cap, rfl, (fun h => by cases h), hl, hm⟩

/-- Where a row has an element its address is known, and its cells. -/
theorem Row.at {k : IntKind} {w : World} {ao : Option Addr} {n cap : Nat} {xs : List Int} (h : Row k w (.slice ao n cap) xs) (i : Nat) (hi : i < xs.length) : ∃ b off, ao = some ⟨b, off, none⟩ ∧ ∀ j (hj : j < xs.length), w.cell? ⟨b, off + j, none⟩ = some (.int k xs[j]) := by
  rcases h with ⟨rfl, _⟩ | ⟨hne, b, off, c, hv, hl, hm, hc⟩
  · simp at hi
  · cases hv
    refine ⟨b, off, rfl, fun j hj => ?_⟩
    rw [hc j hj]
    simp [hj]

/-- The slice value v is the call's own (its block lies from 'base' on) and holds the numbers xs. A name that the walk does not open. -/
def Own (k : IntKind) (w : World) (base : Nat) (e : TypeId) (v : Value) (xs : List Int) : Prop := w.ownsRow base e 1 v xs.length (xs.map (Value.int k))

section
variable {k : IntKind} {w : World} {base : Nat} {e : TypeId} {v : Value} {xs : List Int}
theorem Own.row (h : Own k w base e v xs) : Row k w v xs := (Row.ofOwn h).1
theorem Own.shape (h : Own k w base e v xs) : ∃ ao cap, v = .slice ao xs.length cap := by
  obtain ⟨ao, cap, h, _⟩ := h.row.shape
  exact ⟨ao, cap, h⟩
theorem Own.alloc (h : Own k w base e v xs) (o : Obj) : Own k (w.alloc o) base e v xs := World.ownsRow.alloc h o
theorem Own.lt (h : Own k w base e v xs) : ∀ g, v.ownBlock = some g → base ≤ g ∧ g < w.heap.size := World.ownsRow.lt h
theorem Own.nil (k : IntKind) (w : World) (base : Nat) (e : TypeId) : Own k w base e (.slice none 0 0) [] := World.ownsRow_nil _ _ _ _
theorem Own.made (w : World) (hb : base ≤ w.heap.size) : Own k (w.alloc (.cells #[] e)) base e (.slice (some ⟨w.heap.size, 0, none⟩) 0 0) [] := World.ownsRow_made w #[] 0 hb (Nat.zero_le _) rfl
theorem Own.made0 {n : Nat} (h : w.ownsRow base e 1 v 0 []) (_hn : n = 0) : Own k w base e v [] := h
theorem Own.kept {w' : World} (h : Own k w base e v xs) (hb : Below w.heap.size w w') : Own k w' base e v xs := by
  refine World.ownsRow.kept (row := none) h ⟨hb.os, hb.tape, hb.output, hb.size, fun i hi _ => hb.block i hi⟩ ?_
  cases v.ownBlock <;> simp
end

/-- 'append(out, xs...)', out the call's own, xs whatever row: nil, empty or not. -/
theorem wpList_append_Own {P : Program} {w : World} {ops : Array Oper} {rest : List Oper} {o : Oper} {a : Act} {Q : Exit → Act → World → Prop} (hgd : o.guard = none) (s x : Operand) (t : TypeId)
    (ho : o.op = .call { callee := .builtin .append, args := #[s, x], argTypes := #[t, t] })
    (base : Nat) (e : TypeId) (i : TypeInfo) (k : IntKind) (bytes : Nat) (ht : P.underlying t = some (.slice e)) (hi : P.info? e = some i) (hz : i.zero = some (.int k 0))
    (hsize : i.size = 1) (hby : i.bytes = bytes) (v : Value) (xs : List Int) (hs : a.eval s = v) (hown : Own k w base e v xs)
    (vx : Value) (ys : List Int) (hx : a.eval x = vx) (hrow : Row k w vx ys) (h63 : xs.length + ys.length ≤ maxLen) (hbytes : (xs.length + ys.length) * bytes ≤ 140737488355328) (hbase : base ≤ w.heap.size)
    (h : ∀ v' w', Own k w' base e v' (xs ++ ys) → w.grownBy w' v.ownBlock → wpList P ops Q rest (a.put o.dst v') w') : wpList P ops Q (o :: rest) a w := by
  have fin : ∀ v' w', w'.ownsRow base e 1 v' (xs.length + ys.length) (xs.map (Value.int k) ++ ys.map (Value.int k)) → Own k w' base e v' (xs ++ ys) := by
    intro v' w' h1
    unfold Own
    rw [List.length_append, List.map_append]
    exact h1
  rcases hrow with ⟨rfl, ao, cap, rfl, h0, hm⟩ | ⟨hne, b, off, cap, rfl, hl, hm, hc⟩
  · cases ao with
    | none =>
      obtain rfl := h0 rfl
      refine wpList_append_own_none hgd s x t ho base e i 1 ht hi v _ _ hs hown hx ?_
      exact h v w (by rw [List.append_nil]; exact hown) (World.grownBy.refl _ _)
    | some ad =>
      refine wpList_append_own w hgd s x t ho base e i (.int k 0) 1 bytes ht hi hz hsize hby rfl (by decide) v _ _ hs hown ad 0 cap [] hx rfl (by simp) (by simp) h63 hbytes hbase ?_
      intro v' w' h1 h2 _
      exact h v' w' (fin v' w' h1) h2
  · refine wpList_append_own w hgd s x t ho base e i (.int k 0) 1 bytes ht hi hz hsize hby rfl (by decide) v _ _ hs hown ⟨b, off, none⟩ ys.length cap (ys.map (Value.int k)) hx (by simp) (Row.news hc) (ints_oneCell _ _) h63 hbytes hbase ?_
    intro v' w' h1 h2 _
    exact h v' w' (fin v' w' h1) h2

/-- 'make([]T, 0, n)'. -/
theorem wpList_make_Own {P : Program} (w : World) {ops : Array Oper} {rest : List Oper} {o : Oper} {a : Act} {Q : Exit → Act → World → Prop}
    (hg : o.guard = none) (l c : Operand) (t : TypeId) (hop : o.op = Op.makeSlice t l c)
    (base : Nat) (e : TypeId) (i : TypeInfo) (z : Value) (k : IntKind) (h1 : P.underlying t = some (.slice e)) (h2 : P.info? e = some i) (h3 : i.zero = some z) (h4 : i.size = 1)
    (kl kc : IntKind) (C : Int) (n : Nat) (hl : a.eval l = .int kl 0) (hc : a.eval c = .int kc C) (hC : C = (n : Int)) (b2 : i.bytes * n ≤ 281474976710656) (b3 : n ≤ maxLen) (b4 : base ≤ w.heap.size)
    (hK : ∀ w', Own k w' base e (.slice (some ⟨w.heap.size, 0, none⟩) 0 n) [] → w.grownBy w' none → wpList P ops Q rest (a.put o.dst (.slice (some ⟨w.heap.size, 0, none⟩) 0 n)) w') :
    wpList P ops Q (o :: rest) a w :=
  wpList_make_own w hg l c t hop base e i z 1 h1 h2 h3 h4 kl kc C n hl hc hC b2 b3 b4 (fun w' h hg => hK w' h hg)

/-- 'make([]T, n)': n zeros. -/
theorem wpList_make_Zeros {P : Program} (w : World) {ops : Array Oper} {rest : List Oper} {o : Oper} {a : Act} {Q : Exit → Act → World → Prop}
    (hg : o.guard = none) (l c : Operand) (t : TypeId) (hop : o.op = Op.makeSlice t l c)
    (base : Nat) (e : TypeId) (i : TypeInfo) (k : IntKind) (h1 : P.underlying t = some (.slice e)) (h2 : P.info? e = some i) (h3 : i.zero = some (.int k 0)) (h4 : i.size = 1)
    (kl kc : IntKind) (L C : Int) (n : Nat) (hl : a.eval l = .int kl L) (hc : a.eval c = .int kc C) (hL : L = (n : Int)) (hC : C = (n : Int)) (b2 : i.bytes * n ≤ 281474976710656) (b3 : n ≤ maxLen) (b4 : base ≤ w.heap.size)
    (hK : ∀ w', Own k w' base e (.slice (some ⟨w.heap.size, 0, none⟩) n n) (List.replicate n 0) → w.grownBy w' none → wpList P ops Q rest (a.put o.dst (.slice (some ⟨w.heap.size, 0, none⟩) n n)) w') :
    wpList P ops Q (o :: rest) a w := by
  refine wpList_make_full w hg l c t hop base e i (.int k 0) 1 h1 h2 h3 h4 kl kc L C n hl hc hL hC b2 b3 b4 (fun w' h hg => hK w' ?_ hg)
  unfold Own
  rw [List.length_replicate, List.map_replicate]
  have e : (madeCells (Value.int k 0).cells (n * 1)).toList = List.replicate n (Value.int k 0) := by rw [Nat.mul_one]; exact toList_madeCells_one _ _
  rw [← e]
  exact h

section
variable {k : IntKind} {w : World} {base : Nat} {e : TypeId} {xs : List Int} {g n cap : Nat}
theorem Own.cellAt (h : Own k w base e (.slice (some ⟨g, 0, none⟩) n cap) xs) (j : Nat) (hj : j < xs.length) : w.cell? ⟨g, j, none⟩ = some (.int k xs[j]) := by
  have hn : n = xs.length := by obtain ⟨_, _, hv⟩ := h.shape; cases hv; rfl
  subst hn
  have h2 := World.ownsRow.cellAt h j (by omega)
  rw [h2]
  simp [hj]
theorem Own.frozenAt (h : Own k w base e (.slice (some ⟨g, 0, none⟩) n cap) xs) (j : Nat) : w.frozen? ⟨g, j, none⟩ = false := by
  have hn : n = xs.length := by obtain ⟨_, _, hv⟩ := h.shape; cases hv; rfl
  subst hn
  exact World.ownsRow.frozenAt h j
theorem Own.stored (h : Own k w base e (.slice (some ⟨g, 0, none⟩) n cap) xs) (j : Nat) (u : Int) : Own k (w.setCell ⟨g, j, none⟩ (.int k u)) base e (.slice (some ⟨g, 0, none⟩) n cap) (xs.set j u) := by
  have hn : n = xs.length := by obtain ⟨_, _, hv⟩ := h.shape; cases hv; rfl
  subst hn
  unfold Own
  rw [List.length_set, List.map_set]
  exact (World.ownsRow.stored h j _).1
end

/-- The block of one cell that 'append(out, c)' lays for c. -/
theorem Row.one (k : IntKind) (w : World) (c : Int) (e : TypeId) : Row k (w.alloc (.cells #[.int k c] e)) (.slice (some ⟨w.heap.size, 0, none⟩) 1 1) [c] := by
  refine .inr ⟨by simp, w.heap.size, 0, 1, rfl, by simp, by unfold maxLen; decide, fun i hi => ?_⟩
  have hi0 : i = 0 := by simp at hi; omega
  subst hi0
  simp

/-- Nothing that was there has turned. -/
def Ext (w w' : World) : Prop := Below w.heap.size w w'
theorem Ext.refl (w : World) : Ext w w := Below.refl _ _
theorem Ext.trans {a b c : World} (h : Ext a b) (k : Ext b c) : Ext a c := Below.trans h (k.mono h.size)
theorem Ext.alloc {a b : World} (h : Ext a b) (o : Obj) : Ext a (b.alloc o) := Below.alloc h h.size o
theorem Ext.drewN {a b : World} (h : Ext a b) (n : Nat) : Ext a (b.drewN n) := below_drewN h n
theorem Ext.drew {a b : World} (h : Ext a b) : Ext a b.drew := Below.drew h
theorem Row.ext {k : IntKind} {w w' : World} {v : Value} {xs : List Int} (h : Row k w v xs) (hb : Ext w w') : Row k w' v xs := h.below hb
end Go.Proofs.YtglfhmlcmffoaaaGreat

/-
  Plain facts on blocks of cells in memory (structs behind a pointer, boxed values): what a block holds, and that it stays so while other blocks turn. Nothing here speaks of the program.
-/
namespace Go.Proofs.YtglfhmlcmffoaaaGreat
open Go.RowKit

/-- Block b holds the cells cs, none of them frozen. -/
def Blk (w : World) (b : Nat) (cs : Array Value) (t : TypeId) : Prop := w.heap[b]? = some (.cells cs t (0, 0))

section
variable {w w' : World} {b : Nat} {cs : Array Value} {t : TypeId}
theorem Blk.cell (h : Blk w b cs t) {i : Nat} {v : Value} (hv : cs[i]? = some v) : w.cell? ⟨b, i, none⟩ = some v := by
  simp only [World.cell?, show w.heap[b]? = some (.cells cs t (0, 0)) from h]
  simpa using hv
theorem Blk.free (h : Blk w b cs t) (i : Nat) : w.frozen? ⟨b, i, none⟩ = false := by
  simp [World.frozen?, show w.heap[b]? = some (.cells cs t (0, 0)) from h]
theorem Blk.lt (h : Blk w b cs t) : b < w.heap.size := (Array.getElem?_eq_some_iff.1 (show w.heap[b]? = some (.cells cs t (0, 0)) from h)).1
theorem Blk.ext (h : Blk w b cs t) (hx : Ext w w') : Blk w' b cs t := (hx.block b h.lt).trans h
theorem Blk.grown {r : Nat} (h : Blk w b cs t) (hg : w.grownBy w' (some r)) (hne : b ≠ r) : Blk w' b cs t := (hg.block b h.lt (by simpa using hne)).trans h
theorem Blk.set (h : Blk w b cs t) (i : Nat) (v : Value) : Blk (w.setCell ⟨b, i, none⟩ v) b (cs.setIfInBounds i v) t := heap_setCell_same w b i cs t v h
theorem Blk.other {r : Nat} (h : Blk w b cs t) (i : Nat) (v : Value) (hne : b ≠ r) : Blk (w.setCell ⟨r, i, none⟩ v) b cs t := (heap_setCell_other w ⟨r, i, none⟩ b v hne).trans h
theorem Blk.new (w : World) (cs : Array Value) (t : TypeId) : Blk (w.alloc (.cells cs t)) w.heap.size cs t := heap_alloc_new w _
theorem Blk.alloc (h : Blk w b cs t) (o : Obj) : Blk (w.alloc o) b cs t := h.ext ((Ext.refl w).alloc o)
theorem Blk.drewN (h : Blk w b cs t) (n : Nat) : Blk (w.drewN n) b cs t := h
end

theorem below_grown {B : Nat} {w w1 w2 : World} {rb : Nat} (h : Below B w w1) (hg : w1.grownBy w2 (some rb)) (hB : B ≤ w1.heap.size) (hr : B ≤ rb) : Below B w w2 :=
  h.grown hg hB (fun k e => by cases e; exact hr)
theorem grownBy_set (w : World) (b i : Nat) (v : Value) : w.grownBy (w.setCell ⟨b, i, none⟩ v) (some b) :=
  ⟨rfl, rfl, rfl, by simp, fun k _ hk => heap_setCell_other _ _ _ _ (by simpa using hk)⟩
/-- A row of numbers does not lie in a block that has another cell at each place. -/
theorem Row.grown {k : IntKind} {w w' : World} {v : Value} {xs : List Int} {r : Nat} (hr : Row k w v xs) (hg : w.grownBy w' (some r)) (hne : ∀ i n, w.cell? ⟨r, i, none⟩ ≠ some (.int k n)) : Row k w' v xs := by
  rcases hr with hr | ⟨h0, b, off, cap, rfl, hl, hm, hc⟩
  · exact .inl hr
  · have hb : b ≠ r := by
      intro e
      subst e
      exact hne _ _ (hc 0 (List.length_pos_iff.2 h0))
    refine .inr ⟨h0, b, off, cap, rfl, hl, hm, fun i hi => ?_⟩
    rw [World.cell?_of_block (w := w) (hg.block b (World.block_lt_of_cell? w _ (hc i hi)) (by simpa using hb))]
    exact hc i hi
/-- The cells of a block, none of which is a number of kind k. -/
theorem Blk.no {w : World} {b : Nat} {cs : Array Value} {t : TypeId} {k : IntKind} (h : Blk w b cs t) (hn : ∀ u ∈ cs.toList, ∀ n, u ≠ .int k n) : ∀ i n, w.cell? ⟨b, i, none⟩ ≠ some (.int k n) := by
  intro i n he
  simp only [World.cell?, show w.heap[b]? = some (.cells cs t (0, 0)) from h] at he
  simp at he
  obtain ⟨hi, he⟩ := Array.getElem?_eq_some_iff.1 he
  exact hn _ (by rw [← he]; simp) n rfl
end Go.Proofs.YtglfhmlcmffoaaaGreat

/-
  Plain facts on blocks that hold vectors, and on stores into them. Nothing here speaks of the program.
-/
namespace Go.Proofs.YtglfhmlcmffoaaaGreat
open Go.RowKit

def nul : Nat → Int := fun _ => 0

theorem Blk.at {w : World} {b : Nat} {cs : Array Value} {t : TypeId} (h : w.heap.size = b) : Blk (w.alloc (.cells cs t)) b cs t := h ▸ Blk.new w cs t
theorem ext_set {w w1 : World} {b i : Nat} {v : Value} (h : Ext w w1) (hb : w.heap.size ≤ b) : Ext w (w1.setCell ⟨b, i, none⟩ v) :=
  below_grown h (grownBy_set w1 b i v) h.size hb
theorem Blk.vec {w : World} {b : Nat} {a : Nat → Int} {t : TypeId} (h : Blk w b #[.int .i32 (a 0), .int .i32 (a 1), .int .i32 (a 2), .int .i32 (a 3)] t) (k : Nat) (hk : k < 4) : w.cell? ⟨b, k, none⟩ = some (.int .i32 (a k)) := by
  refine h.cell ?_
  rcases (by omega : k = 0 ∨ k = 1 ∨ k = 2 ∨ k = 3) with rfl | rfl | rfl | rfl <;> rfl
theorem Blk.vec4 {w : World} {b : Nat} {a : Nat → Int} {t : TypeId} (h : Blk w b #[.int .i32 (a 0), .int .i32 (a 1), .int .i32 (a 2), .int .i32 (a 3)] t) : w.cell? ⟨b, 0, none⟩ = some (.int .i32 (a 0)) ∧ w.cell? ⟨b, 1, none⟩ = some (.int .i32 (a 1)) ∧ w.cell? ⟨b, 2, none⟩ = some (.int .i32 (a 2)) ∧ w.cell? ⟨b, 3, none⟩ = some (.int .i32 (a 3)) :=
  ⟨h.vec 0 (by omega), h.vec 1 (by omega), h.vec 2 (by omega), h.vec 3 (by omega)⟩
end Go.Proofs.YtglfhmlcmffoaaaGreat

/-
  The walks of fix's numbers: within, Raw, Of, Int and what is made of them. What the dump lacks is left out.
-/
namespace Go.Proofs.YtglfhmlcmffoaaaGreat
open Go.RowKit

/-- x, lifted to lo, then lowered to hi. -/
def clampI (x lo hi : Int) : Int := min (max x lo) hi
/-- The raw of the number of raw n. -/
def rawI (n : Int) : Int := clampI n (-2147483648) 2147483647
/-- x is an int32. -/
def I32 (x : Int) : Prop := -2147483648 ≤ x ∧ x ≤ 2147483647
/-- x is an int64. -/
def I64 (x : Int) : Prop := -9223372036854775808 ≤ x ∧ x ≤ 9223372036854775807

theorem rawI_i32 (n : Int) : I32 (rawI n) := by unfold rawI clampI I32; omega
theorem rawI_id {n : Int} (h : I32 n) : rawI n = n := by unfold I32 at h; unfold rawI clampI; omega

theorem within64_any (x lo hi : Int) (w : World) :
    Calls Tryz.prog 190 #[.int .i64 x, .int .i64 lo, .int .i64 hi] w fun e w' => e = .returned (.int .i64 (clampI x lo hi)) ∧ w' = w := by
  go_enter Tryz.func190, Tryz.ntmps190
  go_wp2
  all_goals go_ret
  all_goals refine ⟨?_, rfl⟩
  all_goals simp [clampI]
  all_goals (try split at *)
  all_goals omega

theorem within32_any (x lo hi : Int) (w : World) :
    Calls Tryz.prog 176 #[.int .i32 x, .int .i32 lo, .int .i32 hi] w fun e w' => e = .returned (.int .i32 (clampI x lo hi)) ∧ w' = w := by
  go_enter Tryz.func176, Tryz.ntmps176
  go_wp2
  all_goals go_ret
  all_goals refine ⟨?_, rfl⟩
  all_goals simp [clampI]
  all_goals (try split at *)
  all_goals omega

theorem raw_any (n : Int) (w : World) :
    Calls Tryz.prog 175 #[.int .i64 n] w fun e w' => e = .returned (.int .i32 (rawI n)) ∧ w' = w := by
  have h := rawI_i32 n
  unfold I32 at h
  go_enter Tryz.func175, Tryz.ntmps175
  go_wp2_with fail
  refine (within64_any _ _ _ _).mono ?_
  rintro e w1 ⟨rfl, rfl⟩
  rw [show clampI n (-2147483648) 2147483647 = rawI n from rfl]
  go_wp2
  go_ret
  exact ⟨rfl, rfl⟩

theorem of_any (n : Int) (w : World) :
    Calls Tryz.prog 161 #[.int .i64 n] w fun e w' => e = .returned (.int .i32 (rawI (65536 * n))) ∧ w' = w := by
  have hb : -65536 ≤ clampI n (-65536) 65536 ∧ clampI n (-65536) 65536 ≤ 65536 := by unfold clampI; omega
  have he : rawI (clampI n (-65536) 65536 * 65536) = rawI (65536 * n) := by unfold rawI clampI; omega
  have HE := hide he
  clear he
  go_enter Tryz.func161, Tryz.ntmps161
  go_wp2_with fail
  refine (within64_any _ _ _ _).mono ?_
  rintro e w1 ⟨rfl, rfl⟩
  generalize clampI n (-65536) 65536 = r at *
  go_wp2_with fail
  refine (raw_any _ _).mono ?_
  rintro e w1 ⟨rfl, rfl⟩
  rw [unhide HE]
  go_wp2
  go_ret
  exact ⟨rfl, rfl⟩

theorem int_any (x : Int) (w : World) (h : I32 x) :
    Calls Tryz.prog 207 #[.int .i32 x] w fun e w' => e = .returned (.int .i64 (x / 65536)) ∧ w' = w := by
  go_enter Tryz.func207, Tryz.ntmps207
  unfold I32 at h
  go_wp2
  go_ret
  exact ⟨rfl, rfl⟩

theorem magnitude_any (x : Int) (w : World) (h : I32 x) :
    Calls Tryz.prog 218 #[.int .i32 x] w fun e w' => e = .returned (.int .i64 x.natAbs) ∧ w' = w := by
  go_enter Tryz.func218, Tryz.ntmps218
  unfold I32 at h
  go_wp2
  all_goals go_ret
  all_goals refine ⟨?_, rfl⟩
  all_goals simp
  all_goals omega

theorem nearest_any (p q : Int) (w : World) (hp : 0 ≤ p) (hq : 0 < q) (hp2 : p ≤ 4611686018427387904) (hq2 : q ≤ 4611686018427387904) :
    Calls Tryz.prog 217 #[.int .i64 p, .int .i64 q] w fun e w' => e = .returned (.int .i64 ((p + q / 2) / q)) ∧ w' = w := by
  go_enter Tryz.func217, Tryz.ntmps217
  have hq0 : (q == 0) = false := by simp; omega
  go_wp2
  all_goals go_ret
  exact ⟨rfl, rfl⟩

end Go.Proofs.YtglfhmlcmffoaaaGreat

/-
  The walks of fix's sums, products and quotients, each against one Lean function of the raws. What the dump lacks is left out.
-/
namespace Go.Proofs.YtglfhmlcmffoaaaGreat
open Go.RowKit
set_option linter.unusedSimpArgs false

def addI (a b : Int) : Int := rawI (a + b)
def subI (a b : Int) : Int := rawI (a - b)
def negI (a : Int) : Int := rawI (-a)
def absI (a : Int) : Int := rawI a.natAbs
def mulI (a b : Int) : Int := rawI ((a * b + 32768) / 65536)
/-- The nearest whole number to the quotient of the magnitudes. -/
def nearI (a b : Int) : Int := ((a.natAbs : Int) * 65536 + (b.natAbs : Int) / 2) / (b.natAbs : Int)
def overI (a : Int) : Int := if 0 < a then 2147483647 else if a < 0 then -2147483648 else 0
def divI (a b : Int) : Int := if b = 0 then overI a else rawI (if (decide (a < 0)) = (decide (b < 0)) then nearI a b else -nearI a b)
def floorI (a : Int) : Int := a / 65536 * 65536
def fractI (a : Int) : Int := subI a (floorI a)
def signI (a : Int) : Int := clampI a (-1) 1 * 65536
def modI (a b : Int) : Int := subI a (mulI b (floorI (divI a b)))

theorem mul_i32 {a b : Int} (ha : I32 a) (hb : I32 b) : -4611686018427387904 ≤ a * b ∧ a * b ≤ 4611686018427387904 := by
  unfold I32 at ha hb
  have h1 : (a * b).natAbs ≤ 2147483648 * 2147483648 := by rw [Int.natAbs_mul]; exact Nat.mul_le_mul (by omega) (by omega)
  omega
theorem near_bounds {a b : Int} (ha : I32 a) (hb : I32 b) (h0 : b ≠ 0) : 0 ≤ nearI a b ∧ nearI a b ≤ 140737488355328 := by
  unfold I32 at ha hb
  unfold nearI
  have hb1 : (1 : Int) ≤ (b.natAbs : Int) := by omega
  refine ⟨Int.ediv_nonneg (by omega) (by omega), ?_⟩
  have h2 : ((a.natAbs : Int) * 65536 + (b.natAbs : Int) / 2) / (b.natAbs : Int) < 140737488355329 := by
    refine Int.ediv_lt_of_lt_mul (by omega) ?_
    have : (140737488355329 : Int) * 1 ≤ 140737488355329 * (b.natAbs : Int) := by omega
    omega
  omega
theorem divI_i32 (a b : Int) : I32 (divI a b) := by
  unfold divI
  split
  · unfold overI I32; split; omega; split <;> omega
  · exact rawI_i32 _
theorem mulI_i32 (a b : Int) : I32 (mulI a b) := rawI_i32 _
theorem addI_i32 (a b : Int) : I32 (addI a b) := rawI_i32 _
theorem subI_i32 (a b : Int) : I32 (subI a b) := rawI_i32 _
theorem floorI_i32 {a : Int} (h : I32 a) : I32 (floorI a) := by unfold I32 at *; unfold floorI; omega

theorem add_any (a b : Int) (w : World) (ha : I32 a) (hb : I32 b) :
    Calls Tryz.prog 141 #[.int .i32 a, .int .i32 b] w fun e w' => e = .returned (.int .i32 (addI a b)) ∧ w' = w := by
  go_enter Tryz.func141, Tryz.ntmps141
  unfold I32 at ha hb
  go_wp2_with fail
  refine (raw_any _ _).mono ?_
  rintro e w1 ⟨rfl, rfl⟩
  go_wp2
  go_ret
  exact ⟨rfl, rfl⟩

theorem sub_any (a b : Int) (w : World) (ha : I32 a) (hb : I32 b) :
    Calls Tryz.prog 143 #[.int .i32 a, .int .i32 b] w fun e w' => e = .returned (.int .i32 (subI a b)) ∧ w' = w := by
  go_enter Tryz.func143, Tryz.ntmps143
  unfold I32 at ha hb
  go_wp2_with fail
  refine (raw_any _ _).mono ?_
  rintro e w1 ⟨rfl, rfl⟩
  go_wp2
  go_ret
  exact ⟨rfl, rfl⟩

theorem neg_any (a : Int) (w : World) (ha : I32 a) :
    Calls Tryz.prog 202 #[.int .i32 a] w fun e w' => e = .returned (.int .i32 (negI a)) ∧ w' = w := by
  go_enter Tryz.func202, Tryz.ntmps202
  unfold I32 at ha
  go_wp2_with fail
  refine (raw_any _ _).mono ?_
  rintro e w1 ⟨rfl, rfl⟩
  go_wp2
  go_ret
  exact ⟨rfl, rfl⟩

theorem abs_any (a : Int) (w : World) (ha : I32 a) :
    Calls Tryz.prog 203 #[.int .i32 a] w fun e w' => e = .returned (.int .i32 (absI a)) ∧ w' = w := by
  go_enter Tryz.func203, Tryz.ntmps203
  unfold I32 at ha
  go_wp2_with fail
  refine (magnitude_any _ _ ha).mono ?_
  rintro e w1 ⟨rfl, rfl⟩
  go_wp2_with fail
  refine (raw_any _ _).mono ?_
  rintro e w1 ⟨rfl, rfl⟩
  go_wp2
  go_ret
  exact ⟨rfl, rfl⟩

theorem mul_any (a b : Int) (w : World) (ha : I32 a) (hb : I32 b) :
    Calls Tryz.prog 142 #[.int .i32 a, .int .i32 b] w fun e w' => e = .returned (.int .i32 (mulI a b)) ∧ w' = w := by
  go_enter Tryz.func142, Tryz.ntmps142
  unfold I32 at ha hb
  have hm := mul_i32 ha hb
  go_wp2_with fail
  refine (raw_any _ _).mono ?_
  rintro e w1 ⟨rfl, rfl⟩
  go_wp2
  go_ret
  exact ⟨rfl, rfl⟩

theorem overNothing_any (a : Int) (w : World) (ha : I32 a) :
    Calls Tryz.prog 216 #[.int .i32 a] w fun e w' => e = .returned (.int .i32 (overI a)) ∧ w' = w := by
  go_enter Tryz.func216, Tryz.ntmps216
  unfold I32 at ha
  unfold overI
  by_cases h1 : 0 < a
  · go_wp2
    go_ret
    exact ⟨by simp [h1], rfl⟩
  · by_cases h2 : a < 0
    · go_wp2
      go_ret
      exact ⟨by simp [h1, h2], rfl⟩
    · go_wp2
      go_ret
      exact ⟨by simp [h1, h2], rfl⟩

theorem div_any (a b : Int) (w : World) (ha : I32 a) (hb : I32 b) :
    Calls Tryz.prog 197 #[.int .i32 a, .int .i32 b] w fun e w' => e = .returned (.int .i32 (divI a b)) ∧ w' = w := by
  go_enter Tryz.func197, Tryz.ntmps197
  unfold I32 at ha hb
  by_cases h0 : b = 0
  · subst h0
    go_wp2_with fail
    refine (overNothing_any _ _ ha).mono ?_
    rintro e w1 ⟨rfl, rfl⟩
    go_wp2
    go_ret
    exact ⟨by simp [divI], rfl⟩
  · have hb0 : (b == 0) = false := by simpa using h0
    have hn := near_bounds ha hb h0
    go_wp2_with fail
    refine (magnitude_any _ _ ha).mono ?_
    rintro e w1 ⟨rfl, rfl⟩
    go_wp2_with fail
    refine (magnitude_any _ _ hb).mono ?_
    rintro e w1 ⟨rfl, rfl⟩
    go_wp2_with fail
    refine (nearest_any _ _ _ (by omega) (by omega) (by omega) (by omega)).mono ?_
    rintro e w1 ⟨rfl, rfl⟩
    rw [show ((a.natAbs : Int) * 65536 + (b.natAbs : Int) / 2) / (b.natAbs : Int) = nearI a b from rfl]
    by_cases h1 : a < 0
    · by_cases h2 : b < 0
      · have d1 : decide (a < 0) = true := by simp; omega
        have d2 : decide (b < 0) = true := by simp; omega
        go_wp2_with fail
        refine (raw_any _ _).mono ?_
        rintro e w1 ⟨rfl, rfl⟩
        go_wp2
        go_ret
        exact ⟨by simp [divI, h0, d1, d2], rfl⟩
      · have d1 : decide (a < 0) = true := by simp; omega
        have d2 : decide (b < 0) = false := by simp; omega
        go_wp2_with fail
        refine (raw_any _ _).mono ?_
        rintro e w1 ⟨rfl, rfl⟩
        go_wp2
        go_ret
        exact ⟨by simp [divI, h0, d1, d2], rfl⟩
    · by_cases h2 : b < 0
      · have d1 : decide (a < 0) = false := by simp; omega
        have d2 : decide (b < 0) = true := by simp; omega
        go_wp2_with fail
        refine (raw_any _ _).mono ?_
        rintro e w1 ⟨rfl, rfl⟩
        go_wp2
        go_ret
        exact ⟨by simp [divI, h0, d1, d2], rfl⟩
      · have d1 : decide (a < 0) = false := by simp; omega
        have d2 : decide (b < 0) = false := by simp; omega
        go_wp2_with fail
        refine (raw_any _ _).mono ?_
        rintro e w1 ⟨rfl, rfl⟩
        go_wp2
        go_ret
        exact ⟨by simp [divI, h0, d1, d2], rfl⟩

theorem floor_any (a : Int) (w : World) (ha : I32 a) :
    Calls Tryz.prog 205 #[.int .i32 a] w fun e w' => e = .returned (.int .i32 (floorI a)) ∧ w' = w := by
  go_enter Tryz.func205, Tryz.ntmps205
  unfold I32 at ha
  unfold floorI
  go_wp2
  go_ret
  exact ⟨rfl, rfl⟩

theorem fract_any (a : Int) (w : World) (ha : I32 a) :
    Calls Tryz.prog 206 #[.int .i32 a] w fun e w' => e = .returned (.int .i32 (fractI a)) ∧ w' = w := by
  go_enter Tryz.func206, Tryz.ntmps206
  unfold I32 at ha
  go_wp2_with fail
  refine (floor_any _ _ ha).mono ?_
  rintro e w1 ⟨rfl, rfl⟩
  go_wp2_with fail
  refine (sub_any _ _ _ ha (floorI_i32 ha)).mono ?_
  rintro e w1 ⟨rfl, rfl⟩
  go_wp2
  go_ret
  exact ⟨rfl, rfl⟩

theorem sign_any (a : Int) (w : World) :
    Calls Tryz.prog 204 #[.int .i32 a] w fun e w' => e = .returned (.int .i32 (signI a)) ∧ w' = w := by
  go_enter Tryz.func204, Tryz.ntmps204
  go_wp2_with fail
  refine (within32_any _ _ _ _).mono ?_
  rintro e w1 ⟨rfl, rfl⟩
  have hb : -1 ≤ clampI a (-1) 1 ∧ clampI a (-1) 1 ≤ 1 := by unfold clampI; omega
  go_wp2
  go_ret
  exact ⟨rfl, rfl⟩

theorem min_any (a b : Int) (w : World) :
    Calls Tryz.prog 198 #[.int .i32 a, .int .i32 b] w fun e w' => e = .returned (.int .i32 (min a b)) ∧ w' = w := by
  go_enter Tryz.func198, Tryz.ntmps198
  go_wp2
  all_goals go_ret
  all_goals refine ⟨?_, rfl⟩
  all_goals simp
  all_goals omega

theorem max_any (a b : Int) (w : World) :
    Calls Tryz.prog 199 #[.int .i32 a, .int .i32 b] w fun e w' => e = .returned (.int .i32 (max a b)) ∧ w' = w := by
  go_enter Tryz.func199, Tryz.ntmps199
  go_wp2
  all_goals go_ret
  all_goals refine ⟨?_, rfl⟩
  all_goals simp
  all_goals omega

theorem clamp_any (a b c : Int) (w : World) :
    Calls Tryz.prog 145 #[.int .i32 a, .int .i32 b, .int .i32 c] w fun e w' => e = .returned (.int .i32 (clampI a b c)) ∧ w' = w := by
  go_enter Tryz.func145, Tryz.ntmps145
  go_wp2_with fail
  refine (within32_any _ _ _ _).mono ?_
  rintro e w1 ⟨rfl, rfl⟩
  go_wp2
  go_ret
  exact ⟨rfl, rfl⟩

theorem mod_any (a b : Int) (w : World) (ha : I32 a) (hb : I32 b) :
    Calls Tryz.prog 200 #[.int .i32 a, .int .i32 b] w fun e w' => e = .returned (.int .i32 (modI a b)) ∧ w' = w := by
  go_enter Tryz.func200, Tryz.ntmps200
  unfold I32 at ha hb
  go_wp2_with fail
  refine (div_any _ _ _ ha hb).mono ?_
  rintro e w1 ⟨rfl, rfl⟩
  go_wp2_with fail
  refine (floor_any _ _ (divI_i32 a b)).mono ?_
  rintro e w1 ⟨rfl, rfl⟩
  go_wp2_with fail
  refine (mul_any _ _ _ hb (floorI_i32 (divI_i32 a b))).mono ?_
  rintro e w1 ⟨rfl, rfl⟩
  go_wp2_with fail
  refine (sub_any _ _ _ ha (mulI_i32 _ _)).mono ?_
  rintro e w1 ⟨rfl, rfl⟩
  go_wp2
  go_ret
  exact ⟨rfl, rfl⟩

end Go.Proofs.YtglfhmlcmffoaaaGreat

/-
  Vectors: 'each', for whatever function value it is handed: it answers the numbers that the function gives for the places 0 to n - 1, then 0; or ErrArg where n is not from 1 to 4.
-/
namespace Go.Proofs.YtglfhmlcmffoaaaGreat
open Go.RowKit

/-- The first n numbers of f, then 0. -/
def cut (n : Int) (f : Nat → Int) : Nat → Int := fun i => if (i : Int) < n then f i else 0

theorem cut_set (f : Nat → Int) (k : Nat) (hk : k < 4) : (#[.int .i32 (cut k f 0), .int .i32 (cut k f 1), .int .i32 (cut k f 2), .int .i32 (cut k f 3)] : Array Value).setIfInBounds k (.int .i32 (f k)) = #[.int .i32 (cut ((k : Int) + 1) f 0), .int .i32 (cut ((k : Int) + 1) f 1), .int .i32 (cut ((k : Int) + 1) f 2), .int .i32 (cut ((k : Int) + 1) f 3)] := by
  rcases (by omega : k = 0 ∨ k = 1 ∨ k = 2 ∨ k = 3) with rfl | rfl | rfl | rfl <;> simp [cut]
theorem cut_zero (f : Nat → Int) (i : Nat) : cut (0 : Nat) f i = 0 := by simp [cut]; omega
theorem cut_i32 {f : Nat → Int} {n : Int} (h : ∀ i, I32 (f i)) (i : Nat) : I32 (cut n f i) := by
  unfold cut
  split
  · exact h i
  · unfold I32; omega
theorem cut_congr {f g : Nat → Int} {n : Int} (h : ∀ i : Nat, (i : Int) < n → f i = g i) : cut n f = cut n g := by
  funext i
  unfold cut
  split
  · exact h i (by assumption)
  · rfl
theorem vec_at (f : Nat → Int) (k : Nat) (hk : k < 4) : (#[.int .i32 (f 0), .int .i32 (f 1), .int .i32 (f 2), .int .i32 (f 3)] : Array Value)[k]? = some (.int .i32 (f k)) := by
  rcases (by omega : k = 0 ∨ k = 1 ∨ k = 2 ∨ k = 3) with rfl | rfl | rfl | rfl <;> rfl



theorem Blk.free4 {w : World} {b : Nat} {cs : Array Value} {t : TypeId} (h : Blk w b cs t) : w.frozen? ⟨b, 0, none⟩ = false ∧ w.frozen? ⟨b, 1, none⟩ = false ∧ w.frozen? ⟨b, 2, none⟩ = false ∧ w.frozen? ⟨b, 3, none⟩ = false :=
  ⟨h.free 0, h.free 1, h.free 2, h.free 3⟩
theorem ext_set4 {w w1 : World} {b : Nat} {x0 x1 x2 x3 : Value} (h : Ext w w1) (hb : w.heap.size ≤ b) : Ext w ((((w1.setCell ⟨b, 0, none⟩ x0).setCell ⟨b, 1, none⟩ x1).setCell ⟨b, 2, none⟩ x2).setCell ⟨b, 3, none⟩ x3) :=
  ext_set (ext_set (ext_set (ext_set h hb) hb) hb) hb

/-- Four numbers laid into block b: what its cells hold, store by store. -/
theorem lay4 {w : World} {b : Nat} {a : Nat → Int} {t : TypeId} (h : Blk w b #[.int .i32 (a 0), .int .i32 (a 1), .int .i32 (a 2), .int .i32 (a 3)] t) (x0 x1 x2 x3 : Value) :
    (w.setCell ⟨b, 0, none⟩ x0).cell? ⟨b, 0, none⟩ = some x0 ∧ ((w.setCell ⟨b, 0, none⟩ x0).setCell ⟨b, 1, none⟩ x1).cell? ⟨b, 1, none⟩ = some x1 ∧
    (((w.setCell ⟨b, 0, none⟩ x0).setCell ⟨b, 1, none⟩ x1).setCell ⟨b, 2, none⟩ x2).cell? ⟨b, 2, none⟩ = some x2 ∧
    ((((w.setCell ⟨b, 0, none⟩ x0).setCell ⟨b, 1, none⟩ x1).setCell ⟨b, 2, none⟩ x2).setCell ⟨b, 3, none⟩ x3).cell? ⟨b, 3, none⟩ = some x3 :=
  ⟨(h.set 0 x0).cell rfl, ((h.set 0 x0).set 1 x1).cell rfl, (((h.set 0 x0).set 1 x1).set 2 x2).cell rfl, ((((h.set 0 x0).set 1 x1).set 2 x2).set 3 x3).cell rfl⟩

set_option maxHeartbeats 1000000 in
theorem each_any (n : Int) (g : FuncId) (lb : Array Value) (f : Nat → Int) (w : World) (h1 : 1 ≤ n) (h4 : n ≤ 4)
    (eg : ∀ args w, (callFunc g args).run Tryz.prog w = .ok (.enter g args) w)
    (hf : ∀ (i : Nat) (W : World), i < 4 → (i : Int) < n → Ext w W → Calls Tryz.prog g (#[.int .i64 i] ++ lb) W fun e w' => e = .returned (.int .i32 (f i)) ∧ Ext W w') :
    Calls Tryz.prog 114 #[.int .i64 n, .func (.func g) #[] lb] w fun e w' => e = .returned (.tuple #[.agg #[.int .i32 (cut n f 0), .int .i32 (cut n f 1), .int .i32 (cut n f 2), .int .i32 (cut n f 3)], .int .i64 0]) ∧ Ext w w' := by
  have HF := hide hf
  clear hf
  have B0 : Hid (Blk ((w.alloc (.cells #[.int .i32 0, .int .i32 0, .int .i32 0, .int .i32 0] 28)).alloc (.cells #[.int .i32 0, .int .i32 0, .int .i32 0, .int .i32 0] 28)) w.heap.size #[.int .i32 (nul 0), .int .i32 (nul 1), .int .i32 (nul 2), .int .i32 (nul 3)] 28) := (Blk.new w _ _).alloc _
  have B1 : Hid (Blk ((w.alloc (.cells #[.int .i32 0, .int .i32 0, .int .i32 0, .int .i32 0] 28)).alloc (.cells #[.int .i32 0, .int .i32 0, .int .i32 0, .int .i32 0] 28)) (w.heap.size + 1) #[.int .i32 (nul 0), .int .i32 (nul 1), .int .i32 (nul 2), .int .i32 (nul 3)] 28) := by
    have := Blk.new (w.alloc (.cells #[.int .i32 0, .int .i32 0, .int .i32 0, .int .i32 0] 28)) #[.int .i32 0, .int .i32 0, .int .i32 0, .int .i32 0] 28
    rwa [show (w.alloc (.cells #[.int .i32 0, .int .i32 0, .int .i32 0, .int .i32 0] 28)).heap.size = w.heap.size + 1 by simp] at this
  have d1 : decide (n < 1) = false := by simp; omega
  have d4 : decide (4 < n) = false := by simp; omega
  go_enter Tryz.func114, Tryz.ntmps114
  go_wp2
  go_loopw [16] (fun i wr => ∃ k : Nat, (k : Int) ≤ n ∧ i = .int .i64 k ∧ Blk wr w.heap.size #[.int .i32 (nul 0), .int .i32 (nul 1), .int .i32 (nul 2), .int .i32 (nul 3)] 28 ∧ Blk wr (w.heap.size + 1) #[.int .i32 (cut k f 0), .int .i32 (cut k f 1), .int .i32 (cut k f 2), .int .i32 (cut k f 3)] 28 ∧ Ext w wr) (fun i _ => n.toNat - (intOf i).toNat)
  case atStart => exact ⟨0, by omega, rfl, unhide B0, by simp only [cut_zero]; exact unhide B1, ((Ext.refl w).alloc _).alloc _⟩
  case round =>
    obtain ⟨k, hk, rfl, hb0, hb1, hx⟩ := hrel
    clear B0 B1
    have D := hide (And.intro hb0 (And.intro hb1 hx))
    clear hb0 hb1 hx
    by_cases hlt : (k : Int) < n
    · have hk4 : k < 4 := by omega
      go_wp2_with (go_at_fn g; refine (unhide HF k _ hk4 hlt (unhide D).2.2).mono ?_; rintro e w1 ⟨rfl, hx1⟩; have D1 := hide (And.intro ((unhide D).1.ext hx1) (And.intro ((unhide D).2.1.ext hx1) ((unhide D).2.2.trans hx1))); have c1 := (unhide D1).2.1.vec k hk4; have f1 := (unhide D1).2.1.free k; clear D hx1)
      go_roundw
      case rel =>
        refine ⟨k + 1, by omega, by go_num, (unhide D1).1.other k _ (by omega), ?_, ext_set (unhide D1).2.2 (by omega)⟩
        have := (unhide D1).2.1.set k (.int .i32 (f k))
        rw [cut_set f k hk4] at this
        exact this
      case measure => simp [intOf]; omega
    · have hkn : (k : Int) = n := by omega
      rw [hkn] at D
      have c0 := (unhide D).2.1.vec 0 (by omega)
      have c1 := (unhide D).2.1.vec 1 (by omega)
      have c2 := (unhide D).2.1.vec 2 (by omega)
      have c3 := (unhide D).2.1.vec 3 (by omega)
      have r0 := (unhide D).1.vec 0 (by omega)
      have r1 := (unhide D).1.vec 1 (by omega)
      have r2 := (unhide D).1.vec 2 (by omega)
      have r3 := (unhide D).1.vec 3 (by omega)
      have f0 := (unhide D).1.free 0
      have f1 := (unhide D).1.free 1
      have f2 := (unhide D).1.free 2
      have f3 := (unhide D).1.free 3
      clear hkn
      go_wp2
      obtain ⟨q0, q1, q2, q3⟩ := lay4 (unhide D).1 (.int .i32 (cut n f 0)) (.int .i32 (cut n f 1)) (.int .i32 (cut n f 2)) (.int .i32 (cut n f 3))
      refine bodyPost_ret (v := .tuple #[.agg #[.int .i32 (cut n f 0), .int .i32 (cut n f 1), .int .i32 (cut n f 2), .int .i32 (cut n f 3)], .int .i64 0]) (by simp [results, Tryz.results114, go_sem, q0, q1, q2, q3]) rfl ⟨rfl, ?_⟩
      exact ext_set (ext_set (ext_set (ext_set (unhide D).2.2 (Nat.le_refl _)) (Nat.le_refl _)) (Nat.le_refl _)) (Nat.le_refl _)

theorem each_bad (n : Int) (fv : Value) (w : World) (h : n < 1 ∨ 4 < n) :
    Calls Tryz.prog 114 #[.int .i64 n, fv] w fun e w' => e = .returned (.tuple #[.agg #[.int .i32 0, .int .i32 0, .int .i32 0, .int .i32 0], .int .i64 2]) ∧ Ext w w' := by
  go_enter Tryz.func114, Tryz.ntmps114
  by_cases h1 : n < 1
  · have d1 : decide (n < 1) = true := by simp; omega
    go_wp2
    refine bodyPost_ret (v := .tuple #[.agg #[.int .i32 0, .int .i32 0, .int .i32 0, .int .i32 0], .int .i64 2]) (by simp [results, Tryz.results114, go_sem]) rfl ⟨rfl, ?_⟩
    exact (Ext.refl w).alloc _
  · have d1 : decide (n < 1) = false := by simp; omega
    have d4 : decide (4 < n) = true := by simp; omega
    go_wp2
    refine bodyPost_ret (v := .tuple #[.agg #[.int .i32 0, .int .i32 0, .int .i32 0, .int .i32 0], .int .i64 2]) (by simp [results, Tryz.results114, go_sem]) rfl ⟨rfl, ?_⟩
    exact (Ext.refl w).alloc _
end Go.Proofs.YtglfhmlcmffoaaaGreat
