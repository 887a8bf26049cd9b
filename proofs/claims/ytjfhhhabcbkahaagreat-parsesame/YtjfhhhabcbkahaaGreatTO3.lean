/-
  Nodes in order: the closure that calls itself.
-/
import Derived.Test.YtjfhhhabcbkahaaGreatTO1
import Derived.Test.YtjfhhhabcbkahaaGreatTO2
import Derived.Test.YtjfhhhabcbkahaaGreatTN
namespace Go.Proofs.YtjfhhhabcbkahaaGreat
open Go.RowKit
set_option linter.unusedVariables false
set_option linter.unusedSimpArgs false

def putF (sa nb fb : Nat) : Value := .func (.func 44) #[] #[.pointer (some ⟨sa, 0, none⟩), .pointer (some ⟨nb, 0, none⟩), .pointer (some ⟨fb, 0, none⟩)]
/-- The closure's variables. -/
structure OS (w : World) (hi base sa nb fb : Nat) (v : Value) (ns : List Nt) : Prop where
  spot : Blk w sa #[.int .i64 0, .int .i64 0] 31
  var : Blk w nb #[v] 22
  fn : Blk w fb #[putF sa nb fb] 75
  row : NR w base v ns
  o1 : hi ≤ nb
  o2 : nb < sa
  o3 : sa < fb
  o4 : fb < base
  o5 : base ≤ w.heap.size
def OT (sa nb base k : Nat) : Prop := k = sa ∨ k = nb ∨ base ≤ k
/-- What the closure answers. -/
def OQ (w : World) (hi base sa nb fb : Nat) (ns : List Nt) (d : Nat) (x : List Nd) (e : Ending) (w' : World) : Prop := Out (OT sa nb base) w w' ∧ (match badP d x with
  | none => e = .returned (.bool true) ∧ ∃ ao m cap ns', OS w' hi base sa nb fb (.slice ao m cap) ns' ∧ ns'.map Prod.snd = ns.map Prod.snd ++ absN ns.length x
  | some p => e = .returned (.bool false) ∧ Blk w' sa #[.int .i64 3, .int .i64 p] 31)
section
variable {w w' : World} {hi base sa nb fb : Nat} {v : Value} {ns : List Nt}
theorem OS.ext (h : OS w hi base sa nb fb v ns) (hx : Ext w w') : OS w' hi base sa nb fb v ns := ⟨h.spot.ext hx, h.var.ext hx, h.fn.ext hx, h.row.ext hx, h.o1, h.o2, h.o3, h.o4, Nat.le_trans h.o5 hx.size⟩
theorem NR.shape (h : NR w base v ns) : ∃ ao cap, v = .slice ao ns.length cap := by
  rcases h.own.2 with ⟨e, h0⟩ | ⟨g, cap, cur, e, _⟩
  · exact ⟨none, 0, by rw [e, h0]⟩
  · exact ⟨_, cap, e⟩
/-- 'nodes = append(nodes, x)'. -/
theorem OS.push (h : OS w hi base sa nb fb v ns) (x : Nd) (hl : ns.length ≤ 1000000000) :
    ∃ ao cap w', (Builtin.append_ #[22, 22] 22 #[v, .slice (some ⟨w.heap.size, 0, none⟩) 1 1]).run Tryz.prog (w.alloc (.cells (ncell (.slice none 0 0, withK x [])).toArray 39)) = .ok (.slice ao (ns.length + 1) cap) w' ∧
      w'.cell? ⟨nb, 0, none⟩ = some v ∧ w'.frozen? ⟨nb, 0, none⟩ = false ∧ OS (w'.setCell ⟨nb, 0, none⟩ (.slice ao (ns.length + 1) cap)) hi base sa nb fb (.slice ao (ns.length + 1) cap) (ns ++ [(.slice none 0 0, withK x [])]) ∧ Out (OT sa nb base) w (w'.setCell ⟨nb, 0, none⟩ (.slice ao (ns.length + 1) cap)) := by
  obtain ⟨ao, cap, w2, hrun, hr, hg, hloc⟩ := h.row.push x h.o5 hl
  have o2 := h.o2; have o3 := h.o3; have o4 := h.o4; have o5 := h.o5
  have hge : ∀ g, v.ownBlock = some g → base ≤ g := fun g hg => (World.ownsRow.lt h.row.own g hg).1
  have hkeep : ∀ k, k < base → k < w.heap.size → w2.heap[k]? = w.heap[k]? := fun k h1 h2 => hg.block k h2 (fun e => by have := hge k e.symm; omega)
  have hvar : Blk w2 nb #[v] 22 := (hkeep nb (by omega) h.var.lt).trans h.var
  refine ⟨ao, cap, w2, hrun, hvar.cell rfl, hvar.free 0, ⟨?_, hvar.set 0 _, ?_, ?_, h.o1, o2, o3, o4, ?_⟩, ?_⟩
  · exact Blk.other ((hkeep sa (by omega) h.spot.lt).trans h.spot) 0 _ (by omega)
  · exact Blk.other ((hkeep fb (by omega) h.fn.lt).trans h.fn) 0 _ (by omega)
  · exact hr.out (T := fun k => k = nb) (Out.of_grown (grownBy_set w2 nb 0 _) (fun k e => by cases e; rfl)) (fun k e => by omega)
  · have := hg.size
    simp
    omega
  · refine Out.trans (T' := fun k => k = nb) ?_ (Out.of_grown (grownBy_set w2 nb 0 _) (fun k e => by cases e; rfl)) (fun k e => .inl (.inr (.inl e)))
    exact Out.of_grown hg (fun k e => .inr (.inr (hge k e)))
/-- 'nodes[i].Kids = append(nodes[i].Kids, k)'. -/
theorem OS.kid {gv n cap : Nat} {A B : List Nt} {x : Nt} (h : OS w hi base sa nb fb (.slice (some ⟨gv, 0, none⟩) n cap) (A ++ x :: B)) (k : Nat) (hl : x.2.kids.length ≤ 1000000000) :
    ∃ ao c w', (Builtin.append_ #[37, 37] 37 #[x.1, .slice (some ⟨w.heap.size, 0, none⟩) 1 1]).run Tryz.prog (w.alloc (.cells #[.int .i64 (k : Int)] 3)) = .ok (.slice ao (x.2.kids.length + 1) c) w' ∧
      w'.cell? ⟨gv, A.length * 6 + 4, none⟩ = some x.1 ∧ w'.frozen? ⟨gv, A.length * 6 + 4, none⟩ = false ∧ w'.cell? ⟨nb, 0, none⟩ = some (.slice (some ⟨gv, 0, none⟩) n cap) ∧ OS (w'.setCell ⟨gv, A.length * 6 + 4, none⟩ (.slice ao (x.2.kids.length + 1) c)) hi base sa nb fb (.slice (some ⟨gv, 0, none⟩) n cap) (A ++ (.slice ao (x.2.kids.length + 1) c, withK x.2 (x.2.kids ++ [k])) :: B) ∧
      Out (OT sa nb base) w (w'.setCell ⟨gv, A.length * 6 + 4, none⟩ (.slice ao (x.2.kids.length + 1) c)) := by
  obtain ⟨ao, c, w2, hrun, hbl, hg, hr⟩ := h.row.kidApp k h.o5 hl
  have o2 := h.o2; have o3 := h.o3; have o4 := h.o4; have o5 := h.o5
  have hxm : x ∈ A ++ x :: B := by simp
  have hge : ∀ g, x.1.ownBlock = some g → base ≤ g := fun g hg => (World.ownsRow.lt (h.row.kid x hxm) g hg).1
  have hgv : base ≤ gv := (World.ownsRow.lt h.row.own gv rfl).1
  have hkeep : ∀ k, k < base → k < w.heap.size → w2.heap[k]? = w.heap[k]? := fun k h1 h2 => hg.block k h2 (fun e => by have := hge k e.symm; omega)
  have hc : w.cell? ⟨gv, A.length * 6 + 4, none⟩ = some x.1 := by
    have := World.ownsRow.cells h.row.own (g := gv) rfl (A.length * 6 + 4) x.1 (by
      rw [ncells_get _ A.length (by simp) 4 (by decide)]
      simp [ncell])
    rwa [Addr.add_lit, Nat.zero_add] at this
  have hcur : ∃ cur, w.heap[gv]? = some (.cells cur 39 (0, 0)) := by
    rcases h.row.own.2 with ⟨e, _⟩ | ⟨g2, c2, cur, e, _, h2, _⟩
    · cases e
    · cases e
      exact ⟨cur, h2⟩
  obtain ⟨cur, hcur⟩ := hcur
  have hB2 : Blk w2 gv cur 39 := hbl.trans hcur
  refine ⟨ao, c, w2, hrun, ?_, hB2.free _, ?_, ⟨?_, ?_, ?_, hr, h.o1, o2, o3, o4, ?_⟩, ?_⟩
  · rw [World.cell?_of_block (w := w) hbl]
    exact hc
  · exact Blk.cell ((hkeep nb (by omega) h.var.lt).trans h.var) rfl
  · exact Blk.other ((hkeep sa (by omega) h.spot.lt).trans h.spot) _ _ (by omega)
  · exact Blk.other ((hkeep nb (by omega) h.var.lt).trans h.var) _ _ (by omega)
  · exact Blk.other ((hkeep fb (by omega) h.fn.lt).trans h.fn) _ _ (by omega)
  · have := hg.size
    simp
    omega
  · refine Out.trans (T' := fun k => k = gv) ?_ (Out.of_grown (grownBy_set w2 gv _ _) (fun k e => by cases e; rfl)) (fun k e => .inl (.inr (.inr (by omega))))
    exact Out.of_grown hg (fun k e => .inr (.inr (hge k e)))
end
end Go.Proofs.YtjfhhhabcbkahaaGreat
