/-
  The document's store of buffers: one more buffer in a row; lists with one put in, step by step.
-/
import Derived.Test.YtagbenjaidikmaaBS
namespace Go.Proofs.Ytagbenjaidikmaa
open Go.RowKit

theorem Row.grownO {k : IntKind} {w w' : World} {u : Value} {xs : List Int} {row : Option Nat} (h : Row k w u xs) (hg : w.grownBy w' row) (hne : xs ≠ [] → ∀ b, u.ownBlock = some b → some b ≠ row) : Row k w' u xs := by
  rcases h with h | ⟨h0, b, off, cap, rfl, hl, hm, hc⟩
  · exact .inl h
  · refine .inr ⟨h0, b, off, cap, rfl, hl, hm, fun i hi => ?_⟩
    rw [World.cell?_of_block (w := w) (hg.block b (World.block_lt_of_cell? w _ (hc i hi)) (hne h0 b rfl))]
    exact hc i hi
theorem Row.blk_lt {k : IntKind} {w : World} {u : Value} {xs : List Int} (h : Row k w u xs) (hne : xs ≠ []) {b : Nat} (hb : u.ownBlock = some b) : b < w.heap.size := by
  rcases h with ⟨h0, _⟩ | ⟨h0, b2, off, cap, rfl, _, _, hc⟩
  · exact absurd h0 hne
  · cases hb
    exact World.block_lt_of_cell? w _ (hc 0 (List.length_pos_iff.2 h0))

/-- No buffer's bytes lie in the row's own block. -/
def Sep (v : Value) (O : List Ent) : Prop := ∀ p ∈ O, p.2.2 ≠ [] → ∀ b, p.2.1.ownBlock = some b → v.ownBlock ≠ some b

section
variable {w : World} {T : Nat → Prop} {base f : Nat} {vo : Value} {O : List Ent} {all : Int}
/-- 'out.Buffers = append(out.Buffers, x)'. -/
theorem app_step (hf : Blk w f #[.int .i64 all, vo] 33) (h : RB w T base vo O) (hsep : Sep vo O) (hfo : vo.ownBlock ≠ some f) (hb : base ≤ w.heap.size) (hT : ∀ b, T b → b < w.heap.size) (hL : O.length ≤ 1000000) (x : Ent) {eo : Option Addr} {en ecap : Nat} (ee : x.2.1 = .slice eo en ecap)
    (hrow : Row .u8 w x.2.1 x.2.2) (hfx : x.2.2 ≠ [] → ∀ b, x.2.1.ownBlock = some b → ¬ T b) (hsx : x.2.2 ≠ [] → ∀ b, x.2.1.ownBlock = some b → vo.ownBlock ≠ some b) (hrise : Rise (O ++ [x])) (hid : 1 ≤ x.1 ∧ I64 x.1) :
    ∃ ao' cap' w5, (Builtin.append_ #[31, 31] 31 #[vo, .slice (some ⟨w.heap.size, 0, none⟩) 1 1]).run Try.prog (w.alloc (.cells #[.int .i64 x.1, x.2.1] 49)) = .ok (.slice ao' (O.length + 1) cap') w5 ∧
      w5.cell? ⟨f, 1, none⟩ = some vo ∧ w5.frozen? ⟨f, 1, none⟩ = false ∧ Blk (w5.setCell ⟨f, 1, none⟩ (.slice ao' (O.length + 1) cap')) f #[.int .i64 all, .slice ao' (O.length + 1) cap'] 33 ∧
      RB (w5.setCell ⟨f, 1, none⟩ (.slice ao' (O.length + 1) cap')) T base (.slice ao' (O.length + 1) cap') (O ++ [x]) ∧ Sep (.slice ao' (O.length + 1) cap') (O ++ [x]) ∧
      Out (fun b => b = f ∨ vo.ownBlock = some b) w (w5.setCell ⟨f, 1, none⟩ (.slice ao' (O.length + 1) cap')) ∧ ∀ b, (Value.slice ao' (O.length + 1) cap').ownBlock = some b → vo.ownBlock = some b ∨ w.heap.size < b := by
  obtain ⟨ao', cap', w5, hrun, hown5, hg5, hloc⟩ := append_B h hb hL x ee
  have hg6 : w.grownBy w5 vo.ownBlock := (ext_grown ((Ext.refl w).alloc _) _).trans hg5
  have hB5 : Blk w5 f _ _ := (hg6.block _ hf.lt (fun e => hfo e.symm)).trans hf
  have hlf := hf.lt
  have hnf : (Value.slice ao' (O.length + 1) cap').ownBlock ≠ some f := fun e => by
    rcases hloc f e with h1 | h1
    · exact hfo h1
    · omega
  have hno : ∀ i n, w5.cell? ⟨f, i, none⟩ ≠ some (.int .u8 n) := hB5.no (by
    intro u hu n e
    simp at hu
    rcases hu with rfl | rfl
    · simp at e
    · obtain ⟨_, _, hsh, _⟩ := h.shape
      rw [hsh] at e
      cases e)
  have hrowO : ∀ p ∈ O ++ [x], Row .u8 (w5.setCell ⟨f, 1, none⟩ (.slice ao' (O.length + 1) cap')) p.2.1 p.2.2 := by
    intro p hp
    have h1 : Row .u8 w5 p.2.1 p.2.2 := by
      rcases List.mem_append.1 hp with hp | hp
      · exact (h.row p hp).grownO hg6 (fun hne b hb e => hsep p hp hne b hb e.symm)
      · simp at hp
        subst hp
        exact hrow.grownO hg6 (fun hne b hb e => hsx hne b hb e.symm)
    exact h1.grown (grownBy_set _ _ _ _) hno
  refine ⟨ao', cap', w5, hrun, hB5.cell (i := 1) rfl, hB5.free 1, hB5.set 1 _, ?_, ?_, ?_, hloc⟩
  · refine ⟨?_, ?_, hrowO, ?_, hrise, ?_⟩
    · have e : (O ++ [x]).length = O.length + 1 := by simp
      rw [e]
      exact World.ownsRow.kept hown5 (grownBy_set _ _ _ _) (.inr hnf)
    · intro b hb2 hTb
      rcases hloc b hb2 with h1 | h1
      · exact h.far b h1 hTb
      · have := hT b hTb
        omega
    · intro p hp
      rcases List.mem_append.1 hp with hp | hp
      · exact h.farR p hp
      · simp at hp
        subst hp
        exact hfx
    · intro p hp
      rcases List.mem_append.1 hp with hp | hp
      · exact h.ids p hp
      · simp at hp
        subst hp
        exact hid
  · intro p hp hne b hb2 e
    rcases hloc b e with h1 | h1
    · rcases List.mem_append.1 hp with hp | hp
      · exact hsep p hp hne b hb2 h1
      · simp at hp
        subst hp
        exact hsx hne b hb2 h1
    · rcases List.mem_append.1 hp with hp | hp
      · have := (h.row p hp).blk_lt hne hb2
        omega
      · simp at hp
        subst hp
        have := hrow.blk_lt hne hb2
        omega
  · have o1 : Out (fun b => b = f ∨ vo.ownBlock = some b) w w5 := ⟨hg6.os, hg6.tape, hg6.output, hg6.size, fun k hk hn => hg6.block k hk (fun e => hn (.inr e.symm))⟩
    exact o1.trans (T' := fun b => b = f ∨ vo.ownBlock = some b) (Out.of_grown (grownBy_set w5 f 1 _) (.inl rfl)) (fun k hk => .inl hk)
end

/-! ### one put in -/
theorem ins_end {α : Type} {x : Int × α} : ∀ {A : List (Int × α)}, (∀ q ∈ A, ¬ x.1 < q.1) → ins x A = A ++ [x]
  | [], _ => rfl
  | y :: r, h => by
    unfold ins
    rw [if_neg (h y (by simp)), ins_end (fun q hq => h q (by simp [hq]))]
    rfl
theorem ins_snoc_some {α : Type} {x y : Int × α} : ∀ {A : List (Int × α)}, (∃ q ∈ A, x.1 < q.1) → ins x (A ++ [y]) = ins x A ++ [y]
  | [], h => by simp at h
  | z :: r, h => by
    rw [List.cons_append]
    unfold ins
    split
    · rfl
    · rename_i hz
      obtain ⟨q, hq, hl⟩ := h
      rcases List.mem_cons.1 hq with rfl | hq
      · exact absurd hl hz
      · rw [ins_snoc_some ⟨q, hq, hl⟩]
        rfl
theorem ins_snoc_new {α : Type} {x y : Int × α} {A : List (Int × α)} (h : ∀ q ∈ A, ¬ x.1 < q.1) (hy : x.1 < y.1) : ins x (A ++ [y]) = (A ++ [x]) ++ [y] := by
  induction A with
  | nil => simp [ins, hy]
  | cons z r ih =>
    rw [List.cons_append]
    unfold ins
    rw [if_neg (h z (by simp)), ih (fun q hq => h q (by simp [hq]))]
    rfl
end Go.Proofs.Ytagbenjaidikmaa
