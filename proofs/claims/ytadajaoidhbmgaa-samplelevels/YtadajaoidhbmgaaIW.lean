/-
  Images: the walk of putRefusal; a level more, or another one, in a row of the call's own. What the dump lacks is left out.
-/
import Derived.Test.YtadajaoidhbmgaaIV
namespace Go.Proofs.Ytadajaoidhbmgaa
open Go.RowKit
set_option linter.unusedVariables false
set_option linter.unusedSimpArgs false

/-- What Put answers. -/
def putE (I : Img) (lv f W H : Int) (n : Nat) : Int :=
  if okB (sizI I.f) I = false then 180 else if lv < 0 ∨ 7 ≤ lv ∨ sizI f = 0 ∨ sideB W = false ∨ sideB H = false then 2
  else if n ≠ 0 ∧ (n : Int) ≠ W * H * sizI f then 7 else if lv ≠ 0 ∧ I.L.length ≠ 0 ∧ f ≠ I.f then 181 else 0

/-- A block of another type is no block of levels. -/
theorem blk_ne {w : World} {b g : Nat} {cs cur : Array Value} {t : TypeId} (h : Blk w b cs t) (ht : t ≠ 46) (hg : w.heap[g]? = some (.cells cur 46 (0, 0))) : b ≠ g := by
  intro e
  rw [← e, show w.heap[b]? = some (.cells cs t (0, 0)) from h] at hg
  simp at hg
  exact ht hg.2
section
variable {w w' : World} {base : Nat} {v v' : Value} {L : List Ent}
/-- What stands in a row's block, if there is one. -/
theorem LO.block (h : LO w base v L) {g : Nat} (hg : v.ownBlock = some g) : ∃ cur, w.heap[g]? = some (.cells cur 46 (0, 0)) := by
  rcases h.own.2 with ⟨e, _⟩ | ⟨g2, c, cur, e, _, hg2, _⟩
  · rw [e] at hg; cases hg
  · rw [e] at hg
    cases hg
    exact ⟨cur, hg2⟩
theorem Own.by {xs : List Int} {u : Value} (h : Own .u8 w base 5 u xs) (hL : LO w base v L) (hg : w.grownBy w' v.ownBlock) : Own .u8 w' base 5 u xs := by
  cases hv : v.ownBlock with
  | none =>
    rw [hv] at hg
    refine World.ownsRow.kept h hg ?_
    cases u.ownBlock <;> simp
  | some g =>
    rw [hv] at hg
    obtain ⟨cur, hc⟩ := hL.block hv
    exact h.grown hg (own_ne hc h)
theorem Blk.by {b : Nat} {cs : Array Value} {t : TypeId} (h : Blk w b cs t) (ht : t ≠ 46) (hL : LO w base v L) (hg : w.grownBy w' v.ownBlock) : Blk w' b cs t := by
  cases hv : v.ownBlock with
  | none =>
    rw [hv] at hg
    exact (hg.block b h.lt (by simp)).trans h
  | some g =>
    rw [hv] at hg
    obtain ⟨cur, hc⟩ := hL.block hv
    exact h.grown hg (blk_ne h ht hc)
/-- A block of a level that stands alone, not in the row. -/
theorem Blk.byL {b : Nat} {cs : Array Value} {t : TypeId} (h : Blk w b cs t) (hb : b < base) (hL : LO w base v L) (hg : w.grownBy w' v.ownBlock) : Blk w' b cs t := by
  refine (hg.block b h.lt fun e => ?_).trans h
  have := (World.ownsRow.lt hL.own b e.symm).1
  omega
theorem LO.app {y : Ent} (h : LO w base v L) (hown : w'.ownsRow base 46 3 v' (L ++ [y]).length (lcells (L ++ [y]))) (hg : w.grownBy w' v.ownBlock) (hy : Own .u8 w base 5 y.2.2.1 y.2.2.2)
    (hal : ∀ p ∈ L, ∀ b, p.2.2.1.ownBlock = some b → y.2.2.1.ownBlock ≠ some b) : LO w' base v' (L ++ [y]) := by
  refine ⟨hown, fun p hp => ?_, List.pairwise_append.2 ⟨h.alone, by simp, fun p hp q hq => ?_⟩⟩
  · rcases List.mem_append.1 hp with hp | hp
    · exact (h.bys p hp).by h hg
    · simp at hp
      subst hp
      exact hy.by h hg
  · simp at hq
    subst hq
    exact hal p hp
/-- One level is set. -/
theorem LO.setAt {g n cap : Nat} {A B : List Ent} {x : Ent} (h : LO w base (.slice (some ⟨g, 0, none⟩) n cap) (A ++ x :: B)) (y : Ent) (hy : Own .u8 w base 5 y.2.2.1 y.2.2.2)
    (hal : ∀ p ∈ A ++ B, ∀ b, p.2.2.1.ownBlock = some b → y.2.2.1.ownBlock ≠ some b) :
    LO (((w.setCell ⟨g, A.length * 3, none⟩ (.int .i64 y.1)).setCell ⟨g, A.length * 3 + 1, none⟩ (.int .i64 y.2.1)).setCell ⟨g, A.length * 3 + 2, none⟩ y.2.2.1) base (.slice (some ⟨g, 0, none⟩) n cap) (A ++ y :: B) := by
  have hn : n = (A ++ x :: B).length := by
    rcases h.own.2 with ⟨e, _⟩ | ⟨g2, c, cur, e, _⟩
    · cases e
    · cases e; rfl
  have hl2 : (A ++ y :: B).length = (A ++ x :: B).length := by simp
  obtain ⟨h1, g1⟩ := World.ownsRow.stored (hn ▸ h.own) (A.length * 3) (.int .i64 y.1)
  obtain ⟨h2, g2⟩ := World.ownsRow.stored h1 (A.length * 3 + 1) (.int .i64 y.2.1)
  obtain ⟨h3, g3⟩ := World.ownsRow.stored h2 (A.length * 3 + 2) y.2.2.1
  rw [lcells_set3] at h3
  have hg := (g1.trans g2).trans g3
  refine ⟨by rw [hl2, hn]; exact h3, fun p hp => ?_, ?_⟩
  · rcases List.mem_append.1 hp with hp | hp
    · exact (h.bys p (List.mem_append_left _ hp)).by h hg
    · rcases List.mem_cons.1 hp with rfl | hp
      · exact hy.by h hg
      · exact (h.bys p (List.mem_append_right _ (List.mem_cons_of_mem _ hp))).by h hg
  · have ha := List.pairwise_append.1 h.alone
    have hb := List.pairwise_cons.1 ha.2.1
    refine List.pairwise_append.2 ⟨ha.1, List.pairwise_cons.2 ⟨fun q hq b h1 h2 => ?_, hb.2⟩, fun p hp q hq b k1 => ?_⟩
    · exact hal q (List.mem_append_right _ hq) b h2 h1
    · rcases List.mem_cons.1 hq with rfl | hq
      · exact hal p (List.mem_append_left _ hp) b k1
      · exact ha.2.2 p hp q (List.mem_cons_of_mem _ hq) b k1
end
end Go.Proofs.Ytadajaoidhbmgaa
