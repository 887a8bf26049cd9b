/-
  The layer does something: the tokens of one text. What the dump lacks is left out.
-/
import Derived.Test.YtdcamcpffiilbaaDoorXF
namespace Go.Proofs.YtdcamcpffiilbaaDoor
open Go.RowKit
set_option linter.unusedSimpArgs false
set_option linter.unusedVariables false

/-- The same as lexA, by fuel: it can be reckoned. -/
def lexF : Nat → Byts8 → Int → Int → Nat → List Tok × Int × Int
  | 0, _, _, _, _ => ([], 0, 0)
  | f + 1, l, a, ln, n =>
    if l.isEmpty = true then ([], 0, 0)
    else if (pieceP l).1 = -1 then lexF f (l.drop (pieceP l).2) (a + (pieceP l).2) (ln + cntL (l.take (pieceP l).2)) n
    else if (tellP (pieceP l).1 (l.take (pieceP l).2) (l.drop (pieceP l).2) n).2 ≠ 0 then ([], (tellP (pieceP l).1 (l.take (pieceP l).2) (l.drop (pieceP l).2) n).2, a)
    else if (lexF f (l.drop (pieceP l).2) (a + (pieceP l).2) (ln + cntL (l.take (pieceP l).2)) (n + 1)).2.1 ≠ 0 then lexF f (l.drop (pieceP l).2) (a + (pieceP l).2) (ln + cntL (l.take (pieceP l).2)) (n + 1)
    else (⟨(pieceP l).1, l.take (pieceP l).2, (tellP (pieceP l).1 (l.take (pieceP l).2) (l.drop (pieceP l).2) n).1, a, ln⟩ :: (lexF f (l.drop (pieceP l).2) (a + (pieceP l).2) (ln + cntL (l.take (pieceP l).2)) (n + 1)).1, 0, 0)
theorem lexA_fuel (f : Nat) : ∀ (l : Byts8) (a ln : Int) (n : Nat), l.length ≤ f → lexA l a ln n = lexF f l a ln n := by
  induction f with
  | zero =>
    intro l a ln n h
    have : l = [] := List.length_eq_zero_iff.1 (by omega)
    subst this
    rw [lexA_nil]
    rfl
  | succ f ih =>
    intro l a ln n h
    by_cases hl : l = []
    · subst hl
      rw [lexA_nil]
      rfl
    have hr := piece_room l hl
    have hd : (l.drop (pieceP l).2).length ≤ f := by rw [List.length_drop]; omega
    rw [lexA_unf, if_neg hl, ih _ _ _ _ hd, ih _ _ _ _ hd, lexF, show l.isEmpty = false by cases l <;> simp_all]
    simp only [Bool.false_eq_true, if_false]

def wakeT : Byts8 := [97, 49, 43, 61, 46, 53, 59, 32, 47, 47, 32, 120]
def wakeL : List Tok := [⟨1, [97, 49], 0, 0, 0⟩, ⟨4, [43, 61], 0, 2, 0⟩, ⟨3, [46, 53], 32768, 4, 0⟩, ⟨4, [59], 0, 6, 0⟩]
set_option maxRecDepth 100000 in
theorem wake_lex : lexP wakeT = (wakeL, 0, 0) := by
  unfold lexP
  rw [if_neg (by decide), lexA_fuel 12 _ _ _ _ (by decide)]
  kernel_rfl


theorem keepM {w w' : World} {m : Int} (hm : w.cell? ⟨0, 0, none⟩ = some (.int .i64 m)) (hx : Ext w w') : w'.cell? ⟨0, 0, none⟩ = some (.int .i64 m) := by
  rw [hx.cell (p := ⟨0, 0, none⟩) (World.block_lt_of_cell? w _ hm)]
  exact hm
end Go.Proofs.YtdcamcpffiilbaaDoor
