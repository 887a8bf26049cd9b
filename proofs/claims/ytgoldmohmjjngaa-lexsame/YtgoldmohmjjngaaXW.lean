/-
  The layer does something: the tokens of one text. What the dump lacks is left out.
-/
import Derived.Test.YtgoldmohmjjngaaXF
namespace Go.Proofs.Ytgoldmohmjjngaa
open Go.RowKit
set_option linter.unusedSimpArgs false
set_option linter.unusedVariables false

/-- The same as lexA, by fuel: it can be reckoned. -/
def lexF : Nat → Byts8 → Int → Int → Nat → List Tok × Int × Int
  | 0, _, _, _, _ => ([], 0, 0)
  | f + 1, l, a, ln, n =>
    if l.isEmpty = true then ([], 0, 0)
    else if (pieceP l).1 = -1 then lexF f (l.drop (pieceP l).2) (a + (pieceP l).2) (ln + cntL (l.take (pieceP l).2)) n
    else if (tellP (pieceP l).1 (l.take (pieceP l).2) (l.drop (pieceP l).2) n).2 ≠ 0 then ([], (tellP (pieceP l).1 (l.take (pieceP l).2) (l.drop (pieceP l).2) n).2, a)
    else if (lexF f (l.drop (pieceP l).2) (a + (pieceP l).2) (ln + cntL (l.take (pieceP l).2)) (n + 1)).2.1 ≠ 0 then lexF f (l.drop (pieceP l).2) (a + (pieceP l).2) (ln + cntL (l.take (pieceP l).2)) (n + 1)
    else (⟨(pieceP l).1, l.take (pieceP l).2, (tellP (pieceP l).1 (l.take (pieceP l).2) (l.drop (pieceP l).2) n).1, a, ln⟩ :: (lexF f (l.drop (pieceP l).2) (a + (pieceP l).2) (ln + cntL (l.take (pieceP l).2)) (n + 1)).1, 0, 0)
theorem lexA_fuel (f : Nat) : ∀ (l : Byts8) (a ln : Int) (n : Nat), l.length ≤ f → lexA l a ln n = lexF f l a ln n := by
  induction f with
  | zero =>
    intro l a ln n h
    have : l = [] := List.length_eq_zero_iff.1 (by omega)
    subst this
    rw [lexA_nil]
    rfl
  | succ f ih =>
    intro l a ln n h
    by_cases hl : l = []
    · subst hl
      rw [lexA_nil]
      rfl
    have hr := piece_room l hl
    have hd : (l.drop (pieceP l).2).length ≤ f := by rw [List.length_drop]; omega
    rw [lexA_unf, if_neg hl, ih _ _ _ _ hd, ih _ _ _ _ hd, lexF, show l.isEmpty = false by cases l <;> simp_all]
    simp only [Bool.false_eq_true, if_false]

def wakeT : Byts8 := [97, 49, 43, 61, 46, 53, 59, 32, 47, 47, 32, 120]
def wakeL : List Tok := [⟨1, [97, 49], 0, 0, 0⟩, ⟨4, [43, 61], 0, 2, 0⟩, ⟨3, [46, 53], 32768, 4, 0⟩, ⟨4, [59], 0, 6, 0⟩]
set_option maxRecDepth 100000 in
theorem wake_lex : lexP wakeT = (wakeL, 0, 0) := by
  unfold lexP
  rw [if_neg (by decide), lexA_fuel 12 _ _ _ _ (by decide)]
  kernel_rfl

set_option maxHeartbeats 1000000 in
set_option maxRecDepth 100000 in
theorem lexWakes_any (w : World) (m : Int) (hm : w.cell? ⟨0, 0, none⟩ = some (.int .i64 m)) :
    Calls Try.prog 9 #[] w fun e w' => e = .returned (.bool true) ∧ Ext w w' := by
  have HL : Hid (Calls Try.prog 12 #[.string ⟨#[97, 49, 43, 61, 46, 53, 59, 32, 47, 47, 32, 120]⟩] w fun e w' => ∃ b off cap, e = .returned (.tuple #[.slice (some ⟨b, off, none⟩) 4 cap, .agg #[.int .i64 0, .int .i64 0]]) ∧ 4 ≤ cap ∧ Ext w w' ∧
      w'.cell? ⟨b, off + 1, none⟩ = some (.string ⟨#[97, 49]⟩) ∧ w'.cell? ⟨b, off + 5, none⟩ = some (.int .i64 4) ∧ w'.cell? ⟨b, off + 12, none⟩ = some (.int .i32 32768) ∧ w'.cell? ⟨b, off + 13, none⟩ = some (.int .i64 4)) := by
    have HL := lex_any ⟨#[97, 49, 43, 61, 46, 53, 59, 32, 47, 47, 32, 120]⟩ w m hm
    rw [show (⟨#[97, 49, 43, 61, 46, 53, 59, 32, 47, 47, 32, 120]⟩ : ByteArray).data.toList = wakeT from rfl, wake_lex] at HL
    refine HL.mono ?_
    rintro e w1 ⟨ao, cap, rfl, hown, hx⟩
    obtain ⟨_, _, e0, _, hc, _⟩ := hown.shape
    cases e0
    obtain ⟨b, off, rfl, t0⟩ := hown.tr.at 0 (by decide)
    obtain ⟨b', off', e1, t1⟩ := hown.tr.at 1 (by decide)
    cases e1
    obtain ⟨b', off', e2, t2⟩ := hown.tr.at 2 (by decide)
    cases e2
    exact ⟨b, off, cap, rfl, hc, hx, t0.text, t1.kind, t2.num, t2.place⟩
  clear hm
  go_enter Try.func9, Try.ntmps9
  go_wp2_with fail
  refine (unhide HL).mono ?_
  rintro e w1 ⟨b, off, cap, rfl, hcap, hx, c1, c2, c3, c4⟩
  have hc : ∀ (o : Obj) j u, w1.cell? ⟨b, j, none⟩ = some u → (w1.alloc o).cell? ⟨b, j, none⟩ = some u := fun o j u hu => by
    rw [((Ext.refl w1).alloc o).cell (p := ⟨b, j, none⟩) (World.block_lt_of_cell? w1 _ hu)]
    exact hu
  have d1 := fun o => hc o _ _ c1
  have d2 := fun o => hc o _ _ c2
  have d3 := fun o => hc o _ _ c3
  have d4 := fun o => hc o _ _ c4
  have X := hide hx
  clear hx hc c1 c2 c3 c4 HL
  go_wp2
  go_ret
  exact ⟨rfl, (unhide X).alloc _⟩


theorem keepM {w w' : World} {m : Int} (hm : w.cell? ⟨0, 0, none⟩ = some (.int .i64 m)) (hx : Ext w w') : w'.cell? ⟨0, 0, none⟩ = some (.int .i64 m) := by
  rw [hx.cell (p := ⟨0, 0, none⟩) (World.block_lt_of_cell? w _ hm)]
  exact hm
end Go.Proofs.Ytgoldmohmjjngaa
