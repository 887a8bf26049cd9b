/-
  The layer does something; tokens that are the same, places and lines among it.
-/
import Derived.Test.YtinnikggaflpdaaDoorZZ
namespace Go.Proofs.YtinnikggaflpdaaDoor
open Go.RowKit
set_option linter.unusedVariables false
set_option linter.unusedSimpArgs false

theorem expT_stay {E : Env} {pl ln : Int} {wi : List Byts8} {t : Tok} (h : (wi.contains t.text || (E t.text).isNone) = true) (f d : Nat) : expT E pl ln f wi t d = some ([⟨t.kind, t.text, t.num, pl, ln⟩], d) := by
  cases f with
  | zero => unfold expT; rw [if_pos h]
  | succ f => unfold expT; rw [if_pos h]
theorem expT_go {E : Env} {pl ln : Int} {wi : List Byts8} {t : Tok} (h : (wi.contains t.text || (E t.text).isNone) = false) (f d : Nat) (hd : d < 2048) : expT E pl ln (f + 1) wi t d = expL (expT E pl ln f (t.text :: wi)) ((E t.text).getD []) (d + 1) := by
  conv => lhs; unfold expT
  rw [if_neg (by rw [h]; decide), if_neg (by omega)]
def wk : Byts8 := [35, 100, 101, 102, 105, 110, 101, 32, 78, 32, 51, 10, 78, 32, 78]
def wkL : List Tok := [⟨4, [35], 0, 0, 0⟩, ⟨1, [100, 101, 102, 105, 110, 101], 0, 1, 0⟩, ⟨1, [78], 0, 8, 0⟩, ⟨2, [51], 196608, 10, 0⟩, ⟨1, [78], 0, 12, 1⟩, ⟨1, [78], 0, 14, 1⟩]
set_option maxRecDepth 100000 in
theorem wk_lex : lexP wk = (wkL, 0, 0) := by
  unfold lexP
  rw [if_neg (by decide), lexA_fuel 15 _ _ _ _ (by decide)]
  kernel_rfl
set_option maxRecDepth 100000 in
theorem fresh_N : freshP [78] = true := by
  have h : lexP [78] = ([⟨1, [78], 0, 0, 0⟩], 0, 0) := by
    unfold lexP
    rw [if_neg (by decide), lexA_fuel 1 _ _ _ _ (by decide)]
    kernel_rfl
  unfold freshP
  rw [h]
  rfl
theorem wk_told (E : Env) (tl : List Tok) (p : Int) (h1 : E [78] = some [⟨2, [51], 196608, 10, 0⟩]) (h2 : E [51] = none) (hl : tl.length ≤ 2047) : toldP E tl ⟨1, [78], 0, p, 1⟩ = some (tl ++ [⟨2, [51], 196608, p, 1⟩]) := by
  have e : expT E p 1 2049 [] ⟨1, [78], 0, p, 1⟩ 0 = some ([⟨2, [51], 196608, p, 1⟩], 1) := by
    rw [show (2049 : Nat) = 2048 + 1 from rfl, expT_go (by rw [h1]; rfl) 2048 0 (by omega)]
    rw [h1]
    simp only [Option.getD_some, expL]
    rw [expT_stay (by rw [h2]; rfl)]
    rfl
  unfold toldP
  rw [e]
  simp only [List.length_cons, List.length_nil]
  rw [if_pos (by omega)]
theorem wk_run : runP wk = ([⟨2, [51], 196608, 12, 1⟩, ⟨2, [51], 196608, 14, 1⟩], 0, 0) := by
  have hr : readP true beginE [] [] (linesP wkL) = (([⟨2, [51], 196608, 12, 1⟩, ⟨2, [51], 196608, 14, 1⟩], []), 0, 0) := by
    have e1 : linesP wkL = [[⟨4, [35], 0, 0, 0⟩, ⟨1, [100, 101, 102, 105, 110, 101], 0, 1, 0⟩, ⟨1, [78], 0, 8, 0⟩, ⟨2, [51], 196608, 10, 0⟩], [⟨1, [78], 0, 12, 1⟩, ⟨1, [78], 0, 14, 1⟩]] := by kernel_rfl
    rw [e1, readP]
    generalize some (wholeL _) = W1
    have e2 : obeyP (setE beginE wLine W1) [] [⟨1, [100, 101, 102, 105, 110, 101], 0, 1, 0⟩, ⟨1, [78], 0, 8, 0⟩, ⟨2, [51], 196608, 10, 0⟩] true = some (setE (setE beginE wLine W1) [78] (some [⟨2, [51], 196608, 10, 0⟩]), []) := by
      simp only [obeyP]
      rw [if_neg (by decide), if_neg (by decide), if_neg (by decide), if_neg (by decide), if_neg (by decide), if_neg (by decide), if_pos (by decide)]
      show Option.map (fun F => (F, ([] : List Part))) (if ([(⟨1, [78], 0, 8, 0⟩ : Tok), ⟨2, [51], 196608, 10, 0⟩] = [] ∨ freshP [78] = false) then none else if (setE beginE wLine W1 [78]).isSome = true then none else some (setE (setE beginE wLine W1) [78] (some [⟨2, [51], 196608, 10, 0⟩]))) = _
      rw [if_neg (by rw [fresh_N]; simp), if_neg (show ¬ (setE beginE wLine W1 [78]).isSome = true from fun h => by have h0 : setE beginE wLine W1 [78] = none := rfl; rw [h0] at h; cases h)]
      rfl
    rw [if_pos (by decide)]
    simp only [List.tail_cons]
    rw [e2]
    simp only
    rw [readP, if_neg (by decide), if_neg (by decide)]
    generalize some (wholeL _) = W2
    have e3 : lineP (setE (setE (setE beginE wLine W1) [78] (some [⟨2, [51], 196608, 10, 0⟩])) wLine W2) [] [⟨1, [78], 0, 12, 1⟩, ⟨1, [78], 0, 14, 1⟩] = ([⟨2, [51], 196608, 12, 1⟩, ⟨2, [51], 196608, 14, 1⟩], 0, 0) := by
      rw [lineP, wk_told _ _ _ rfl rfl (by simp)]
      simp only
      rw [lineP, wk_told _ _ _ rfl rfl (by simp)]
      rfl
    rw [e3]
    rw [if_neg (by decide)]
    rfl
  unfold runP
  rw [wk_lex]
  simp only
  rw [if_neg (by simp), hr]
  simp

set_option maxHeartbeats 1000000 in
set_option maxRecDepth 100000 in
theorem wakes11_any (w : World) (m : Int) (hS : Std w m) : Calls Tryd.prog 9 #[] w fun e w' => e = .returned (.bool true) ∧ Ext w w' := by
  have HL : Hid (Calls Tryd.prog 10 #[.string ⟨#[35, 100, 101, 102, 105, 110, 101, 32, 78, 32, 51, 10, 78, 32, 78]⟩] w fun e w' => ∃ b off cap, e = .returned (.tuple #[.slice (some ⟨b, off, none⟩) 2 cap, .agg #[.int .i64 0, .int .i64 0]]) ∧ 2 ≤ cap ∧ Ext w w' ∧
      w'.cell? ⟨b, off + 1, none⟩ = some (.string ⟨#[51]⟩) ∧ w'.cell? ⟨b, off + 8, none⟩ = some (.int .i64 14)) := by
    have HL := run2_any ⟨#[35, 100, 101, 102, 105, 110, 101, 32, 78, 32, 51, 10, 78, 32, 78]⟩ w m hS
    rw [show (⟨#[35, 100, 101, 102, 105, 110, 101, 32, 78, 32, 51, 10, 78, 32, 78]⟩ : ByteArray).data.toList = wk from rfl, wk_run] at HL
    refine HL.mono ?_
    rintro e w1 ⟨ao, cap, rfl, hown, hx⟩
    obtain ⟨_, _, e0, _, hc, _⟩ := hown.shape
    cases e0
    obtain ⟨b, off, rfl, t0⟩ := hown.tr.at 0 (by decide)
    obtain ⟨b', off', e1, t1⟩ := hown.tr.at 1 (by decide)
    cases e1
    exact ⟨b, off, cap, rfl, hc, hx, t0.text, t1.place⟩
  clear hS
  go_enter Tryd.func9, Tryd.ntmps9
  go_wp2_with fail
  refine (unhide HL).mono ?_
  rintro e w1 ⟨b, off, cap, rfl, hcap, hx, c1, c2⟩
  have hc : ∀ (o : Obj) j u, w1.cell? ⟨b, j, none⟩ = some u → (w1.alloc o).cell? ⟨b, j, none⟩ = some u := fun o j u hu => by
    rw [((Ext.refl w1).alloc o).cell (p := ⟨b, j, none⟩) (World.block_lt_of_cell? w1 _ hu)]
    exact hu
  have d1 := fun o => hc o _ _ c1
  have d2 := fun o => hc o _ _ c2
  have X := hide hx
  clear hx hc c1 c2 HL
  go_wp2
  go_ret
  exact ⟨rfl, (unhide X).alloc _⟩
end Go.Proofs.YtinnikggaflpdaaDoor
