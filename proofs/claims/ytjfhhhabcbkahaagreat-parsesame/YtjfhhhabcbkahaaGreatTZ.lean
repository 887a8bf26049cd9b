/-
  Where the next token stands; the levels' table.
-/
import Derived.Test.YtjfhhhabcbkahaaGreatTP
import Derived.Great.BuildSlice
namespace Go.Proofs.YtjfhhhabcbkahaaGreat
open Go.RowKit
set_option linter.unusedVariables false
set_option linter.unusedSimpArgs false

section
variable {w : World} {pb : Nat} {L : List Tok} {tv lv : Value} {i : Nat}
set_option maxHeartbeats 1000000 in
set_option maxRecDepth 100000 in
theorem here_any (h : PE w pb L tv lv i) (hne : 0 < L.length) (hi : i ≤ L.length) (hL : L.length ≤ 1000000000) : Calls Tryz.prog 42 #[.pointer (some ⟨pb, 0, none⟩)] w fun e w' => e = .returned (.int .i64 (hereP L i)) ∧ Ext w w' := by
  have HP := hide h
  obtain ⟨ta, tc, rfl, _⟩ := h.toks.1
  have c0 := h.blk.cell (i := 0) (v := .slice ta L.length tc) rfl
  have c1 := h.blk.cell (i := 1) (v := .int .i64 i) rfl
  clear h
  unfold hereP
  by_cases hlt : i < L.length
  · rw [if_pos hlt, tk_get _ hlt]
    obtain ⟨b, off, rfl, t⟩ := (unhide HP).toks.1.at i hlt
    have k3 := t.place
    have d1 : decide ((i : Int) < (L.length : Int)) = true := decide_eq_true (by omega)
    have i0 : (0 : Int) ≤ (i : Int) ∧ (i : Int) < (L.length : Int) := ⟨by omega, by omega⟩
    clear t
    generalize L[i] = t at *
    go_enter Tryz.func42, Tryz.ntmps42
    go_wp2
    go_quiet (fail)
    go_wp2
    go_quiet (fail)
    go_wp2
    go_ret
    exact ⟨rfl, ((Ext.refl w).drewN _).drewN _⟩
  · rw [if_neg hlt]
    have hl1 : L.length - 1 < L.length := by omega
    rw [tk_get _ hl1]
    obtain ⟨b, off, rfl, t⟩ := (unhide HP).toks.1.at (L.length - 1) hl1
    have k0 := t.kind; have k1 := t.text; have k2 := t.num; have k3 := t.place; have k4 := t.line
    have d1 : decide ((i : Int) < (L.length : Int)) = false := decide_eq_false (by omega)
    have q1 : IntKind.i64.wrap ((L.length : Int) - 1) = ((L.length - 1 : Nat) : Int) := by rw [wrapId (by omega) (by omega)]; omega
    have i0 : (0 : Int) ≤ ((L.length - 1 : Nat) : Int) ∧ ((L.length - 1 : Nat) : Int) < (L.length : Int) := ⟨by omega, by omega⟩
    have e2 : (L.length : Int) - 1 = ((L.length - 1 : Nat) : Int) := by omega
    have HE2 := hide e2
    clear t e2
    generalize L[L.length - 1] = t at *
    generalize hn1 : L.length - 1 = n1 at *
    have HN1 := hide hn1
    clear hn1
    go_enter Tryz.func42, Tryz.ntmps42
    go_wp2
    go_quiet (fail)
    go_wp2
    go_cut [3] (fun p wc => ∃ w5 tb, w5 = wc ∧ p = .pointer (some ⟨tb, 0, none⟩) ∧ Blk wc tb #[.int .i64 (t).kind, .string ⟨(t).text.toArray⟩, .int .i32 (t).num, .int .i64 (t).place, .int .i64 (t).line] 44 ∧ Ext w wc)
    case first =>
      have hpb := (unhide HP).lt
      have hbb := World.block_lt_of_cell? w _ k0
      simp only at hbb
      obtain ⟨W, hW⟩ : ∃ W, W = (w.drewN (nq + 1)).alloc (.cells #[.int .i64 0, .string ⟨#[]⟩, .int .i32 0, .int .i64 0, .int .i64 0] 44) := ⟨_, rfl⟩
      have XW : Ext w W := by rw [hW]; exact ((Ext.refl w).drewN (nq + 1)).alloc _
      have HBW : Blk W w.heap.size #[.int .i64 0, .string ⟨#[]⟩, .int .i32 0, .int .i64 0, .int .i64 0] 44 := by rw [hW]; exact Blk.new (w.drewN (nq + 1)) _ _
      have HXW := hide XW
      have HBB := hide HBW
      have p0 := ((unhide HP).ext XW).blk.cell (i := 0) (v := .slice (some ⟨b, off, none⟩) L.length tc) rfl
      have ce := fun j u (h : w.cell? ⟨b, j, none⟩ = some u) => (XW.cell (p := ⟨b, j, none⟩) (World.block_lt_of_cell? w _ h)).trans h
      have m0 := ce _ _ k0; have m1 := ce _ _ k1; have m2 := ce _ _ k2; have m3 := ce _ _ k3; have m4 := ce _ _ k4
      have z0 := HBW.cell (i := 0) (v := .int .i64 0) rfl
      have z1 := HBW.cell (i := 1) (v := .string ⟨#[]⟩) rfl
      have z2 := HBW.cell (i := 2) (v := .int .i32 0) rfl
      have z3 := HBW.cell (i := 3) (v := .int .i64 0) rfl
      have z4 := HBW.cell (i := 4) (v := .int .i64 0) rfl
      have fz := fun j => HBW.free j
      have HWW := hide hW
      rw [hW] at p0 m0 m1 m2 m3 m4 z0 z1 z2 z3 z4 fz
      clear hW XW HBW ce
      go_region
      all_goals go_wp2
      all_goals go_meet
      all_goals
        rw [← unhide HWW]
        have hle : w.heap.size ≤ w.heap.size := Nat.le_refl _
        exact ⟨_, w.heap.size, rfl, rfl, ((((((unhide HBB).set 0 _).set 1 _).set 2 _).set 3 _).set 4 _), setX (setX (setX (setX (setX (unhide HXW) hle) hle) hle) hle) hle⟩
    case rest =>
      obtain ⟨w5, tb, rfl, rfl, hB, hX⟩ := hcut
      have r1 := hB.cell (i := 1) (v := .string ⟨t.text.toArray⟩) rfl
      have r3 := hB.cell (i := 3) (v := .int .i64 t.place) rfl
      clear hB
      go_wp2
      go_ret
      refine ⟨?_, hX⟩
      show Ending.returned (.int .i64 (wrap64 (t.place + (t.text.length : Int)))) = _
      simp only [IntKind.wrap_i64, wrap64]
end
end Go.Proofs.YtjfhhhabcbkahaaGreat
