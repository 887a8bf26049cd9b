/-
  Vertices out of bytes: what a row that is there holds.
-/
import Derived.Test.YtmigakbccmkjoaaFEg
namespace Go.Proofs.Ytmigakbccmkjoaa
open Go.RowKit
set_option linter.unusedVariables false
set_option linter.unusedSimpArgs false

/-- A row that is there: how many vertices, each of them. -/
theorem row_ok {xs : List Int} {A : Arr} {fi co : Int} (h : rowE xs A fi co = 0) : arrB A = true ∧ 0 ≤ fi ∧ fi ≤ 65535 ∧ 0 ≤ co ∧ co ≤ 256 ∧ rowF xs A fi co = fstL (fun i => vtxF xs A (fi.toNat + i)) co.toNat ∧ ∀ i, i < co.toNat → (vtxF xs A (fi.toNat + i)).isSome = true := by
  have hF : rowF xs A fi co = fstL (fun i => vtxF xs A (fi.toNat + i)) co.toNat := by unfold rowF; rw [if_pos h]
  unfold rowE at h
  by_cases h1 : arrB A = false ∨ fi < 0 ∨ 65535 < fi ∨ co < 0 ∨ 65535 < co
  · rw [if_pos h1] at h; exact absurd h (by decide)
  · rw [if_neg h1] at h
    by_cases h2 : 256 < co
    · rw [if_pos h2] at h; exact absurd h (by decide)
    · rw [if_neg h2] at h
      by_cases h3 : (List.range co.toNat).all (fun i => (vtxF xs A (fi.toNat + i)).isSome) = true
      · have hA : arrB A = true := by
          cases hh : arrB A with
          | true => rfl
          | false => exact absurd (.inl hh) h1
        refine ⟨hA, by omega, by omega, by omega, by omega, hF, fun i hi => ?_⟩
        rw [List.all_eq_true] at h3
        exact h3 i (by simpa using hi)
      · rw [if_neg h3] at h; exact absurd h (by decide)
theorem fstL_get (f : Nat → Option (Nat → Int)) (n k : Nat) (h : k < n) (h2 : k < (fstL f n).length) : (fstL f n)[k] = (f k).getD nul := by simp [fstL]

theorem fstL_getD (f : Nat → Option (Nat → Int)) (n k : Nat) (h : k < n) : (fstL f n).getD k nul = (f k).getD nul := by simp [fstL, h]
/-- The cells of a row's vector. -/
theorem OV.cells {w : World} {base : Nat} {ao : Option Addr} {n cap : Nat} {L : List (Nat → Int)} (h : OV w base (.slice ao n cap) L) (k : Nat) (hk : k < L.length) : ∃ g, ao = some ⟨g, 0, none⟩ ∧ base ≤ g ∧ g < w.heap.size ∧ w.cell? ⟨g, k * 4, none⟩ = some (.int .i32 (L.getD k nul 0)) ∧ w.cell? ⟨g, k * 4 + 1, none⟩ = some (.int .i32 (L.getD k nul 1)) ∧ w.cell? ⟨g, k * 4 + 2, none⟩ = some (.int .i32 (L.getD k nul 2)) ∧ w.cell? ⟨g, k * 4 + 3, none⟩ = some (.int .i32 (L.getD k nul 3)) := by
  obtain ⟨g, hg, hb, hl, hc⟩ := GO.at vEnc_len h k hk
  have e : L.getD k nul = L[k] := by simp [hk]
  rw [e]
  exact ⟨g, hg, hb, hl, hc 0 _ (by omega) rfl, hc 1 _ (by omega) rfl, hc 2 _ (by omega) rfl, hc 3 _ (by omega) rfl⟩
end Go.Proofs.Ytmigakbccmkjoaa
