/-
  A field of a field, plainly.
-/
import Derived.Test.YtokmplebajgckaaKI
namespace Go.Proofs.Ytokmplebajgckaa
open Go.RowKit
set_option linter.unusedVariables false
set_option linter.unusedSimpArgs false

theorem idx_bound : ∀ (R : Byts8) (c : UInt8), Lib.indexByte R c = -1 ∨ (0 ≤ Lib.indexByte R c ∧ Lib.indexByte R c < R.length)
  | [], c => .inl rfl
  | b :: l, c => by
    unfold Lib.indexByte
    by_cases h : (b == c) = true
    · rw [if_pos h]
      exact .inr ⟨by omega, by simp⟩
    · rw [if_neg h]
      rcases idx_bound l c with h2 | h2
      · rw [h2]
        exact .inl rfl
      · rw [if_neg (by simp; omega)]
        exact .inr ⟨by omega, by simp; omega⟩
theorem rowP_some : ∀ (R nm : Byts8) (l : List Int), rowP R nm = some l → l.length = nm.length ∧ ∀ p ∈ l, 0 ≤ p ∧ p < R.length
  | R, [], l, h => by
    simp only [rowP, Option.some.injEq] at h
    subst h
    simp
  | R, b :: nm, l, h => by
    rw [rowP_cons] at h
    by_cases h0 : Lib.indexByte R b = -1
    · rw [if_pos h0] at h
      cases h
    · rw [if_neg h0] at h
      cases hr : rowP R nm with
      | none => rw [hr] at h; cases h
      | some m =>
        rw [hr] at h
        simp only [Option.map_some, Option.some.injEq] at h
        subst h
        have ih := rowP_some R nm m hr
        refine ⟨by simp [ih.1], fun p hp => ?_⟩
        rcases List.mem_cons.1 hp with rfl | hp
        · rcases idx_bound R b with h1 | h1
          · exact absurd h1 h0
          · exact h1
        · exact ih.2 p hp
theorem first_some (nm : Byts8) : ∀ (RS : List Byts8) (n : Nat), (∀ R ∈ RS, R.length = n) → (firstRow nm RS).length ≤ nm.length ∧ ∀ p ∈ firstRow nm RS, 0 ≤ p ∧ p < n
  | [], n, _ => by simp [firstRow]
  | R :: RS, n, h => by
    unfold firstRow
    cases hr : rowP R nm with
    | none => exact first_some nm RS n (fun R hR => h R (by simp [hR]))
    | some l =>
      have h1 := rowP_some R nm l hr
      have h2 := h R (by simp)
      exact ⟨by rw [h1.1]; exact Nat.le_refl _, fun p hp => by have := h1.2 p hp; rw [h2] at this; exact this⟩
theorem cut_len (n : Nat) (h2 : 2 ≤ n) (h4 : n ≤ 4) : ∀ R ∈ rows3.map (cutR n), R.length = n := by
  rcases (by omega : n = 2 ∨ n = 3 ∨ n = 4) with rfl | rfl | rfl <;> decide
theorem places_ok (nm : Byts8) (n : Nat) (h2 : 2 ≤ n) (h4 : n ≤ 4) : (placesP nm n).length ≤ 4 ∧ ∀ p ∈ placesP nm n, 0 ≤ p ∧ p < n := by
  unfold placesP
  by_cases h : 4 < nm.length
  · rw [if_pos h]
    simp
  · rw [if_neg h]
    have := first_some nm (rows3.map (cutR n)) n (cut_len n h2 h4)
    exact ⟨by omega, this.2⟩
/-- What a field that there is has. -/
theorem field_ok (t : Ty) (nm : Byts8) : ((fieldP t nm).2.2 ≠ 0 ∧ (fieldP t nm).2.1 = []) ∨ ∃ n : Nat, t.2 = n ∧ 2 ≤ n ∧ n ≤ 4 ∧ mayP t = true ∧ valuP t = true ∧ fieldP t nm = (⟨t.1, ((placesP nm n).length : Int)⟩, placesP nm n, 0) ∧ placesP nm n ≠ [] := by
  unfold fieldP
  cases hm : mayP t with
  | false => rw [if_pos rfl]; exact .inl ⟨by decide, rfl⟩
  | true =>
    rw [if_neg (by decide)]
    by_cases hp : plnP t = true ∨ valuP t = false
    · rw [if_pos hp]; exact .inl ⟨by decide, rfl⟩
    · rw [if_neg hp]
      by_cases hl : placesP nm t.2.toNat = []
      · rw [if_pos hl]; exact .inl ⟨by decide, rfl⟩
      · rw [if_neg hl]
        have hv : valuP t = true := by
          cases hv : valuP t with
          | true => rfl
          | false => exact absurd (.inr hv) hp
        have hz := valu_size hm hv
        have h1 : t.2 ≠ 1 := fun e => hp (.inl (by unfold plnP; simp [e]))
        exact .inr ⟨t.2.toNat, by omega, by omega, by omega, rfl, hv, rfl, hl⟩
/-- A letter of the first row. -/
def lett (p : Nat) : UInt8 := [120, 121, 122, 119].getD p 0
theorem lett_idx (n : Nat) (h2 : 2 ≤ n) (h4 : n ≤ 4) (p : Nat) (hp : p < n) : Lib.indexByte (cutR n row0) (lett p) = p := by
  rcases (by omega : n = 2 ∨ n = 3 ∨ n = 4) with rfl | rfl | rfl
  · rcases (by omega : p = 0 ∨ p = 1) with rfl | rfl <;> decide
  · rcases (by omega : p = 0 ∨ p = 1 ∨ p = 2) with rfl | rfl | rfl <;> decide
  · rcases (by omega : p = 0 ∨ p = 1 ∨ p = 2 ∨ p = 3) with rfl | rfl | rfl | rfl <;> decide
theorem lett_row (n : Nat) (h2 : 2 ≤ n) (h4 : n ≤ 4) : ∀ ps : List Nat, (∀ p ∈ ps, p < n) → rowP (cutR n row0) (ps.map lett) = some (ps.map (fun p : Nat => (p : Int)))
  | [], _ => rfl
  | p :: ps, h => by
    rw [List.map_cons, rowP_cons, lett_idx n h2 h4 p (h p (by simp)), if_neg (by omega), lett_row n h2 h4 ps (fun q hq => h q (by simp [hq]))]
    rfl
theorem field_lett (t : Ty) (n : Nat) (hn : t.2 = n) (h2 : 2 ≤ n) (h4 : n ≤ 4) (hm : mayP t = true) (hv : valuP t = true) (ps : List Nat) (hp : ∀ p ∈ ps, p < n) (hl : ps.length ≤ 4) (hne : ps ≠ []) :
    fieldP t (ps.map lett) = (⟨t.1, (ps.length : Int)⟩, ps.map (fun p : Nat => (p : Int)), 0) := by
  have hpl : placesP (ps.map lett) n = ps.map (fun p : Nat => (p : Int)) := by
    unfold placesP
    rw [if_neg (by simp; omega)]
    rw [show rows3.map (cutR n) = cutR n row0 :: [row1, row2].map (cutR n) from rfl]
    unfold firstRow
    rw [lett_row n h2 h4 ps hp]
  unfold fieldP
  rw [if_neg (by rw [hm]; decide), if_neg (by rw [hv]; unfold plnP; simp; omega), show t.2.toNat = n by omega, hpl, if_neg (by simpa using hne)]
  simp
end Go.Proofs.Ytokmplebajgckaa
