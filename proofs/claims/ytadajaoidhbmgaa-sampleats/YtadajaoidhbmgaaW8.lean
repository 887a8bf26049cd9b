/-
  The walks of the document's answer for numbers: Number, Signed. What the dump lacks is left out.
-/
import Derived.Test.YtadajaoidhbmgaaW1J
import Derived.Test.YtadajaoidhbmgaaNum
namespace Go.Proofs.Ytadajaoidhbmgaa
open Go.RowKit

theorem numOf_drop (xs : List Int) (k : Nat) (h : k < xs.length) : numOf (xs.drop k) = xs[k] + 256 * numOf (xs.drop (k + 1)) := by
  rw [List.drop_eq_getElem_cons h]
  rfl
theorem Byt.drop {xs : List Int} (h : Byt xs) (p : Nat) : Byt (xs.drop p) := fun x hx => h x (List.mem_of_mem_drop hx)

set_option maxHeartbeats 1000000 in
theorem numb_any (v : Value) (xs : List Int) (w : World) (hr : Row .u8 w v xs) (hm : xs.length ≤ 4) (hB : Byt xs) :
    Calls Try.prog 51 #[v] w fun e w' => e = .returned (.int .u64 (numOf xs)) ∧ w' = w := by
  obtain ⟨ao, cap, rfl, _⟩ := hr.shape
  have HR := hide hr
  clear hr
  go_enter Try.func51, Try.ntmps51
  go_wp2
  go_loop [3, 4] (fun x i => ∃ k : Nat, k ≤ xs.length ∧ i = .int .i64 ((k : Int) - 1) ∧ x = .int .u64 (numOf (xs.drop k))) (fun _ i => (intOf i + 1).toNat)
  case atStart => exact ⟨xs.length, Nat.le_refl _, rfl, by simp [numOf]⟩
  case round =>
    obtain ⟨k, hk, rfl, rfl⟩ := hrel
    by_cases h0 : 0 < k
    · obtain ⟨j, rfl⟩ : ∃ j, k = j + 1 := ⟨k - 1, by omega⟩
      obtain ⟨b, off, rfl, hc⟩ := (unhide HR).at j (by omega)
      have hjl : j < xs.length := by omega
      have hck := hc j hjl
      have hbd := hB xs[j] (List.getElem_mem hjl)
      have HN := hide (numOf_drop xs j hjl)
      have hnb := numOf_le (xs.drop (j + 1)) (hB.drop _) 4 (by simp; omega)
      have ei : (((j + 1 : Nat) : Int) - 1) = (j : Int) := by omega
      rw [ei]
      generalize numOf (xs.drop (j + 1)) = y at *
      have hy0 : 0 ≤ y := hnb.1
      have hy1 : y < 4294967296 := hnb.2
      clear hc hnb ei
      go_wp2
      go_round
      case rel => exact ⟨j, by omega, by go_num, by rw [unhide HN]; go_num⟩
      case measure => simp [intOf]
    · obtain rfl : k = 0 := by omega
      go_wp2
      go_ret
      exact ⟨rfl, rfl⟩

/-- Half of the range of so many bytes. -/
def halfW : Nat → Int
  | 0 => 128
  | 1 => 128
  | n + 2 => 256 * halfW (n + 1)
theorem halfW_pos (n : Nat) (h : n ≤ 4) : 0 < halfW n ∧ halfW n ≤ 2147483648 := by
  match n, h with
  | 0, _ => decide
  | 1, _ => decide
  | 2, _ => decide
  | 3, _ => decide
  | 4, _ => decide

end Go.Proofs.Ytadajaoidhbmgaa
