/-
  The document's fields.
-/
import Derived.Test.YtokmplebajgckaaKI
import Derived.Test.YtokmplebajgckaaKR
import Derived.Deep.RegionWith
namespace Go.Proofs.Ytokmplebajgckaa
open Go.RowKit
set_option linter.unusedVariables false
set_option linter.unusedSimpArgs false

/-- The place of a letter in a row, the first four. -/
def plc (x : ByteArray) (b : UInt8) : Int := if x.get! 0 = b then 0 else if x.get! 1 = b then 1 else if x.get! 2 = b then 2 else if x.get! 3 = b then 3 else 9
theorem plc_idx0 (n : Nat) (h2 : 2 ≤ n) (h4 : n ≤ 4) (b : UInt8) : Lib.indexByte (cutR n row0) b = if plc row0 b < n then plc row0 b else -1 := by
  have e : plc row0 b = if (120 : UInt8) = b then 0 else if (121 : UInt8) = b then 1 else if (122 : UInt8) = b then 2 else if (119 : UInt8) = b then 3 else 9 := rfl
  rw [e]
  rcases (by omega : n = 2 ∨ n = 3 ∨ n = 4) with rfl | rfl | rfl
  · rw [show cutR 2 row0 = [120, 121] by decide]
    by_cases h0 : (120 : UInt8) = b
    · subst h0; decide
    · by_cases h1 : (121 : UInt8) = b
      · subst h1; decide
      · simp [Lib.indexByte, h0, h1]
        split <;> (try split) <;> decide
  · rw [show cutR 3 row0 = [120, 121, 122] by decide]
    by_cases h0 : (120 : UInt8) = b
    · subst h0; decide
    · by_cases h1 : (121 : UInt8) = b
      · subst h1; decide
      · by_cases h2 : (122 : UInt8) = b
        · subst h2; decide
        · simp [Lib.indexByte, h0, h1, h2]
          split <;> decide
  · rw [show cutR 4 row0 = [120, 121, 122, 119] by decide]
    by_cases h0 : (120 : UInt8) = b
    · subst h0; decide
    · by_cases h1 : (121 : UInt8) = b
      · subst h1; decide
      · by_cases h2 : (122 : UInt8) = b
        · subst h2; decide
        · by_cases h3 : (119 : UInt8) = b
          · subst h3; decide
          · simp [Lib.indexByte, h0, h1, h2, h3]
theorem plc_idx1 (n : Nat) (h2 : 2 ≤ n) (h4 : n ≤ 4) (b : UInt8) : Lib.indexByte (cutR n row1) b = if plc row1 b < n then plc row1 b else -1 := by
  have e : plc row1 b = if (114 : UInt8) = b then 0 else if (103 : UInt8) = b then 1 else if (98 : UInt8) = b then 2 else if (97 : UInt8) = b then 3 else 9 := rfl
  rw [e]
  rcases (by omega : n = 2 ∨ n = 3 ∨ n = 4) with rfl | rfl | rfl
  · rw [show cutR 2 row1 = [114, 103] by decide]
    by_cases h0 : (114 : UInt8) = b
    · subst h0; decide
    · by_cases h1 : (103 : UInt8) = b
      · subst h1; decide
      · simp [Lib.indexByte, h0, h1]
        split <;> (try split) <;> decide
  · rw [show cutR 3 row1 = [114, 103, 98] by decide]
    by_cases h0 : (114 : UInt8) = b
    · subst h0; decide
    · by_cases h1 : (103 : UInt8) = b
      · subst h1; decide
      · by_cases h2 : (98 : UInt8) = b
        · subst h2; decide
        · simp [Lib.indexByte, h0, h1, h2]
          split <;> decide
  · rw [show cutR 4 row1 = [114, 103, 98, 97] by decide]
    by_cases h0 : (114 : UInt8) = b
    · subst h0; decide
    · by_cases h1 : (103 : UInt8) = b
      · subst h1; decide
      · by_cases h2 : (98 : UInt8) = b
        · subst h2; decide
        · by_cases h3 : (97 : UInt8) = b
          · subst h3; decide
          · simp [Lib.indexByte, h0, h1, h2, h3]
theorem plc_idx2 (n : Nat) (h2 : 2 ≤ n) (h4 : n ≤ 4) (b : UInt8) : Lib.indexByte (cutR n row2) b = if plc row2 b < n then plc row2 b else -1 := by
  have e : plc row2 b = if (115 : UInt8) = b then 0 else if (116 : UInt8) = b then 1 else if (112 : UInt8) = b then 2 else if (113 : UInt8) = b then 3 else 9 := rfl
  rw [e]
  rcases (by omega : n = 2 ∨ n = 3 ∨ n = 4) with rfl | rfl | rfl
  · rw [show cutR 2 row2 = [115, 116] by decide]
    by_cases h0 : (115 : UInt8) = b
    · subst h0; decide
    · by_cases h1 : (116 : UInt8) = b
      · subst h1; decide
      · simp [Lib.indexByte, h0, h1]
        split <;> (try split) <;> decide
  · rw [show cutR 3 row2 = [115, 116, 112] by decide]
    by_cases h0 : (115 : UInt8) = b
    · subst h0; decide
    · by_cases h1 : (116 : UInt8) = b
      · subst h1; decide
      · by_cases h2 : (112 : UInt8) = b
        · subst h2; decide
        · simp [Lib.indexByte, h0, h1, h2]
          split <;> decide
  · rw [show cutR 4 row2 = [115, 116, 112, 113] by decide]
    by_cases h0 : (115 : UInt8) = b
    · subst h0; decide
    · by_cases h1 : (116 : UInt8) = b
      · subst h1; decide
      · by_cases h2 : (112 : UInt8) = b
        · subst h2; decide
        · by_cases h3 : (113 : UInt8) = b
          · subst h3; decide
          · simp [Lib.indexByte, h0, h1, h2, h3]
/-- The places that doc keeps. -/
def docP (x : ByteArray) (n : Nat) : Byts8 → List Int
  | [] => []
  | b :: l => if plc x b < n then plc x b :: docP x n l else docP x n l
theorem docP_cons (x : ByteArray) (n : Nat) (b : UInt8) (l : Byts8) : docP x n (b :: l) = if plc x b < n then plc x b :: docP x n l else docP x n l := rfl
theorem docP_le (x : ByteArray) (n : Nat) : ∀ l, (docP x n l).length ≤ l.length
  | [] => by simp [docP]
  | b :: l => by
    have := docP_le x n l
    unfold docP
    split <;> simp <;> omega
theorem docP_row (x : ByteArray) (n : Nat) (hx : ∀ b, Lib.indexByte (cutR n x) b = if plc x b < n then plc x b else -1) (hp : ∀ b, 0 ≤ plc x b) : ∀ l, rowP (cutR n x) l = if (docP x n l).length = l.length then some (docP x n l) else none
  | [] => rfl
  | b :: l => by
    rw [rowP_cons, hx, docP_row x n hx hp l]
    have hle := docP_le x n l
    have := hp b
    by_cases h : plc x b < n
    · have e : docP x n (b :: l) = plc x b :: docP x n l := by rw [docP_cons, if_pos h]
      rw [if_pos h, if_neg (by omega), e]
      by_cases h2 : (docP x n l).length = l.length
      · rw [if_pos h2, if_pos (by simp [h2])]
        rfl
      · rw [if_neg h2, if_neg (by simpa using h2)]
        rfl
    · have e : docP x n (b :: l) = docP x n l := by rw [docP_cons, if_neg h]
      rw [if_neg h, if_pos rfl, e, if_neg (by simp; omega)]
theorem plc_nn (x : ByteArray) (b : UInt8) : 0 ≤ plc x b ∧ plc x b ≤ 9 := by
  unfold plc
  repeat' split
  all_goals omega
theorem row_facts : ∀ x ∈ rows3, ∀ n : Nat, 2 ≤ n → n ≤ 4 → ∀ b, Lib.indexByte (cutR n x) b = if plc x b < n then plc x b else -1 := by
  intro x hx n h2 h4 b
  simp only [rows3, List.mem_cons, List.not_mem_nil, or_false] at hx
  rcases hx with rfl | rfl | rfl
  · exact plc_idx0 n h2 h4 b
  · exact plc_idx1 n h2 h4 b
  · exact plc_idx2 n h2 h4 b
theorem at_eq (x : ByteArray) (i : Nat) (h : i < x.size) : x.get! i = x[i]'h := by
  simp [ByteArray.get!, ByteArray.getElem_eq_getElem_data, h]

set_option maxHeartbeats 4000000 in
theorem place_any (x : ByteArray) (hx : x.size = 4) (b : UInt8) (w : World) :
    Calls Try.prog 38 #[.string x, .int .u8 (b.toNat : Int)] w fun e w' => e = .returned (.int .i64 (plc x b)) ∧ w' = w := by
  obtain ⟨P, hP⟩ : ∃ P, plc x b = P := ⟨_, rfl⟩
  rw [hP]
  unfold plc at hP
  have m0 : 0 < x.size := by omega
  have m1 : 1 < x.size := by omega
  have m2 : 2 < x.size := by omega
  have m3 : 3 < x.size := by omega
  rw [at_eq x 0 m0, at_eq x 1 m1, at_eq x 2 m2, at_eq x 3 m3] at hP
  have HP := hide hP
  have HX := hide hx
  clear hP
  have l0 : (0 : Int) < (x.size : Int) := by omega
  have l1 : (1 : Int) < (x.size : Int) := by omega
  have l2 : (2 : Int) < (x.size : Int) := by omega
  have l3 : (3 : Int) < (x.size : Int) := by omega
  have hq : ∀ (i : Nat) (h : i < x.size), (x[i]'h = b → (((x[i]'h).toNat : Int) == (b.toNat : Int)) = true) ∧ (x[i]'h ≠ b → (((x[i]'h).toNat : Int) == (b.toNat : Int)) = false) := by
    intro i h
    constructor
    · intro e
      rw [e]
      simp
    · intro e
      rw [beq_eq_false_iff_ne]
      intro e2
      exact e (UInt8.toNat_inj.1 (by omega))
  have HQ := hide hq
  clear hq hx
  go_enter Try.func38, Try.ntmps38
  go_wp2
  go_loop [5] (fun i => ∃ k : Nat, k ≤ 4 ∧ i = .int .i64 (k : Int) ∧ Hid (∀ m (h : m < x.size), m < k → x[m]'h ≠ b)) (fun i => 4 - (intOf i).toNat)
  case atStart => exact ⟨0, by omega, rfl, fun m h hm => by omega⟩
  case round =>
    obtain ⟨k, hk, rfl, hno⟩ := hrel
    by_cases hlt : k < 4
    · have hkx : k < x.size := by rw [unhide HX]; exact hlt
      have hk4 : (k : Int) < 4 := by omega
      by_cases he : x[k]'hkx = b
      · have qe := (unhide HQ k hkx).1 he
        have hp2 : P = (k : Int) := by
          have h := unhide HP
          have hn := unhide hno
          rw [← h]
          rcases (by omega : k = 0 ∨ k = 1 ∨ k = 2 ∨ k = 3) with rfl | rfl | rfl | rfl
          · rw [if_pos he]; rfl
          · rw [if_neg (hn 0 (by rw [unhide HX]; omega) (by omega)), if_pos he]; rfl
          · rw [if_neg (hn 0 (by rw [unhide HX]; omega) (by omega)), if_neg (hn 1 (by rw [unhide HX]; omega) (by omega)), if_pos he]; rfl
          · rw [if_neg (hn 0 (by rw [unhide HX]; omega) (by omega)), if_neg (hn 1 (by rw [unhide HX]; omega) (by omega)), if_neg (hn 2 (by rw [unhide HX]; omega) (by omega)), if_pos he]; rfl
        subst hp2
        clear he
        go_wp2
        go_ret
        exact ⟨rfl, rfl⟩
      · have qe := (unhide HQ k hkx).2 he
        have hno2 : Hid (∀ m (h : m < x.size), m < k + 1 → x[m]'h ≠ b) := by
          intro m h hm
          by_cases hmk : m = k
          · subst hmk
            exact he
          · exact unhide hno m h (by omega)
        clear he
        go_wp2
        refine ⟨⟨k + 1, by omega, rfl, hno2⟩, ?_⟩
        simp [intOf]
        omega
    · obtain rfl : k = 4 := by omega
      have hp2 : P = 9 := by
        have h := unhide HP
        have hn := unhide hno
        rw [← h, if_neg (hn 0 (by rw [unhide HX]; omega) (by omega)), if_neg (hn 1 (by rw [unhide HX]; omega) (by omega)), if_neg (hn 2 (by rw [unhide HX]; omega) (by omega)), if_neg (hn 3 (by rw [unhide HX]; omega) (by omega))]
      subst hp2
      go_wp2
      go_ret
      exact ⟨rfl, rfl⟩
end Go.Proofs.Ytokmplebajgckaa
