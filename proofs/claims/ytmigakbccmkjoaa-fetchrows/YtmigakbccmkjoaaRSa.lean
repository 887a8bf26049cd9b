/-
  Bytes compared. What the dump lacks is left out.
-/
import Derived.Test.YtmigakbccmkjoaaProg
import Derived.Test.YtmigakbccmkjoaaBlk
import Derived.Laws.BytesArg
import Derived.BigQuiet
import Derived.Lib.Bytes
namespace Go.Proofs.Ytmigakbccmkjoaa
open Go.RowKit
set_option linter.unusedVariables false
set_option linter.unusedSimpArgs false

theorem str_of (ao : Option Addr) (n cap : Nat) (xs : List Int) (w : World) (hr : Row .u8 w (.slice ao n cap) xs) (hl : n = xs.length) : (convert 22 9 (.slice ao n cap)).run Try.prog w = .ok (.string (strOfNums xs)) w := by
  subst hl
  rcases hr with ⟨rfl, ao', cap', hv, _⟩ | ⟨hne, b, off, cap', hv, _, _, hc⟩
  · cases hv
    rw [List.length_nil, run_convert_bytes_string w 22 9 5 _ 0 cap Try.underlying22 Try.underlying5 Try.underlying9]
    cases ao <;> simp [Conv.bytesToString, loadCells]
    all_goals rfl
  · cases hv
    exact run_convert_bytes_arg (P := Try.prog) w 22 5 Try.underlying22 Try.underlying5 b off xs.length cap xs rfl hc 9 Try.underlying9
theorem str_back {xs : List Int} (h : Byt xs) : (strOfNums xs).data.toList.map (fun u => (u.toNat : Int)) = xs := by
  rw [strOfNums_data, List.map_map]
  conv => rhs; rw [← List.map_id xs]
  refine List.map_congr_left fun x hx => ?_
  have := h x hx
  simp
  omega
theorem str_inj {xs ys : List Int} (h1 : Byt xs) (h2 : Byt ys) (h : strOfNums xs = strOfNums ys) : xs = ys := by
  rw [← str_back h1, ← str_back h2, h]
theorem str_ne {xs ys : List Int} (h1 : Byt xs) (h2 : Byt ys) : ((strOfNums xs).toList == (strOfNums ys).toList) = decide (xs = ys) := by
  by_cases h : xs = ys
  · subst h
    simp
  · have : (strOfNums xs).toList ≠ (strOfNums ys).toList := fun e => h (by
      rw [Lib.strOfNums_toList, Lib.strOfNums_toList] at e
      rw [← str_back h1, ← str_back h2, strOfNums_data, strOfNums_data]
      exact congrArg (List.map fun u : UInt8 => (u.toNat : Int)) e)
    simp [h, this]

theorem equal_any (ao ap : Option Addr) (cap cbp : Nat) (xs ys : List Int) (w : World) (hr : Row .u8 w (.slice ao xs.length cap) xs) (hs : Row .u8 w (.slice ap ys.length cbp) ys) (b1 : Byt xs) (b2 : Byt ys) :
    Calls Try.prog 13 #[.slice ao xs.length cap, .slice ap ys.length cbp] w fun e w' => e = .returned (.bool (decide (xs = ys))) ∧ w' = w := by
  have h1 := str_of ao xs.length cap xs w hr rfl
  have h2 := str_of ap ys.length cbp ys w hs rfl
  have HE := hide (str_ne b1 b2)
  clear hr hs b1 b2
  go_enter Try.func13, Try.ntmps13
  go_wp2
  go_ret
  rw [← unhide HE]
  exact ⟨by first | rfl | simp, rfl⟩
end Go.Proofs.Ytmigakbccmkjoaa
