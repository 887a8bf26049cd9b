/-
  Pixels: the layouts of the seven formats, and the walks of formats, find, and of Size.
-/
import Derived.Test.YtpjapdifmfpcnaaPA
import Derived.Test.YtpjapdifmfpcnaaBlk
import Derived.Deep.MidRow
import Derived.Deep.WholeRow
import Derived.Great.BuildSlice
namespace Go.Proofs.Ytpjapdifmfpcnaa
open Go.RowKit

/-- The sixteen numbers of a format's channels: bits, below, first, last of each. -/
def tbl : Nat → List Nat
  | 1 => [8, 0, 0, 0, 8, 8, 1, 1, 8, 16, 2, 2, 8, 24, 3, 3]
  | 2 => [5, 11, 0, 0, 6, 5, 1, 1, 5, 0, 2, 2]
  | 3 => [4, 12, 0, 0, 4, 8, 1, 1, 4, 4, 2, 2, 4, 0, 3, 3]
  | 4 => [5, 11, 0, 0, 5, 6, 1, 1, 5, 1, 2, 2, 1, 0, 3, 3]
  | 5 => [8, 0, 0, 2]
  | 6 => [8, 0, 3, 3]
  | 7 => [8, 0, 0, 2, 8, 8, 3, 3]
  | _ => []
def chs (f i : Nat) : Nat := (tbl f).getD i 0
/-- How many bytes. -/
def siz : Nat → Nat
  | 1 => 4
  | 2 => 2
  | 3 => 2
  | 4 => 2
  | 5 => 1
  | 6 => 1
  | 7 => 2
  | _ => 0
/-- Has alpha no bits? -/
def opq : Nat → Bool
  | 2 => true
  | 5 => true
  | _ => false
/-- A layout's cells. -/
def layA (F S : Nat) (O : Bool) (L : Nat → Nat) : Array Value := #[.int .i64 ((F : Nat) : Int), .int .i64 ((S : Nat) : Int), .bool O, .int .i64 ((L 0 : Nat) : Int), .int .i64 ((L 1 : Nat) : Int), .int .i64 ((L 2 : Nat) : Int), .int .i64 ((L 3 : Nat) : Int), .int .i64 ((L 4 : Nat) : Int), .int .i64 ((L 5 : Nat) : Int), .int .i64 ((L 6 : Nat) : Int), .int .i64 ((L 7 : Nat) : Int), .int .i64 ((L 8 : Nat) : Int), .int .i64 ((L 9 : Nat) : Int), .int .i64 ((L 10 : Nat) : Int), .int .i64 ((L 11 : Nat) : Int), .int .i64 ((L 12 : Nat) : Int), .int .i64 ((L 13 : Nat) : Int), .int .i64 ((L 14 : Nat) : Int), .int .i64 ((L 15 : Nat) : Int)]
def layF (f : Nat) : Array Value := layA f (siz f) (opq f) (chs f)
/-- The cells of all formats. -/
def fmts : Array Value := ((layF 1).toList ++ (layF 2).toList ++ (layF 3).toList ++ (layF 4).toList ++ (layF 5).toList ++ (layF 6).toList ++ (layF 7).toList).toArray

theorem layF_size (f : Nat) : (layF f).size = 19 := rfl
theorem layF_one (f : Nat) : (layF f).all (·.oneCell') = true := by simp [layF, layA, Value.oneCell']

theorem fmts_cut (k : Nat) (hk : k < 7) : (fmts.toList.drop (19 * k)).take 19 = (layF (k + 1)).toList := by
  rcases (by omega : k = 0 ∨ k = 1 ∨ k = 2 ∨ k = 3 ∨ k = 4 ∨ k = 5 ∨ k = 6) with rfl | rfl | rfl | rfl | rfl | rfl | rfl <;> rfl

theorem range_fmts {w : World} {b k : Nat} {t : TypeId} (h : Blk w b fmts t) (hk : k < 7) : w.rangeAt b (k * 19) (layF (k + 1)).toList := by
  intro j v hv
  rw [← fmts_cut k hk, Nat.mul_comm 19 k] at hv
  refine h.cell ?_
  have hj : j < 19 := by
    have := (List.getElem?_eq_some_iff.1 hv).1
    simp at this
    omega
  rw [List.getElem?_take_of_lt hj, List.getElem?_drop] at hv
  simpa using hv

theorem info60 : (Try.prog.info? 75).map (fun i => (i.zero, i.size)) = some (some (.agg (layF 0)), 19) := by kernel_rfl

set_option maxHeartbeats 1000000 in
theorem formats_any (w : World) :
    Calls Try.prog 61 #[] w fun e w' => e = .returned (.slice (some ⟨w.heap.size, 0, none⟩) 7 7) ∧ w' = w.alloc (.cells fmts 75) := by
  obtain ⟨i60, hi60, hzz⟩ : ∃ i, Try.prog.info? 75 = some i ∧ (i.zero, i.size) = (some (.agg (layF 0)), 19) := by
    have h := info60
    cases hq : Try.prog.info? 75 with
    | none => rw [hq] at h; cases h
    | some i => rw [hq] at h; exact ⟨i, rfl, by simpa using h⟩
  obtain ⟨hz60, hs60⟩ := Prod.mk.inj hzz
  clear hzz
  go_enter Try.func61, Try.ntmps61
  go_wp2_with (refine wpList_buildTo rfl 72 _ rfl (some 1) rfl #[.int .i64 8, .int .i64 0, .int .i64 0, .int .i64 0] (by kernel_rfl) ?_; refine wpList_buildTo rfl 72 _ rfl (some 2) rfl #[.int .i64 8, .int .i64 8, .int .i64 1, .int .i64 1] (by kernel_rfl) ?_; refine wpList_buildTo rfl 72 _ rfl (some 3) rfl #[.int .i64 8, .int .i64 16, .int .i64 2, .int .i64 2] (by kernel_rfl) ?_; refine wpList_buildTo rfl 72 _ rfl (some 4) rfl #[.int .i64 8, .int .i64 24, .int .i64 3, .int .i64 3] (by kernel_rfl) ?_; refine wpList_buildTo rfl 73 _ rfl (some 5) rfl #[.int .i64 8, .int .i64 0, .int .i64 0, .int .i64 0, .int .i64 8, .int .i64 8, .int .i64 1, .int .i64 1, .int .i64 8, .int .i64 16, .int .i64 2, .int .i64 2, .int .i64 8, .int .i64 24, .int .i64 3, .int .i64 3] (by kernel_rfl) ?_; refine wpList_buildTo rfl 75 _ rfl (some 6) rfl (layF 1) (by kernel_rfl) ?_; refine wpList_buildTo rfl 72 _ rfl (some 7) rfl #[.int .i64 5, .int .i64 11, .int .i64 0, .int .i64 0] (by kernel_rfl) ?_; refine wpList_buildTo rfl 72 _ rfl (some 8) rfl #[.int .i64 6, .int .i64 5, .int .i64 1, .int .i64 1] (by kernel_rfl) ?_; refine wpList_buildTo rfl 72 _ rfl (some 9) rfl #[.int .i64 5, .int .i64 0, .int .i64 2, .int .i64 2] (by kernel_rfl) ?_; refine wpList_buildTo rfl 73 _ rfl (some 10) rfl #[.int .i64 5, .int .i64 11, .int .i64 0, .int .i64 0, .int .i64 6, .int .i64 5, .int .i64 1, .int .i64 1, .int .i64 5, .int .i64 0, .int .i64 2, .int .i64 2, .int .i64 0, .int .i64 0, .int .i64 0, .int .i64 0] (by kernel_rfl) ?_; refine wpList_buildTo rfl 75 _ rfl (some 11) rfl (layF 2) (by kernel_rfl) ?_; refine wpList_buildTo rfl 72 _ rfl (some 12) rfl #[.int .i64 4, .int .i64 12, .int .i64 0, .int .i64 0] (by kernel_rfl) ?_; refine wpList_buildTo rfl 72 _ rfl (some 13) rfl #[.int .i64 4, .int .i64 8, .int .i64 1, .int .i64 1] (by kernel_rfl) ?_; refine wpList_buildTo rfl 72 _ rfl (some 14) rfl #[.int .i64 4, .int .i64 4, .int .i64 2, .int .i64 2] (by kernel_rfl) ?_; refine wpList_buildTo rfl 72 _ rfl (some 15) rfl #[.int .i64 4, .int .i64 0, .int .i64 3, .int .i64 3] (by kernel_rfl) ?_; refine wpList_buildTo rfl 73 _ rfl (some 16) rfl #[.int .i64 4, .int .i64 12, .int .i64 0, .int .i64 0, .int .i64 4, .int .i64 8, .int .i64 1, .int .i64 1, .int .i64 4, .int .i64 4, .int .i64 2, .int .i64 2, .int .i64 4, .int .i64 0, .int .i64 3, .int .i64 3] (by kernel_rfl) ?_; refine wpList_buildTo rfl 75 _ rfl (some 17) rfl (layF 3) (by kernel_rfl) ?_; refine wpList_buildTo rfl 72 _ rfl (some 18) rfl #[.int .i64 5, .int .i64 11, .int .i64 0, .int .i64 0] (by kernel_rfl) ?_; refine wpList_buildTo rfl 72 _ rfl (some 19) rfl #[.int .i64 5, .int .i64 6, .int .i64 1, .int .i64 1] (by kernel_rfl) ?_; refine wpList_buildTo rfl 72 _ rfl (some 20) rfl #[.int .i64 5, .int .i64 1, .int .i64 2, .int .i64 2] (by kernel_rfl) ?_; refine wpList_buildTo rfl 72 _ rfl (some 21) rfl #[.int .i64 1, .int .i64 0, .int .i64 3, .int .i64 3] (by kernel_rfl) ?_; refine wpList_buildTo rfl 73 _ rfl (some 22) rfl #[.int .i64 5, .int .i64 11, .int .i64 0, .int .i64 0, .int .i64 5, .int .i64 6, .int .i64 1, .int .i64 1, .int .i64 5, .int .i64 1, .int .i64 2, .int .i64 2, .int .i64 1, .int .i64 0, .int .i64 3, .int .i64 3] (by kernel_rfl) ?_; refine wpList_buildTo rfl 75 _ rfl (some 23) rfl (layF 4) (by kernel_rfl) ?_; refine wpList_buildTo rfl 72 _ rfl (some 24) rfl #[.int .i64 8, .int .i64 0, .int .i64 0, .int .i64 2] (by kernel_rfl) ?_; refine wpList_buildTo rfl 73 _ rfl (some 25) rfl #[.int .i64 8, .int .i64 0, .int .i64 0, .int .i64 2, .int .i64 0, .int .i64 0, .int .i64 0, .int .i64 0, .int .i64 0, .int .i64 0, .int .i64 0, .int .i64 0, .int .i64 0, .int .i64 0, .int .i64 0, .int .i64 0] (by kernel_rfl) ?_; refine wpList_buildTo rfl 75 _ rfl (some 26) rfl (layF 5) (by kernel_rfl) ?_; refine wpList_buildTo rfl 72 _ rfl (some 27) rfl #[.int .i64 8, .int .i64 0, .int .i64 3, .int .i64 3] (by kernel_rfl) ?_; refine wpList_buildTo rfl 73 _ rfl (some 28) rfl #[.int .i64 8, .int .i64 0, .int .i64 3, .int .i64 3, .int .i64 0, .int .i64 0, .int .i64 0, .int .i64 0, .int .i64 0, .int .i64 0, .int .i64 0, .int .i64 0, .int .i64 0, .int .i64 0, .int .i64 0, .int .i64 0] (by kernel_rfl) ?_; refine wpList_buildTo rfl 75 _ rfl (some 29) rfl (layF 6) (by kernel_rfl) ?_; refine wpList_buildTo rfl 72 _ rfl (some 30) rfl #[.int .i64 8, .int .i64 0, .int .i64 0, .int .i64 2] (by kernel_rfl) ?_; refine wpList_buildTo rfl 72 _ rfl (some 31) rfl #[.int .i64 8, .int .i64 8, .int .i64 3, .int .i64 3] (by kernel_rfl) ?_; refine wpList_buildTo rfl 73 _ rfl (some 32) rfl #[.int .i64 8, .int .i64 0, .int .i64 0, .int .i64 2, .int .i64 8, .int .i64 8, .int .i64 3, .int .i64 3, .int .i64 0, .int .i64 0, .int .i64 0, .int .i64 0, .int .i64 0, .int .i64 0, .int .i64 0, .int .i64 0] (by kernel_rfl) ?_; refine wpList_buildTo rfl 75 _ rfl (some 33) rfl (layF 7) (by kernel_rfl) ?_; refine Go.wpList_buildSlice rfl 85 75 7 _ rfl fmts i60 (.agg (layF 0)) Try.underlying85 hi60 hz60 (by rw [hs60]; decide) (by rw [hs60]; decide) (by rw [hs60]; kernel_rfl) ?_)
  go_ret
  exact ⟨rfl, rfl⟩

end Go.Proofs.Ytpjapdifmfpcnaa
