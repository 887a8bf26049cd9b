/- Several texts in one. -/
import Derived.Test.YtgmahpkhdnabjaaGreatPAJ
import Derived.Test.YtgmahpkhdnabjaaGreatW1J
import Derived.Test.YtgmahpkhdnabjaaGreatLemJ
/-
  Pixels: the walks of pixel (the bytes of one pixel) and of whole (bytes as a number). What the dump lacks is left out.
-/
namespace Go.Proofs.YtgmahpkhdnabjaaGreat
open Go.RowKit

theorem siz_three {f : Nat} (h1 : 1 ≤ f) (h7 : f ≤ 7) : siz f = 1 ∨ siz f = 2 ∨ siz f = 4 := by
  rcases (by omega : f = 1 ∨ f = 2 ∨ f = 3 ∨ f = 4 ∨ f = 5 ∨ f = 6 ∨ f = 7) with rfl | rfl | rfl | rfl | rfl | rfl | rfl <;> decide

theorem sl_eq {b o o' n n' c c' : Nat} (h1 : o = o') (h2 : n = n') (h3 : c = c') : Ending.returned (.slice (some ⟨b, o, none⟩) n c) = .returned (.slice (some ⟨b, o', none⟩) n' c') := by subst h1 h2 h3; rfl

theorem took_all (xs : List Int) : (took xs 0 0 (xs.length : Int)).1 = xs := by
  rw [took_full (by omega) (by simp)]
  simp
theorem ext_grownP {w w1 w2 : World} {rb : Nat} (h : Ext w w1) (hg : w1.grownBy w2 (some rb)) (hb : w.heap.size ≤ rb) : Ext w w2 := below_grown h hg h.size hb

set_option maxHeartbeats 1000000 in
theorem whole_any (ao : Option Addr) (cap : Nat) (xs : List Int) (w : World) (hr : Row .u8 w (.slice ao xs.length cap) xs) (hB : Byt xs) (hl : xs.length = 1 ∨ xs.length = 2 ∨ xs.length = 4) :
    Calls Tryz.prog 224 #[.slice ao xs.length cap] w fun e w' => e = .returned (.int .u32 (numOf xs)) ∧ Ext w w' := by
  have hb := numOf_le xs hB xs.length (Nat.le_refl _)
  have HT := hide (took_all xs)
  go_enter Tryz.func224, Tryz.ntmps224
  go_wp2_with fail
  refine (read_any _ xs w hr (by omega) hB).mono ?_
  rintro e w1 ⟨rb, sv, rfl, hrb, hrd, hx⟩
  have D := hide (And.intro hrb (And.intro hrd (show Ext w w1 from hx)))
  clear hrb hrd hx hr
  rcases hl with h | h | h
  · rw [h] at HT hb ⊢
    have hd : ((1 : Nat) : Int) = 1 := rfl
    go_wp2_with fail
    refine (u8_any (unhide D).2.1).mono ?_
    rintro e w2 ⟨rfl, _, hg⟩
    rw [show (took xs 0 0 1).1 = xs from unhide HT]
    have X := hide (ext_grownP (unhide D).2.2 hg (unhide D).1)
    clear hg
    go_wp2
    go_ret
    exact ⟨rfl, unhide X⟩
  · rw [h] at HT hb ⊢
    have hd : ((2 : Nat) : Int) = 2 := rfl
    go_wp2_with fail
    refine (u16_any (unhide D).2.1).mono ?_
    rintro e w2 ⟨rfl, _, hg⟩
    rw [show (took xs 0 0 2).1 = xs from unhide HT]
    have X := hide (ext_grownP (unhide D).2.2 hg (unhide D).1)
    clear hg
    go_wp2
    go_ret
    exact ⟨rfl, unhide X⟩
  · rw [h] at HT hb ⊢
    have hd : ((4 : Nat) : Int) = 4 := rfl
    go_wp2_with fail
    refine (u32_any (unhide D).2.1).mono ?_
    rintro e w2 ⟨rfl, _, hg⟩
    rw [show (took xs 0 0 4).1 = xs from unhide HT]
    have X := hide (ext_grownP (unhide D).2.2 hg (unhide D).1)
    clear hg
    go_wp2
    go_ret
    exact ⟨rfl, unhide X⟩
end Go.Proofs.YtgmahpkhdnabjaaGreat

/-
  Pixels: the walk of number: a colour's channels as one number. What the dump lacks is left out.
-/
namespace Go.Proofs.YtgmahpkhdnabjaaGreat
open Go.RowKit

/-- The number that the first k channels make. -/
def packK (L : Nat → Nat) (c : Nat → Int) : Nat → Int
  | 0 => 0
  | k + 1 => if 0 < L (4 * k) then bits .or .u32 (packK L c k) (bitsI (c (L (4 * k + 2))) (L (4 * k)) * 2 ^ L (4 * k + 1) % 4294967296) else packK L c k
/-- The numbers of a layout's channels are within what they may be. -/
def LOK (L : Nat → Nat) : Prop := ∀ k, k < 4 → L (4 * k) ≤ 16 ∧ L (4 * k + 1) ≤ 31 ∧ L (4 * k + 2) ≤ 3 ∧ L (4 * k + 3) ≤ 3

theorem chans_range (F S : Nat) (O : Bool) (L : Nat → Nat) (w : World) : (w.alloc (.cells (layA F S O L) 182)).rangeAt w.heap.size 3 [.int .i64 ((L 0 : Nat) : Int), .int .i64 ((L 1 : Nat) : Int), .int .i64 ((L 2 : Nat) : Int), .int .i64 ((L 3 : Nat) : Int), .int .i64 ((L 4 : Nat) : Int), .int .i64 ((L 5 : Nat) : Int), .int .i64 ((L 6 : Nat) : Int), .int .i64 ((L 7 : Nat) : Int), .int .i64 ((L 8 : Nat) : Int), .int .i64 ((L 9 : Nat) : Int), .int .i64 ((L 10 : Nat) : Int), .int .i64 ((L 11 : Nat) : Int), .int .i64 ((L 12 : Nat) : Int), .int .i64 ((L 13 : Nat) : Int), .int .i64 ((L 14 : Nat) : Int), .int .i64 ((L 15 : Nat) : Int)] := by
  intro j v hv
  refine (Blk.at rfl).cell ?_
  have hj : j < 16 := by simpa using (List.getElem?_eq_some_iff.1 hv).1
  have e : (layA F S O L).toList.drop 3 = [.int .i64 ((L 0 : Nat) : Int), .int .i64 ((L 1 : Nat) : Int), .int .i64 ((L 2 : Nat) : Int), .int .i64 ((L 3 : Nat) : Int), .int .i64 ((L 4 : Nat) : Int), .int .i64 ((L 5 : Nat) : Int), .int .i64 ((L 6 : Nat) : Int), .int .i64 ((L 7 : Nat) : Int), .int .i64 ((L 8 : Nat) : Int), .int .i64 ((L 9 : Nat) : Int), .int .i64 ((L 10 : Nat) : Int), .int .i64 ((L 11 : Nat) : Int), .int .i64 ((L 12 : Nat) : Int), .int .i64 ((L 13 : Nat) : Int), .int .i64 ((L 14 : Nat) : Int), .int .i64 ((L 15 : Nat) : Int)] := rfl
  rw [← e, List.getElem?_drop] at hv
  simpa using hv
theorem range_alloc {w : World} {b o : Nat} {cs : List Value} (h : w.rangeAt b o cs) (x : Obj) : (w.alloc x).rangeAt b o cs := by
  intro j v hv
  have := h j v hv
  rw [World.cell?_of_block (w := w) (heap_alloc_old w x (World.block_lt_of_cell? w _ this))]
  exact this
theorem size58 : (Tryz.prog.info? 180).map (·.size) = some 16 := by kernel_rfl
theorem index58_0 (L : Nat → Nat) (w : World) : (Instr.index 180 (.agg #[.int .i64 ((L 0 : Nat) : Int), .int .i64 ((L 1 : Nat) : Int), .int .i64 ((L 2 : Nat) : Int), .int .i64 ((L 3 : Nat) : Int), .int .i64 ((L 4 : Nat) : Int), .int .i64 ((L 5 : Nat) : Int), .int .i64 ((L 6 : Nat) : Int), .int .i64 ((L 7 : Nat) : Int), .int .i64 ((L 8 : Nat) : Int), .int .i64 ((L 9 : Nat) : Int), .int .i64 ((L 10 : Nat) : Int), .int .i64 ((L 11 : Nat) : Int), .int .i64 ((L 12 : Nat) : Int), .int .i64 ((L 13 : Nat) : Int), .int .i64 ((L 14 : Nat) : Int), .int .i64 ((L 15 : Nat) : Int)]) (.int .i64 0)).run Tryz.prog w = .ok (.agg #[.int .i64 ((L 0 : Nat) : Int), .int .i64 ((L 1 : Nat) : Int), .int .i64 ((L 2 : Nat) : Int), .int .i64 ((L 3 : Nat) : Int)]) w := by kernel_rfl
theorem index58_1 (L : Nat → Nat) (w : World) : (Instr.index 180 (.agg #[.int .i64 ((L 0 : Nat) : Int), .int .i64 ((L 1 : Nat) : Int), .int .i64 ((L 2 : Nat) : Int), .int .i64 ((L 3 : Nat) : Int), .int .i64 ((L 4 : Nat) : Int), .int .i64 ((L 5 : Nat) : Int), .int .i64 ((L 6 : Nat) : Int), .int .i64 ((L 7 : Nat) : Int), .int .i64 ((L 8 : Nat) : Int), .int .i64 ((L 9 : Nat) : Int), .int .i64 ((L 10 : Nat) : Int), .int .i64 ((L 11 : Nat) : Int), .int .i64 ((L 12 : Nat) : Int), .int .i64 ((L 13 : Nat) : Int), .int .i64 ((L 14 : Nat) : Int), .int .i64 ((L 15 : Nat) : Int)]) (.int .i64 1)).run Tryz.prog w = .ok (.agg #[.int .i64 ((L 4 : Nat) : Int), .int .i64 ((L 5 : Nat) : Int), .int .i64 ((L 6 : Nat) : Int), .int .i64 ((L 7 : Nat) : Int)]) w := by kernel_rfl
theorem index58_2 (L : Nat → Nat) (w : World) : (Instr.index 180 (.agg #[.int .i64 ((L 0 : Nat) : Int), .int .i64 ((L 1 : Nat) : Int), .int .i64 ((L 2 : Nat) : Int), .int .i64 ((L 3 : Nat) : Int), .int .i64 ((L 4 : Nat) : Int), .int .i64 ((L 5 : Nat) : Int), .int .i64 ((L 6 : Nat) : Int), .int .i64 ((L 7 : Nat) : Int), .int .i64 ((L 8 : Nat) : Int), .int .i64 ((L 9 : Nat) : Int), .int .i64 ((L 10 : Nat) : Int), .int .i64 ((L 11 : Nat) : Int), .int .i64 ((L 12 : Nat) : Int), .int .i64 ((L 13 : Nat) : Int), .int .i64 ((L 14 : Nat) : Int), .int .i64 ((L 15 : Nat) : Int)]) (.int .i64 2)).run Tryz.prog w = .ok (.agg #[.int .i64 ((L 8 : Nat) : Int), .int .i64 ((L 9 : Nat) : Int), .int .i64 ((L 10 : Nat) : Int), .int .i64 ((L 11 : Nat) : Int)]) w := by kernel_rfl
theorem index58_3 (L : Nat → Nat) (w : World) : (Instr.index 180 (.agg #[.int .i64 ((L 0 : Nat) : Int), .int .i64 ((L 1 : Nat) : Int), .int .i64 ((L 2 : Nat) : Int), .int .i64 ((L 3 : Nat) : Int), .int .i64 ((L 4 : Nat) : Int), .int .i64 ((L 5 : Nat) : Int), .int .i64 ((L 6 : Nat) : Int), .int .i64 ((L 7 : Nat) : Int), .int .i64 ((L 8 : Nat) : Int), .int .i64 ((L 9 : Nat) : Int), .int .i64 ((L 10 : Nat) : Int), .int .i64 ((L 11 : Nat) : Int), .int .i64 ((L 12 : Nat) : Int), .int .i64 ((L 13 : Nat) : Int), .int .i64 ((L 14 : Nat) : Int), .int .i64 ((L 15 : Nat) : Int)]) (.int .i64 3)).run Tryz.prog w = .ok (.agg #[.int .i64 ((L 12 : Nat) : Int), .int .i64 ((L 13 : Nat) : Int), .int .i64 ((L 14 : Nat) : Int), .int .i64 ((L 15 : Nat) : Int)]) w := by kernel_rfl

end Go.Proofs.YtgmahpkhdnabjaaGreat
