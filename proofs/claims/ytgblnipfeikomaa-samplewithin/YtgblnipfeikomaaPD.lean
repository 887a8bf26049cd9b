/-
  Pixels: the walks of pixel (the bytes of one pixel) and of whole (bytes as a number). What the dump lacks is left out.
-/
import Derived.Test.YtgblnipfeikomaaPC
import Derived.Test.YtgblnipfeikomaaW3
namespace Go.Proofs.Ytgblnipfeikomaa
open Go.RowKit

theorem siz_three {f : Nat} (h1 : 1 ≤ f) (h7 : f ≤ 7) : siz f = 1 ∨ siz f = 2 ∨ siz f = 4 := by
  rcases (by omega : f = 1 ∨ f = 2 ∨ f = 3 ∨ f = 4 ∨ f = 5 ∨ f = 6 ∨ f = 7) with rfl | rfl | rfl | rfl | rfl | rfl | rfl <;> decide

theorem sl_eq {b o o' n n' c c' : Nat} (h1 : o = o') (h2 : n = n') (h3 : c = c') : Ending.returned (.slice (some ⟨b, o, none⟩) n c) = .returned (.slice (some ⟨b, o', none⟩) n' c') := by subst h1 h2 h3; rfl

theorem took_all (xs : List Int) : (took xs 0 0 (xs.length : Int)).1 = xs := by
  rw [took_full (by omega) (by simp)]
  simp
theorem ext_grownP {w w1 w2 : World} {rb : Nat} (h : Ext w w1) (hg : w1.grownBy w2 (some rb)) (hb : w.heap.size ≤ rb) : Ext w w2 := below_grown h hg h.size hb

set_option maxHeartbeats 1000000 in
theorem whole_any (ao : Option Addr) (cap : Nat) (xs : List Int) (w : World) (hr : Row .u8 w (.slice ao xs.length cap) xs) (hB : Byt xs) (hl : xs.length = 1 ∨ xs.length = 2 ∨ xs.length = 4) :
    Calls Try.prog 64 #[.slice ao xs.length cap] w fun e w' => e = .returned (.int .u32 (numOf xs)) ∧ Ext w w' := by
  have hb := numOf_le xs hB xs.length (Nat.le_refl _)
  have HT := hide (took_all xs)
  go_enter Try.func64, Try.ntmps64
  go_wp2_with fail
  refine (read_any _ xs w hr (by omega) hB).mono ?_
  rintro e w1 ⟨rb, sv, rfl, hrb, hrd, hx⟩
  have D := hide (And.intro hrb (And.intro hrd (show Ext w w1 from hx)))
  clear hrb hrd hx hr
  rcases hl with h | h | h
  · rw [h] at HT hb ⊢
    have hd : ((1 : Nat) : Int) = 1 := rfl
    go_wp2_with fail
    refine (u8_any (unhide D).2.1).mono ?_
    rintro e w2 ⟨rfl, _, hg⟩
    rw [show (took xs 0 0 1).1 = xs from unhide HT]
    have X := hide (ext_grownP (unhide D).2.2 hg (unhide D).1)
    clear hg
    go_wp2
    go_ret
    exact ⟨rfl, unhide X⟩
  · rw [h] at HT hb ⊢
    have hd : ((2 : Nat) : Int) = 2 := rfl
    go_wp2_with fail
    refine (u16_any (unhide D).2.1).mono ?_
    rintro e w2 ⟨rfl, _, hg⟩
    rw [show (took xs 0 0 2).1 = xs from unhide HT]
    have X := hide (ext_grownP (unhide D).2.2 hg (unhide D).1)
    clear hg
    go_wp2
    go_ret
    exact ⟨rfl, unhide X⟩
  · rw [h] at HT hb ⊢
    have hd : ((4 : Nat) : Int) = 4 := rfl
    go_wp2_with fail
    refine (u32_any (unhide D).2.1).mono ?_
    rintro e w2 ⟨rfl, _, hg⟩
    rw [show (took xs 0 0 4).1 = xs from unhide HT]
    have X := hide (ext_grownP (unhide D).2.2 hg (unhide D).1)
    clear hg
    go_wp2
    go_ret
    exact ⟨rfl, unhide X⟩
end Go.Proofs.Ytgblnipfeikomaa
