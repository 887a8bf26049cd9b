/-
  Primitives: both sides, every mode and length.
-/
import Derived.Test.YtmigakbccmkjoaaFEp
import Derived.Test.YtmigakbccmkjoaaFEv
import Derived.Test.YtmigakbccmkjoaaFEw
import Derived.Test.YtmigakbccmkjoaaFEx
import Derived.Test.YtmigakbccmkjoaaFEy
import Derived.Test.YtmigakbccmkjoaaFEz
namespace Go.Proofs.Ytmigakbccmkjoaa
open Go.RowKit Go.Shelf
set_option linter.unusedVariables false
set_option linter.unusedSimpArgs false

set_option maxRecDepth 10000 in
set_option maxHeartbeats 4000000 in
theorem rprims_no (v : Value) (l : List Int) (m : Int) (w : World) (hr : Row .i64 w v l) (hm : modB m = false) :
    Calls Try.prog 22 #[.int .i64 m, v] w fun e w' => e = .returned (.tuple #[.slice none 0 0, .bool false]) ∧ Ext w w' := by
  obtain ⟨lo, lc, rfl, hao, hlc, hcm⟩ := hr.shape
  unfold maxLen at hcm
  have hm0 := of_decide_eq_false hm
  have b0 : (m == 0) = false := by simp; omega
  have b1 : (m == 1) = false := by simp; omega
  have b2 : (m == 2) = false := by simp; omega
  have b3 : (m == 3) = false := by simp; omega
  have b4 : (m == 4) = false := by simp; omega
  have b5 : (m == 5) = false := by simp; omega
  have b6 : (m == 6) = false := by simp; omega
  clear hr hao hm hm0
  go_enter Try.func22, Try.ntmps22
  go_wp2
  refine bodyPost_ret (v := .tuple #[.slice none 0 0, .bool false]) (by simp [results, Try.results22, go_sem]) rfl ⟨rfl, Ext.refl _⟩
/-- What the document's Prims answers, whatever the mode. -/
def RpA (w : World) (m : Int) (l : List Int) (wv : Value) (ok : Bool) (w' : World) : Prop :=
  (modB m = false ∧ wv = .slice none 0 0 ∧ ok = false) ∨ (modB m = true ∧ ok = true ∧ ∃ ao cap, wv = .slice ao (prmL m l).length cap ∧ GO pEnc 59 4 w' w.heap.size wv (prmL m l))
theorem rprims_all (v : Value) (l : List Int) (m : Int) (w : World) (hr : Row .i64 w v l) (hn : l.length ≤ 257) :
    Calls Try.prog 22 #[.int .i64 m, v] w fun e w' => ∃ wv ok, e = .returned (.tuple #[wv, .bool ok]) ∧ RpA w m l wv ok w' ∧ Ext w w' := by
  by_cases hm : modB m = true
  · have h : Calls Try.prog 22 #[.int .i64 m, v] w (RpQ w m l) := by
      rcases mod_cases hm with rfl | rfl | rfl | rfl | rfl | rfl | rfl
      · exact rprims_0 v l w hr hn
      · exact rprims_1 v l w hr hn
      · exact rprims_2 v l w hr hn
      · exact rprims_3 v l w hr hn
      · exact rprims_4 v l w hr hn
      · exact rprims_5 v l w hr hn
      · exact rprims_6 v l w hr hn
    refine h.mono ?_
    rintro e w' ⟨ao, cap, rfl, hg, hx⟩
    exact ⟨_, true, rfl, .inr ⟨hm, rfl, ao, cap, rfl, hg⟩, hx⟩
  · have hm' : modB m = false := by simpa using hm
    refine (rprims_no v l m w hr hm').mono ?_
    rintro e w' ⟨rfl, hx⟩
    exact ⟨_, false, rfl, .inl ⟨hm', rfl, rfl⟩, hx⟩
/-- What the program's Prims answers, whatever the mode and the length. -/
def PpA (w : World) (m : Int) (l : List Int) (gv : Value) (ev : Int) (w' : World) : Prop :=
  (modB m = false ∧ gv = .slice none 0 0 ∧ ev = 2) ∨ (modB m = true ∧ l.length = 257 ∧ gv = .slice none 0 0 ∧ ev = 3) ∨ (modB m = true ∧ l.length ≤ 256 ∧ ev = 0 ∧ ∃ ao cap, gv = .slice ao (prmL m l).length cap ∧ GO pEnc 59 4 w' w.heap.size gv (prmL m l))
theorem prims_all (v : Value) (l : List Int) (m : Int) (w : World) (hr : Row .i64 w v l) (hn : l.length ≤ 257) :
    Calls Try.prog 21 #[.int .i64 m, v] w fun e w' => ∃ gv ev, e = .returned (.tuple #[gv, .int .i64 ev]) ∧ PpA w m l gv ev w' ∧ Ext w w' := by
  by_cases hm : modB m = true
  · by_cases hl : l.length = 257
    · refine (prims_long v l m w hr hm hl).mono ?_
      rintro e w' ⟨rfl, hx⟩
      exact ⟨_, 3, rfl, .inr (.inl ⟨hm, hl, rfl, rfl⟩), hx⟩
    · refine (prims_ok v l m w hr hm (by omega)).mono ?_
      rintro e w' ⟨ao, cap, rfl, hg, hx⟩
      exact ⟨_, 0, rfl, .inr (.inr ⟨hm, by omega, rfl, ao, cap, rfl, hg⟩), hx⟩
  · have hm' : modB m = false := by simpa using hm
    refine (prims_no v l m w hr hm' hn).mono ?_
    rintro e w' ⟨rfl, hx⟩
    exact ⟨_, 2, rfl, .inl ⟨hm', rfl, rfl⟩, hx⟩
theorem prm_at {w : World} {base : Nat} {L : List (Nat → Int)} {ao : Option Addr} {cap : Nat} (h : GO pEnc 59 4 w base (.slice ao L.length cap) L) (k : Nat) (hk : k < L.length) :
    ∃ g, ao = some ⟨g, 0, none⟩ ∧ w.cell? ⟨g, k * 4, none⟩ = some (.int .i64 (L[k] 0)) ∧ w.cell? ⟨g, k * 4 + 1, none⟩ = some (.int .i64 (L[k] 1)) ∧ w.cell? ⟨g, k * 4 + 2, none⟩ = some (.int .i64 (L[k] 2)) ∧ w.cell? ⟨g, k * 4 + 3, none⟩ = some (.int .i64 (L[k] 3)) := by
  obtain ⟨g, hg, _, _, hc⟩ := GO.at pEnc_len h k hk
  exact ⟨g, hg, hc 0 _ (by omega) rfl, hc 1 _ (by omega) rfl, hc 2 _ (by omega) rfl, hc 3 _ (by omega) rfl⟩
end Go.Proofs.Ytmigakbccmkjoaa
