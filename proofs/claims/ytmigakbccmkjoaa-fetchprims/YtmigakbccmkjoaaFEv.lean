/-
  Primitives: the walk of the document's Prims for pairs.
-/
import Derived.Test.YtmigakbccmkjoaaFEu
namespace Go.Proofs.Ytmigakbccmkjoaa
open Go.RowKit Go.Shelf
set_option linter.unusedVariables false
set_option linter.unusedSimpArgs false

set_option maxRecDepth 10000 in
set_option maxHeartbeats 4000000 in
theorem rprims_1 (v : Value) (l : List Int) (w : World) (hr : Row .i64 w v l) (hn : l.length ≤ 257) :
    Calls Try.prog 22 #[.int .i64 1, v] w (RpQ w 1 l) := by
  obtain ⟨lo, lc, rfl, hao, hlc, hcm⟩ := hr.shape
  have HR := hide hr
  unfold maxLen at hcm
  clear hr hao
  go_enter Try.func22, Try.ntmps22
  go_wp2_with fail
  go_loopw [7, 9] (fun lv iv wr => ∃ (k i : Nat) (ao : Option Addr) (cap : Nat), i = 2 * k ∧ k ≤ l.length / 2 ∧ iv = .int .i64 (i : Int) ∧ lv = .slice ao k cap ∧ GO pEnc 59 4 wr w.heap.size lv (fP 1 l k) ∧ Ext w wr) (fun _ iv _ => l.length + 5 - (intOf iv).toNat)
  case atStart => exact ⟨0, 0, none, 0, rfl, Nat.zero_le _, rfl, rfl, GO.nil _ _, Ext.refl _⟩
  case round =>
    obtain ⟨k, i, ao, cap, hik, hk, rfl, rfl, hG, hX⟩ := hrel
    have D := hide (And.intro hG hX)
    clear hG hX
    by_cases hlt : i + 1 < l.length
    · have hlt2 : (i : Int) + 1 < (l.length : Int) := by omega
      have hlt3 : (i : Int) < (l.length : Int) := by omega
      have hlt4 : (0 : Int) < (l.length : Int) := by omega
      have u1 : (i : Int) + 1 < (l.length : Int) := by omega
      have t1 : ((i : Int) + 1).toNat = i + 1 := by omega
      have g1 : (0 : Int) ≤ (i : Int) + 1 := by omega
      have hw1 : IntKind.i64.wrap ((i : Int) + 1) = (i : Int) + 1 := wrapP64 (by omega) (by omega)
      obtain ⟨b, off, hlo, hc⟩ := row_ext (unhide HR) (by omega)
      have hq := fun wx hx => And.intro (hc wx hx (i) (by omega)) (hc wx hx (i + 1) (by omega))
      have hy := (by have h := prm_1 l k (by omega); simp only [← hik] at h; exact h)
      have HIK := hide (And.intro hik hk)
      generalize l[i] = x0 at *
      generalize l[i + 1] = x1 at *
      have HKEEP := hide hq
      subst hlo
      obtain ⟨ao2, cap2, w9, hrun, hG9, hX9⟩ := push_prm (W1 := (wr.alloc (.cells #[.int .i64 2, .int .i64 x0, .int .i64 x1, .int .i64 0] 59)).drew) (unhide D).1 (unhide D).2 (((Ext.refl wr).alloc _).drew) (by omega) ((Blk.new wr _ _).ext ((Ext.refl _).drew)) hy
      have D9 := hide (And.intro hG9 hX9)
      have HRUN := hide hrun
      clear hG9 hX9 hrun hc hy hik hk hq
      go_upto_region 15 with fail
      go_region_held_law (fun wx => wx.cell? ⟨b, off + i, none⟩ = some (.int .i64 x0) ∧ wx.cell? ⟨b, off + (i + 1), none⟩ = some (.int .i64 x1))
        (first | with_reducible exact unhide HKEEP _ ((unhide D).2.drew) | with_reducible exact unhide HKEEP _ (((unhide D).2.alloc _).drew) | with_reducible exact unhide HKEEP _ (unhide D9).2)
        (refine step_runP (by rfl) (.tmp 42) (.tmp 54) 52 (by rfl) (by rfl) (by rfl) (unhide HRUN) ?_)
      go_wp2
      go_roundw
      case rel => exact ⟨k + 1, i + 2, ao2, cap2, by have := (unhide HIK).1; omega, by have := (unhide HIK).1; omega, by push_cast; rfl, rfl, (unhide D9).1, (unhide D9).2⟩
      case measure => simp [intOf]; omega
    · have hlt2 : ¬ (i : Int) + 1 < (l.length : Int) := by omega
      go_wp2
      refine bodyPost_ret (v := .tuple #[.slice ao k cap, .bool true]) (by simp [results, Try.results22, go_sem]) rfl (rp_fin (by show ((l.length : Int) / 2).toNat = k; omega) (unhide D).1 (unhide D).2)
set_option maxRecDepth 10000 in
set_option maxHeartbeats 4000000 in
theorem rprims_3 (v : Value) (l : List Int) (w : World) (hr : Row .i64 w v l) (hn : l.length ≤ 257) :
    Calls Try.prog 22 #[.int .i64 3, v] w (RpQ w 3 l) := by
  obtain ⟨lo, lc, rfl, hao, hlc, hcm⟩ := hr.shape
  have HR := hide hr
  unfold maxLen at hcm
  clear hr hao
  go_enter Try.func22, Try.ntmps22
  go_wp2_with fail
  go_loopw [7, 10] (fun lv iv wr => ∃ (k i : Nat) (ao : Option Addr) (cap : Nat), i = k ∧ k ≤ l.length - 1 ∧ iv = .int .i64 (i : Int) ∧ lv = .slice ao k cap ∧ GO pEnc 59 4 wr w.heap.size lv (fP 3 l k) ∧ Ext w wr) (fun _ iv _ => l.length + 5 - (intOf iv).toNat)
  case atStart => exact ⟨0, 0, none, 0, rfl, Nat.zero_le _, rfl, rfl, GO.nil _ _, Ext.refl _⟩
  case round =>
    obtain ⟨k, i, ao, cap, hik, hk, rfl, rfl, hG, hX⟩ := hrel
    have D := hide (And.intro hG hX)
    clear hG hX
    by_cases hlt : i + 1 < l.length
    · have hlt2 : (i : Int) + 1 < (l.length : Int) := by omega
      have hlt3 : (i : Int) < (l.length : Int) := by omega
      have hlt4 : (0 : Int) < (l.length : Int) := by omega
      have u1 : (i : Int) + 1 < (l.length : Int) := by omega
      have t1 : ((i : Int) + 1).toNat = i + 1 := by omega
      have g1 : (0 : Int) ≤ (i : Int) + 1 := by omega
      have hw1 : IntKind.i64.wrap ((i : Int) + 1) = (i : Int) + 1 := wrapP64 (by omega) (by omega)
      obtain ⟨b, off, hlo, hc⟩ := row_ext (unhide HR) (by omega)
      have hq := fun wx hx => And.intro (hc wx hx (i) (by omega)) (hc wx hx (i + 1) (by omega))
      have hy : pEnc (prmF 3 l k) = [.int .i64 2, .int .i64 (l[i]'(by omega)), .int .i64 (l[i + 1]'(by omega)), .int .i64 0] := by subst hik; exact prm_3 l i (by omega)
      have HIK := hide (And.intro hik hk)
      generalize l[i] = x0 at *
      generalize l[i + 1] = x1 at *
      have HKEEP := hide hq
      subst hlo
      obtain ⟨ao2, cap2, w9, hrun, hG9, hX9⟩ := push_prm (W1 := (wr.alloc (.cells #[.int .i64 2, .int .i64 x0, .int .i64 x1, .int .i64 0] 59)).drew) (unhide D).1 (unhide D).2 (((Ext.refl wr).alloc _).drew) (by omega) ((Blk.new wr _ _).ext ((Ext.refl _).drew)) hy
      have D9 := hide (And.intro hG9 hX9)
      have HRUN := hide hrun
      clear hG9 hX9 hrun hc hy hik hk hq
      go_upto_region 21 with fail
      go_region_held_law (fun wx => wx.cell? ⟨b, off + i, none⟩ = some (.int .i64 x0) ∧ wx.cell? ⟨b, off + (i + 1), none⟩ = some (.int .i64 x1))
        (first | with_reducible exact unhide HKEEP _ ((unhide D).2.drew) | with_reducible exact unhide HKEEP _ (((unhide D).2.alloc _).drew) | with_reducible exact unhide HKEEP _ (unhide D9).2)
        (refine step_runP (by rfl) (.tmp 65) (.tmp 77) 52 (by rfl) (by rfl) (by rfl) (unhide HRUN) ?_)
      go_wp2
      go_roundw
      case rel => exact ⟨k + 1, i + 1, ao2, cap2, by have := (unhide HIK).1; omega, by have := (unhide HIK).1; omega, by push_cast; rfl, rfl, (unhide D9).1, (unhide D9).2⟩
      case measure => simp [intOf]; omega
    · have hlt2 : ¬ (i : Int) + 1 < (l.length : Int) := by omega
      go_wp2
      refine bodyPost_ret (v := .tuple #[.slice ao k cap, .bool true]) (by simp [results, Try.results22, go_sem]) rfl (rp_fin (by show ((l.length : Int) - 1).toNat = k; omega) (unhide D).1 (unhide D).2)
end Go.Proofs.Ytmigakbccmkjoaa
