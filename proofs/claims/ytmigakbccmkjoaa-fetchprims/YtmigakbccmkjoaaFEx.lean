/-
  Primitives: the walk of the document's Prims for a ring.
-/
import Derived.Test.YtmigakbccmkjoaaFEu
namespace Go.Proofs.Ytmigakbccmkjoaa
open Go.RowKit Go.Shelf
set_option linter.unusedVariables false
set_option linter.unusedSimpArgs false

set_option maxRecDepth 10000 in
set_option maxHeartbeats 4000000 in
theorem rprims_2 (v : Value) (l : List Int) (w : World) (hr : Row .i64 w v l) (hn : l.length ≤ 257) :
    Calls Try.prog 22 #[.int .i64 2, v] w (RpQ w 2 l) := by
  obtain ⟨lo, lc, rfl, hao, hlc, hcm⟩ := hr.shape
  have HR := hide hr
  unfold maxLen at hcm
  clear hr hao
  go_enter Try.func22, Try.ntmps22
  go_wp2_with fail
  go_loopw [7, 10] (fun lv iv wr => ∃ (k i : Nat) (ao : Option Addr) (cap : Nat), i = k ∧ k ≤ l.length - 1 ∧ iv = .int .i64 (i : Int) ∧ lv = .slice ao k cap ∧ GO pEnc 59 4 wr w.heap.size lv (fP 2 l k) ∧ Ext w wr) (fun _ iv _ => l.length + 5 - (intOf iv).toNat)
  case atStart => exact ⟨0, 0, none, 0, rfl, Nat.zero_le _, rfl, rfl, GO.nil _ _, Ext.refl _⟩
  case round =>
    obtain ⟨k, i, ao, cap, hik, hk, rfl, rfl, hG, hX⟩ := hrel
    have D := hide (And.intro hG hX)
    clear hG hX
    by_cases hlt : i + 1 < l.length
    · have hlt2 : (i : Int) + 1 < (l.length : Int) := by omega
      have hlt3 : (i : Int) < (l.length : Int) := by omega
      have hlt4 : (0 : Int) < (l.length : Int) := by omega
      have u1 : (i : Int) + 1 < (l.length : Int) := by omega
      have t1 : ((i : Int) + 1).toNat = i + 1 := by omega
      have g1 : (0 : Int) ≤ (i : Int) + 1 := by omega
      have hw1 : IntKind.i64.wrap ((i : Int) + 1) = (i : Int) + 1 := wrapP64 (by omega) (by omega)
      obtain ⟨b, off, hlo, hc⟩ := row_ext (unhide HR) (by omega)
      have hq := fun wx hx => And.intro (hc wx hx (i) (by omega)) (hc wx hx (i + 1) (by omega))
      have hy : pEnc (prmF 2 l k) = [.int .i64 2, .int .i64 (l[i]'(by omega)), .int .i64 (l[i + 1]'(by omega)), .int .i64 0] := by subst hik; exact prm_2 l i (by omega)
      have HIK := hide (And.intro hik hk)
      generalize l[i] = x0 at *
      generalize l[i + 1] = x1 at *
      have HKEEP := hide hq
      subst hlo
      obtain ⟨ao2, cap2, w9, hrun, hG9, hX9⟩ := push_prm (W1 := (wr.alloc (.cells #[.int .i64 2, .int .i64 x0, .int .i64 x1, .int .i64 0] 59)).drew) (unhide D).1 (unhide D).2 (((Ext.refl wr).alloc _).drew) (by omega) ((Blk.new wr _ _).ext ((Ext.refl _).drew)) hy
      have D9 := hide (And.intro hG9 hX9)
      have HRUN := hide hrun
      clear hG9 hX9 hrun hc hy hik hk hq
      go_upto_region 21 with fail
      go_region_held_law (fun wx => wx.cell? ⟨b, off + i, none⟩ = some (.int .i64 x0) ∧ wx.cell? ⟨b, off + (i + 1), none⟩ = some (.int .i64 x1))
        (first | with_reducible exact unhide HKEEP _ ((unhide D).2.drew) | with_reducible exact unhide HKEEP _ (((unhide D).2.alloc _).drew) | with_reducible exact unhide HKEEP _ (unhide D9).2)
        (refine step_runP (by rfl) (.tmp 65) (.tmp 77) 52 (by rfl) (by rfl) (by rfl) (unhide HRUN) ?_)
      go_wp2
      go_roundw
      case rel => exact ⟨k + 1, i + 1, ao2, cap2, by have := (unhide HIK).1; omega, by have := (unhide HIK).1; omega, by push_cast; rfl, rfl, (unhide D9).1, (unhide D9).2⟩
      case measure => simp [intOf]; omega
    · have hlt2 : ¬ (i : Int) + 1 < (l.length : Int) := by omega
      by_cases h2 : l.length < 2
      · have h3 : ¬ (2 : Int) ≤ (l.length : Int) := by omega
        have d3 : decide ((2 : Int) ≤ (l.length : Int)) = false := by simp; omega
        obtain rfl : k = 0 := by omega
        go_wp2
        refine bodyPost_ret (v := .tuple #[.slice ao 0 cap, .bool true]) (by simp [results, Try.results22, go_sem]) rfl (rp_fin (by show (if l.length < 2 then (0 : Int) else l.length).toNat = 0; rw [if_pos h2]; rfl) (unhide D).1 (unhide D).2)
      · have h3 : (2 : Int) ≤ (l.length : Int) := by omega
        obtain ⟨n1, hn1⟩ : ∃ n1, n1 = l.length - 1 := ⟨_, rfl⟩
        have ek : k = n1 := by omega
        have g9 : (0 : Int) ≤ (l.length : Int) - 1 := by omega
        have t9 : ((l.length : Int) - 1).toNat = n1 := by omega
        have g8 : (1 : Int) ≤ (l.length : Int) := by omega
        have hw3 : IntKind.i64.wrap ((l.length : Int) - 1) = (l.length : Int) - 1 := wrapP64 (by omega) (by omega)
        have hlt3 : (n1 : Int) < (l.length : Int) := by omega
        have hlt4 : (0 : Int) < (l.length : Int) := by omega
        have ib : (i : Int) ≤ 300 := by omega
        obtain ⟨b, off, hlo, hc⟩ := row_ext (unhide HR) (by omega)
        have hnb : n1 < l.length := by omega
        have h0b : 0 < l.length := by omega
        obtain ⟨x0, e0⟩ : ∃ x, l[n1] = x := ⟨_, rfl⟩
        obtain ⟨x1, e1⟩ : ∃ x, l[0] = x := ⟨_, rfl⟩
        have hq : ∀ wx, Ext w wx → wx.cell? ⟨b, off + n1, none⟩ = some (.int .i64 l[n1]) ∧ wx.cell? ⟨b, off, none⟩ = some (.int .i64 l[0]) := fun wx hx => And.intro (hc wx hx n1 (by omega)) (hc wx hx 0 (by omega))
        have hy : pEnc (prmF 2 l k) = [.int .i64 2, .int .i64 x0, .int .i64 x1, .int .i64 0] := by
          have h := prm_2b l (by omega)
          subst hn1
          rw [e0, e1] at h
          rw [ek]
          exact h
        rw [e0, e1] at hq
        clear e0 e1 hnb h0b
        have HKEEP := hide hq
        subst hlo
        obtain ⟨ao2, cap2, w9, hrun, hG9, hX9⟩ := push_prm (W1 := (wr.alloc (.cells #[.int .i64 2, .int .i64 x0, .int .i64 x1, .int .i64 0] 59)).drew) (unhide D).1 (unhide D).2 (((Ext.refl wr).alloc _).drew) (by omega) ((Blk.new wr _ _).ext ((Ext.refl _).drew)) hy
        have D9 := hide (And.intro hG9 hX9)
        have HRUN := hide hrun
        have HIK := hide (And.intro hik (And.intro hk (And.intro hn1 ek)))
        clear hG9 hX9 hrun hc hy hik hk hq hn1 ek h2
        go_upto_region 23 with fail
        go_region_held_law (fun wx => wx.cell? ⟨b, off + n1, none⟩ = some (.int .i64 x0) ∧ wx.cell? ⟨b, off, none⟩ = some (.int .i64 x1))
          (first | with_reducible exact unhide HKEEP _ ((unhide D).2.drew) | with_reducible exact unhide HKEEP _ (((unhide D).2.alloc _).drew) | with_reducible exact unhide HKEEP _ (unhide D9).2)
          (refine step_runP (by rfl) (.tmp 85) (.tmp 96) 52 (by rfl) (by rfl) (by rfl) (unhide HRUN) ?_)
        all_goals go_wp2
        all_goals refine bodyPost_ret (v := .tuple #[.slice ao2 (k + 1) cap2, .bool true]) (by simp [results, Try.results22, go_sem]) rfl (rp_fin (by show (if l.length < 2 then (0 : Int) else l.length).toNat = k + 1; have := unhide HIK; rw [if_neg (by omega)]; omega) (unhide D9).1 (unhide D9).2)
end Go.Proofs.Ytmigakbccmkjoaa
