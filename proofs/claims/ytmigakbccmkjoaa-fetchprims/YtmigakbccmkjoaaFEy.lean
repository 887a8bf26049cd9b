/-
  Primitives: the walk of the document's Prims for points.
-/
import Derived.Test.YtmigakbccmkjoaaFEu
namespace Go.Proofs.Ytmigakbccmkjoaa
open Go.RowKit Go.Shelf
set_option linter.unusedVariables false
set_option linter.unusedSimpArgs false

set_option maxRecDepth 10000 in
set_option maxHeartbeats 4000000 in
theorem rprims_0 (v : Value) (l : List Int) (w : World) (hr : Row .i64 w v l) (hn : l.length ≤ 257) :
    Calls Try.prog 22 #[.int .i64 0, v] w (RpQ w 0 l) := by
  obtain ⟨lo, lc, rfl, hao, hlc, hcm⟩ := hr.shape
  have HR := hide hr
  unfold maxLen at hcm
  clear hr hao
  go_enter Try.func22, Try.ntmps22
  go_wp2_with fail
  go_loopw [7, 21] (fun lv iv wr => ∃ (k : Nat) (ao : Option Addr) (cap : Nat), k ≤ l.length ∧ iv = .int .i64 (k : Int) ∧ lv = .slice ao k cap ∧ GO pEnc 59 4 wr w.heap.size lv (fP 0 l k) ∧ Ext w wr) (fun _ iv _ => l.length - (intOf iv).toNat)
  case atStart => exact ⟨0, none, 0, Nat.zero_le _, rfl, rfl, GO.nil _ _, Ext.refl _⟩
  case round =>
    obtain ⟨k, ao, cap, hk, rfl, rfl, hG, hX⟩ := hrel
    have D := hide (And.intro hG hX)
    clear hG hX
    by_cases hlt : k < l.length
    · have hlt2 : (k : Int) < (l.length : Int) := by omega
      obtain ⟨b, off, hlo, hc⟩ := row_ext (unhide HR) (by omega)
      have q0 := hc wr (unhide D).2 k hlt
      have hy := prm_0 l k hlt
      generalize l[k] = x0 at *
      subst hlo
      have hE : Blk (wr.alloc (.cells #[.int .i64 1, .int .i64 x0, .int .i64 0, .int .i64 0] 59)) wr.heap.size (pEnc (prmF 0 l k)).toArray 59 := by rw [hy]; exact Blk.new _ _ _
      have hxx : Ext wr (wr.alloc (.cells #[.int .i64 1, .int .i64 x0, .int .i64 0, .int .i64 0] 59)) := (Ext.refl _).alloc _
      have D3 := hide (And.intro (GO.ext (unhide D).1 hxx) (And.intro hE ((unhide D).2.trans hxx)))
      clear hE hxx hc hy D
      go_wp2_with (at_builtin; refine wpList_append_G (enc := pEnc) infoPrim Try.underlying52 rfl (by decide) (by decide) rfl (.tmp 24) (.tmp 31) rfl w.heap.size _ (fP 0 l k) (prmF 0 l k) rfl (unhide D3).1 _ 1 rfl _ (unhide D3).2.1 rfl (pEnc_one _) (by rw [fP_len]; omega) (unhide D3).2.2.size ?_)
      intro ao2 cap2 N w6 hN hG6 hgr6 hloc
      rw [← fP_succ] at hN
      subst hN
      rw [fP_len] at hG6 hloc ⊢
      have D6 := hide (And.intro hG6 ((unhide D3).2.2.grown hgr6 (unhide D3).2.2.size (fun q hq => ((unhide D3).1.lt q hq).1)))
      clear hG6 hgr6 hloc D3
      go_wp2
      go_roundw
      case rel => exact ⟨k + 1, ao2, cap2, by omega, by push_cast; rfl, rfl, (unhide D6).1, (unhide D6).2⟩
      case measure => simp [intOf]; omega
    · have hlt2 : ¬ (k : Int) < (l.length : Int) := by omega
      go_wp2
      refine bodyPost_ret (v := .tuple #[.slice ao k cap, .bool true]) (by simp [results, Try.results22, go_sem]) rfl (rp_fin (by show ((l.length : Int)).toNat = k; omega) (unhide D).1 (unhide D).2)
end Go.Proofs.Ytmigakbccmkjoaa
