/-
  Primitives: the walk of the document's Prims for a strip of triangles.
-/
import Derived.Test.YtmigakbccmkjoaaFEu
namespace Go.Proofs.Ytmigakbccmkjoaa
open Go.RowKit Go.Shelf
set_option linter.unusedVariables false
set_option linter.unusedSimpArgs false

set_option maxRecDepth 10000 in
set_option maxHeartbeats 4000000 in
theorem rprims_5 (v : Value) (l : List Int) (w : World) (hr : Row .i64 w v l) (hn : l.length ≤ 257) :
    Calls Try.prog 22 #[.int .i64 5, v] w (RpQ w 5 l) := by
  obtain ⟨lo, lc, rfl, hao, hlc, hcm⟩ := hr.shape
  have HR := hide hr
  unfold maxLen at hcm
  clear hr hao
  go_enter Try.func22, Try.ntmps22
  go_wp2_with fail
  go_loopw [7, 12] (fun lv iv wr => ∃ (k : Nat) (ao : Option Addr) (cap : Nat), k ≤ l.length - 2 ∧ iv = .int .i64 (k : Int) ∧ lv = .slice ao k cap ∧ GO pEnc 59 4 wr w.heap.size lv (fP 5 l k) ∧ Ext w wr) (fun _ iv _ => l.length - (intOf iv).toNat)
  case atStart => exact ⟨0, none, 0, Nat.zero_le _, rfl, rfl, GO.nil _ _, Ext.refl _⟩
  case round =>
    obtain ⟨k, ao, cap, hk, rfl, rfl, hG, hX⟩ := hrel
    have D := hide (And.intro hG hX)
    clear hG hX
    by_cases hlt : k + 2 < l.length
    · have hlt2 : (k : Int) + 2 < (l.length : Int) := by omega
      have hlt3 : (k : Int) < (l.length : Int) := by omega
      have u1 : (k : Int) + 1 < (l.length : Int) := by omega
      have t1 : ((k : Int) + 1).toNat = k + 1 := by omega
      have g1 : (0 : Int) ≤ (k : Int) + 1 := by omega
      have hw1 : IntKind.i64.wrap ((k : Int) + 1) = (k : Int) + 1 := wrapP64 (by omega) (by omega)
      have t2 : ((k : Int) + 2).toNat = k + 2 := by omega
      have g2 : (0 : Int) ≤ (k : Int) + 2 := by omega
      have hw2 : IntKind.i64.wrap ((k : Int) + 2) = (k : Int) + 2 := wrapP64 (by omega) (by omega)
      obtain ⟨b, off, hlo, hc⟩ := row_ext (unhide HR) (by omega)
      have hq : ∀ wx, Ext w wx → wx.cell? ⟨b, off + k, none⟩ = some (.int .i64 l[k]) ∧ wx.cell? ⟨b, off + (k + 1), none⟩ = some (.int .i64 l[k + 1]) ∧ wx.cell? ⟨b, off + (k + 2), none⟩ = some (.int .i64 l[k + 2]) := fun wx hx => And.intro (hc wx hx k (by omega)) (And.intro (hc wx hx (k + 1) (by omega)) (hc wx hx (k + 2) (by omega)))
      obtain ⟨x0, e0⟩ : ∃ x, l[k] = x := ⟨_, rfl⟩
      obtain ⟨x1, e1⟩ : ∃ x, l[k + 1] = x := ⟨_, rfl⟩
      obtain ⟨x2, e2⟩ : ∃ x, l[k + 2] = x := ⟨_, rfl⟩
      have HYE := hide (fun he => show pEnc (prmF 5 l k) = [.int .i64 3, .int .i64 x0, .int .i64 x1, .int .i64 x2] from by
        have h := prm_5e l k hlt he
        rw [e0, e1, e2] at h
        exact h)
      have HYO := hide (fun he => show pEnc (prmF 5 l k) = [.int .i64 3, .int .i64 x1, .int .i64 x0, .int .i64 x2] from by
        have h := prm_5o l k hlt he
        rw [e0, e1, e2] at h
        exact h)
      rw [e0, e1, e2] at hq
      clear e0 e1 e2
      have HKEEP := hide hq
      have HK := hide hk
      subst hlo
      clear hc hq hk
      go_upto_region 33 with fail
      go_region_held3 (fun wx => wx.cell? ⟨b, off + k, none⟩ = some (.int .i64 x0) ∧ wx.cell? ⟨b, off + (k + 1), none⟩ = some (.int .i64 x1) ∧ wx.cell? ⟨b, off + (k + 2), none⟩ = some (.int .i64 x2))
        (first | with_reducible exact unhide HKEEP _ ((unhide D).2.drew) | with_reducible exact unhide HKEEP _ (((unhide D).2.alloc _).drew))
        (fail)
      obtain ⟨W5, hW5⟩ : ∃ W5, (wr.alloc (.cells #[.int .i64 3, .int .i64 x0, .int .i64 x1, .int .i64 x2] 59)).drew = W5 := ⟨_, rfl⟩
      have hB5 : Blk W5 wr.heap.size #[.int .i64 3, .int .i64 x0, .int .i64 x1, .int .i64 x2] 59 := by rw [← hW5]; exact (Blk.new wr _ _).ext ((Ext.refl _).drew)
      have hX5 : Ext wr W5 := by rw [← hW5]; exact ((Ext.refl wr).alloc _).drew
      rw [hW5]
      generalize hbb : wr.heap.size = bb at *
      have hbb2 : w.heap.size ≤ bb := by rw [← hbb]; exact (unhide D).2.size
      have hbb3 : wr.heap.size = bb := hbb
      clear hW5 hbb
      have hfar : ∀ g, (Value.slice ao k cap).ownBlock = some g → g ≠ bb := fun g hg e => by
        have := ((unhide D).1.lt g hg).2
        have := hbb3
        omega
      have D5 := hide (And.intro hB5 (And.intro (GO.ext (unhide D).1 hX5) (And.intro ((unhide D).2.trans hX5) (And.intro hbb2 hfar))))
      have p0 := hB5.cell (i := 0) rfl
      have p1 := hB5.cell (i := 1) rfl
      have p2 := hB5.cell (i := 2) rfl
      have p3 := hB5.cell (i := 3) rfl
      have f1 := hB5.free 1
      have f2 := hB5.free 2
      clear hB5 hX5 hbb2 hbb3 hfar D
      by_cases hev : k % 2 = 0
      · have d : ((k : Int) % 2 == 1) = false := by simp; omega
        have hy := unhide HYE hev
        have hE : Blk (W5.alloc (.cells #[.int .i64 3, .int .i64 x0, .int .i64 x1, .int .i64 x2] 59)) W5.heap.size (pEnc (prmF 5 l k)).toArray 59 := by rw [hy]; exact Blk.new _ _ _
        have hxx : Ext W5 (W5.alloc (.cells #[.int .i64 3, .int .i64 x0, .int .i64 x1, .int .i64 x2] 59)) := (Ext.refl _).alloc _
        have D3 := hide (And.intro (GO.ext (unhide D5).2.1 hxx) (And.intro hE ((unhide D5).2.2.1.trans hxx)))
        clear hE hxx hy D5
        go_wp2_with (at_builtin; refine wpList_append_G (enc := pEnc) infoPrim Try.underlying52 rfl (by decide) (by decide) rfl (.tmp 162) (.tmp 164) rfl w.heap.size _ (fP 5 l k) (prmF 5 l k) rfl (unhide D3).1 _ 1 rfl _ (unhide D3).2.1 rfl (pEnc_one _) (by rw [fP_len]; have := unhide HK; omega) (unhide D3).2.2.size ?_)
        intro ao2 cap2 N w6 hN hG6 hgr6 hloc
        rw [← fP_succ] at hN
        subst hN
        rw [fP_len] at hG6 hloc ⊢
        have D6 := hide (And.intro hG6 ((unhide D3).2.2.grown hgr6 (unhide D3).2.2.size (fun q hq => ((unhide D3).1.lt q hq).1)))
        clear hG6 hgr6 hloc D3
        go_wp2
        go_roundw
        case rel => exact ⟨k + 1, ao2, cap2, by omega, by push_cast; rfl, rfl, (unhide D6).1, (unhide D6).2⟩
        case measure => simp [intOf]; omega
      · have d : ((k : Int) % 2 == 1) = true := by simp; omega
        have hy := unhide HYO hev
        have hS2 : Ext w ((W5.setCell ⟨bb, 1, none⟩ (.int .i64 x1)).setCell ⟨bb, 2, none⟩ (.int .i64 x0)) := ext_set (ext_set (unhide D5).2.2.1 (unhide D5).2.2.2.1) (unhide D5).2.2.2.1
        have hS1 : Blk ((W5.setCell ⟨bb, 1, none⟩ (.int .i64 x1)).setCell ⟨bb, 2, none⟩ (.int .i64 x0)) bb #[.int .i64 3, .int .i64 x1, .int .i64 x0, .int .i64 x2] 59 := ((unhide D5).1.set 1 (.int .i64 x1)).set 2 (.int .i64 x0)
        have hS3 : GO pEnc 59 4 ((W5.setCell ⟨bb, 1, none⟩ (.int .i64 x1)).setCell ⟨bb, 2, none⟩ (.int .i64 x0)) w.heap.size (.slice ao k cap) (fP 5 l k) := GO.keep (GO.keep (unhide D5).2.1 (grownBy_set _ _ _ _) (unhide D5).2.2.2.2) (grownBy_set _ _ _ _) (unhide D5).2.2.2.2
        have HW := hide (And.intro hS1 (And.intro hS2 hS3))
        have z0 := hS1.cell (i := 0) rfl
        have z1 := hS1.cell (i := 1) rfl
        have z2 := hS1.cell (i := 2) rfl
        have z3 := hS1.cell (i := 3) rfl
        have hE : Blk (((W5.setCell ⟨bb, 1, none⟩ (.int .i64 x1)).setCell ⟨bb, 2, none⟩ (.int .i64 x0)).alloc (.cells #[.int .i64 3, .int .i64 x1, .int .i64 x0, .int .i64 x2] 59)) ((W5.setCell ⟨bb, 1, none⟩ (.int .i64 x1)).setCell ⟨bb, 2, none⟩ (.int .i64 x0)).heap.size (pEnc (prmF 5 l k)).toArray 59 := by rw [hy]; exact Blk.new _ _ _
        have hsz : ((W5.setCell ⟨bb, 1, none⟩ (.int .i64 x1)).setCell ⟨bb, 2, none⟩ (.int .i64 x0)).heap.size = W5.heap.size := by simp
        rw [hsz] at hE
        have hxx := (Ext.refl ((W5.setCell ⟨bb, 1, none⟩ (.int .i64 x1)).setCell ⟨bb, 2, none⟩ (.int .i64 x0))).alloc (.cells #[.int .i64 3, .int .i64 x1, .int .i64 x0, .int .i64 x2] 59)
        have D3 := hide (And.intro (GO.ext hS3 hxx) (And.intro hE (hS2.trans hxx)))
        clear hE hxx hy D5 hS1 hS2 hS3 HW hsz
        go_wp2_with (at_builtin; refine wpList_append_G (enc := pEnc) infoPrim Try.underlying52 rfl (by decide) (by decide) rfl (.tmp 162) (.tmp 164) rfl w.heap.size _ (fP 5 l k) (prmF 5 l k) rfl (unhide D3).1 _ 1 rfl _ (unhide D3).2.1 rfl (pEnc_one _) (by rw [fP_len]; have := unhide HK; omega) (unhide D3).2.2.size ?_)
        intro ao2 cap2 N w6 hN hG6 hgr6 hloc
        rw [← fP_succ] at hN
        subst hN
        rw [fP_len] at hG6 hloc ⊢
        have D6 := hide (And.intro hG6 ((unhide D3).2.2.grown hgr6 (unhide D3).2.2.size (fun q hq => ((unhide D3).1.lt q hq).1)))
        clear hG6 hgr6 hloc D3
        go_wp2
        go_roundw
        case rel => exact ⟨k + 1, ao2, cap2, by omega, by push_cast; rfl, rfl, (unhide D6).1, (unhide D6).2⟩
        case measure => simp [intOf]; omega
    · have hlt2 : ¬ (k : Int) + 2 < (l.length : Int) := by omega
      go_wp2
      refine bodyPost_ret (v := .tuple #[.slice ao k cap, .bool true]) (by simp [results, Try.results22, go_sem]) rfl (rp_fin (by show ((l.length : Int) - 2).toNat = k; omega) (unhide D).1 (unhide D).2)
end Go.Proofs.Ytmigakbccmkjoaa
