/-
  Colours: the document's Nearest.
-/
import Derived.Test.YtadajaoidhbmgaaSJ
namespace Go.Proofs.Ytadajaoidhbmgaa
open Go.RowKit
set_option linter.unusedVariables false
set_option linter.unusedSimpArgs false

section
variable {w : World} {v : Value} {L : List Ent} {I : Img}
set_option maxRecDepth 10000 in
set_option maxHeartbeats 4000000 in
theorem refNearest_any (h : LR w v L) (hA : I.L = absL L) (hby : ∀ p ∈ L, Byt p.2.2.2) (lv u q : Int) (hu : I32 u) (hq : I32 q) (hE : rfE I lv = 0) :
    Calls Try.prog 11 #[.agg #[.int .i64 I.f, v, .int .i64 I.ws, .int .i64 I.wt, .int .i64 I.mn, .int .i64 I.mg], .int .i64 lv, .int .i32 u, .int .i32 q] w fun e w' => e = .returned (.agg #[.int .i32 ((nrI I (levAt I lv) u q) 0), .int .i32 ((nrI I (levAt I lv) u q) 1), .int .i32 ((nrI I (levAt I lv) u q) 2), .int .i32 ((nrI I (levAt I lv) u q) 3)]) ∧ Ext w w' := by
  obtain ⟨hok, hh⟩ := rf_cases I lv hE
  obtain ⟨k, hk, rfl, hlv, hlk⟩ := lv_open hA hok hh
  obtain ⟨ao, cap, rfl, hao, hlc, hcm, _⟩ := h.shape
  have hcm2 : cap ≤ 9223372036854775807 := by unfold maxLen at hcm; omega
  have HN : Hid (nrI I (levAt I (k : Int)) u q = txI I (levAt I (k : Int)) (L[k].1 * u / 65536) (L[k].2.1 * q / 65536)) := by
    show _ = _
    rw [hlv]
    rfl
  have hWb : 1 ≤ L[k].1 ∧ L[k].1 ≤ 64 := hlk.w
  have hHb : 1 ≤ L[k].2.1 ∧ L[k].2.1 ≤ 64 := hlk.h
  obtain ⟨m1, m2⟩ := mul_fix hWb hu
  obtain ⟨m3, m4⟩ := mul_fix hHb hq
  obtain ⟨u1, u2⟩ := hu
  obtain ⟨u3, u4⟩ := hq
  have HTX := hide (fun wx (hx : Ext w wx) => refTexel_any (I := I) (h.ext hx) hA hby (k : Int) (L[k].1 * u / 65536) (L[k].2.1 * q / 65536) hE ⟨by omega, by omega⟩ ⟨by omega, by omega⟩)
  have hx1 := ((Ext.refl w).alloc (.cells #[.int .i64 I.f, .slice ao L.length cap, .int .i64 I.ws, .int .i64 I.wt, .int .i64 I.mn, .int .i64 I.mg] 24)).alloc (.cells #[.int .i32 0, .int .i32 0, .int .i32 0, .int .i32 0] 30)
  obtain ⟨b, off, bo, bcap, rfl, eb, c0, c1, c2, hr⟩ := (h.ext hx1).at k hk
  have hkn : (k : Int) < (L.length : Int) := by omega
  generalize L[k].1 = W at *
  generalize L[k].2.1 = H at *
  generalize L[k].2.2.2 = bs at *
  generalize levAt I (k : Int) = lev at *
  have g1 : IntKind.i64.wrap (W * u) = W * u := by simp [IntKind.wrap, IntKind.bits, IntKind.signed]; omega
  have g2 : IntKind.i64.wrap (H * q) = H * q := by simp [IntKind.wrap, IntKind.bits, IntKind.signed]; omega
  have gu : IntKind.i64.wrap u = u := by simp [IntKind.wrap, IntKind.bits, IntKind.signed]; omega
  have gq : IntKind.i64.wrap q = q := by simp [IntKind.wrap, IntKind.bits, IntKind.signed]; omega
  have HDW := hide (fun wx => down_any (W * u) 65536 wx ⟨by omega, by omega⟩ ⟨by omega, by omega⟩)
  have HDH := hide (fun wx => down_any (H * q) 65536 wx ⟨by omega, by omega⟩ ⟨by omega, by omega⟩)
  have hB1 := (Blk.new w #[.int .i64 I.f, .slice (some ⟨b, off, none⟩) L.length cap, .int .i64 I.ws, .int .i64 I.wt, .int .i64 I.mn, .int .i64 I.mg] 24).alloc (.cells #[.int .i32 0, .int .i32 0, .int .i32 0, .int .i32 0] 30)
  have hR1 := Blk.at (w := w.alloc (.cells #[.int .i64 I.f, .slice (some ⟨b, off, none⟩) L.length cap, .int .i64 I.ws, .int .i64 I.wt, .int .i64 I.mn, .int .i64 I.mg] 24)) (b := w.heap.size + 1) (cs := #[.int .i32 0, .int .i32 0, .int .i32 0, .int .i32 0]) (t := 30) (by simp)
  have H1 := hide (And.intro hx1 (And.intro hB1 hR1))
  clear h hA hby hok hh hlv hlk hao hcm eb hE hx1 hB1 hR1 hr
  go_enter Try.func11, Try.ntmps11
  go_upto_region 2 with fail
  generalize hw1 : (w.alloc (.cells #[.int .i64 I.f, .slice (some ⟨b, off, none⟩) L.length cap, .int .i64 I.ws, .int .i64 I.wt, .int .i64 I.mn, .int .i64 I.mg] 24)).alloc (.cells #[.int .i32 0, .int .i32 0, .int .i32 0, .int .i32 0] 30) = w1 at H1 c0 c1 c2 ⊢
  have hx2 := (Ext.refl w1).alloc (.cells #[.int .i64 W, .int .i64 H, .slice bo bs.length bcap] 46)
  have H2 := hide (And.intro ((unhide H1).1.trans hx2) (And.intro ((unhide H1).2.1.ext hx2) (And.intro (Blk.new w1 #[.int .i64 W, .int .i64 H, .slice bo bs.length bcap] 46) ((unhide H1).2.2.ext hx2))))
  have hb1 : w1.heap.size = w.heap.size + 1 + 1 := by rw [← hw1]; simp
  rw [hb1] at H2
  generalize w1.alloc (.cells #[.int .i64 W, .int .i64 H, .slice bo bs.length bcap] 46) = w3 at H2 ⊢
  clear hw1 hx2 H1 c0 c1 c2 hb1
  have HC3 : Hid (∀ wx, Ext w3 wx → Calls Try.prog 25 #[.agg #[.int .i64 I.f, .slice (some ⟨b, off, none⟩) L.length cap, .int .i64 I.ws, .int .i64 I.wt, .int .i64 I.mn, .int .i64 I.mg], .int .i64 (k : Int), .int .i64 (W * u / 65536), .int .i64 (H * q / 65536)] wx fun e w' => e = .returned (.agg #[.int .i32 ((txI I lev (W * u / 65536) (H * q / 65536)) 0), .int .i32 ((txI I lev (W * u / 65536) (H * q / 65536)) 1), .int .i32 ((txI I lev (W * u / 65536) (H * q / 65536)) 2), .int .i32 ((txI I lev (W * u / 65536) (H * q / 65536)) 3)]) ∧ Ext wx w') := fun wx hx => unhide HTX wx ((unhide H2).1.trans hx)
  have HCL : Hid (∀ wx, Ext w3 wx → (wx.cell? ⟨w.heap.size, 0, none⟩ = some (.int .i64 I.f) ∧ wx.cell? ⟨w.heap.size, 1, none⟩ = some (.slice (some ⟨b, off, none⟩) L.length cap) ∧ wx.cell? ⟨w.heap.size, 2, none⟩ = some (.int .i64 I.ws) ∧ wx.cell? ⟨w.heap.size, 3, none⟩ = some (.int .i64 I.wt) ∧ wx.cell? ⟨w.heap.size, 4, none⟩ = some (.int .i64 I.mn) ∧ wx.cell? ⟨w.heap.size, 5, none⟩ = some (.int .i64 I.mg)) ∧ (wx.cell? ⟨w.heap.size + 1 + 1, 0, none⟩ = some (.int .i64 W) ∧ wx.cell? ⟨w.heap.size + 1 + 1, 1, none⟩ = some (.int .i64 H))) := fun wx hx => ⟨((unhide H2).2.1.ext hx).six, ((unhide H2).2.2.1.ext hx).three.1, ((unhide H2).2.2.1.ext hx).three.2.1⟩
  have HCL4 : Hid (∀ wx a0 a1 a2 a3, Ext w3 wx → (((((wx.setCell ⟨w.heap.size + 1, 0, none⟩ a0).setCell ⟨w.heap.size + 1, 1, none⟩ a1).setCell ⟨w.heap.size + 1, 2, none⟩ a2).setCell ⟨w.heap.size + 1, 3, none⟩ a3).cell? ⟨w.heap.size, 0, none⟩ = some (.int .i64 I.f) ∧ ((((wx.setCell ⟨w.heap.size + 1, 0, none⟩ a0).setCell ⟨w.heap.size + 1, 1, none⟩ a1).setCell ⟨w.heap.size + 1, 2, none⟩ a2).setCell ⟨w.heap.size + 1, 3, none⟩ a3).cell? ⟨w.heap.size, 1, none⟩ = some (.slice (some ⟨b, off, none⟩) L.length cap) ∧ ((((wx.setCell ⟨w.heap.size + 1, 0, none⟩ a0).setCell ⟨w.heap.size + 1, 1, none⟩ a1).setCell ⟨w.heap.size + 1, 2, none⟩ a2).setCell ⟨w.heap.size + 1, 3, none⟩ a3).cell? ⟨w.heap.size, 2, none⟩ = some (.int .i64 I.ws) ∧ ((((wx.setCell ⟨w.heap.size + 1, 0, none⟩ a0).setCell ⟨w.heap.size + 1, 1, none⟩ a1).setCell ⟨w.heap.size + 1, 2, none⟩ a2).setCell ⟨w.heap.size + 1, 3, none⟩ a3).cell? ⟨w.heap.size, 3, none⟩ = some (.int .i64 I.wt) ∧ ((((wx.setCell ⟨w.heap.size + 1, 0, none⟩ a0).setCell ⟨w.heap.size + 1, 1, none⟩ a1).setCell ⟨w.heap.size + 1, 2, none⟩ a2).setCell ⟨w.heap.size + 1, 3, none⟩ a3).cell? ⟨w.heap.size, 4, none⟩ = some (.int .i64 I.mn) ∧ ((((wx.setCell ⟨w.heap.size + 1, 0, none⟩ a0).setCell ⟨w.heap.size + 1, 1, none⟩ a1).setCell ⟨w.heap.size + 1, 2, none⟩ a2).setCell ⟨w.heap.size + 1, 3, none⟩ a3).cell? ⟨w.heap.size, 5, none⟩ = some (.int .i64 I.mg)) ∧ (((((wx.setCell ⟨w.heap.size + 1, 0, none⟩ a0).setCell ⟨w.heap.size + 1, 1, none⟩ a1).setCell ⟨w.heap.size + 1, 2, none⟩ a2).setCell ⟨w.heap.size + 1, 3, none⟩ a3).cell? ⟨w.heap.size + 1 + 1, 0, none⟩ = some (.int .i64 W) ∧ ((((wx.setCell ⟨w.heap.size + 1, 0, none⟩ a0).setCell ⟨w.heap.size + 1, 1, none⟩ a1).setCell ⟨w.heap.size + 1, 2, none⟩ a2).setCell ⟨w.heap.size + 1, 3, none⟩ a3).cell? ⟨w.heap.size + 1 + 1, 1, none⟩ = some (.int .i64 H))) := fun wx a0 a1 a2 a3 hx => ⟨(((unhide H2).2.1.ext hx).grown (grown_put4 wx (w.heap.size + 1) a0 a1 a2 a3) (by omega)).six, (((unhide H2).2.2.1.ext hx).grown (grown_put4 wx (w.heap.size + 1) a0 a1 a2 a3) (by omega)).three.1, (((unhide H2).2.2.1.ext hx).grown (grown_put4 wx (w.heap.size + 1) a0 a1 a2 a3) (by omega)).three.2.1⟩
  have HR3 : Hid (∀ wx, Ext w3 wx → Blk wx (w.heap.size + 1) #[.int .i32 0, .int .i32 0, .int .i32 0, .int .i32 0] 30 ∧ Ext w wx) := fun wx hx => ⟨(unhide H2).2.2.2.ext hx, (unhide H2).1.trans hx⟩
  clear H2 HTX
  go_region_held3 (fun wx => (wx.cell? ⟨w.heap.size, 0, none⟩ = some (.int .i64 I.f) ∧ wx.cell? ⟨w.heap.size, 1, none⟩ = some (.slice (some ⟨b, off, none⟩) L.length cap) ∧ wx.cell? ⟨w.heap.size, 2, none⟩ = some (.int .i64 I.ws) ∧ wx.cell? ⟨w.heap.size, 3, none⟩ = some (.int .i64 I.wt) ∧ wx.cell? ⟨w.heap.size, 4, none⟩ = some (.int .i64 I.mn) ∧ wx.cell? ⟨w.heap.size, 5, none⟩ = some (.int .i64 I.mg)) ∧ (wx.cell? ⟨w.heap.size + 1 + 1, 0, none⟩ = some (.int .i64 W) ∧ wx.cell? ⟨w.heap.size + 1 + 1, 1, none⟩ = some (.int .i64 H)))
    (first | with_reducible exact unhide HCL _ bx | with_reducible exact unhide HCL _ (ext_0 w3) | with_reducible exact unhide HCL4 _ _ _ _ _ bx)
    (first
      | (go_at_call 25; with_reducible refine (unhide HC3 _ (ext_0 w3)).mono ?_; rintro e ws ⟨rfl, hxs⟩; have bx : Ext w3 ws := (ext_0 w3).trans hxs; have HW := hide (unhide HR3 _ bx); obtain ⟨r0, r1, r2, r3⟩ := (unhide HW).1.four; obtain ⟨f0, f1, f2, f3, _⟩ := (unhide HW).1.frees)
      | (go_at_call 26; (first
          | (with_reducible refine (unhide HDW _).mono ?_; rintro e wd ⟨rfl, rfl⟩)
          | (with_reducible refine (unhide HDH _).mono ?_; rintro e wd ⟨rfl, rfl⟩))))
  all_goals
    have H9 := hide (And.intro ((unhide HW).1.put4 (.int .i32 (txI I lev (W * u / 65536) (H * q / 65536) 0)) (.int .i32 (txI I lev (W * u / 65536) (H * q / 65536) 1)) (.int .i32 (txI I lev (W * u / 65536) (H * q / 65536) 2)) (.int .i32 (txI I lev (W * u / 65536) (H * q / 65536) 3))) (ext_put4 (b := w.heap.size + 1) (a0 := .int .i32 (txI I lev (W * u / 65536) (H * q / 65536) 0)) (a1 := .int .i32 (txI I lev (W * u / 65536) (H * q / 65536) 1)) (a2 := .int .i32 (txI I lev (W * u / 65536) (H * q / 65536) 2)) (a3 := .int .i32 (txI I lev (W * u / 65536) (H * q / 65536) 3)) (unhide HW).2 (by omega)))
    go_wp2
    obtain ⟨t0, t1, t2, t3⟩ := (unhide H9).1.four
    refine bodyPost_ret (v := .agg #[.int .i32 ((txI I lev (W * u / 65536) (H * q / 65536)) 0), .int .i32 ((txI I lev (W * u / 65536) (H * q / 65536)) 1), .int .i32 ((txI I lev (W * u / 65536) (H * q / 65536)) 2), .int .i32 ((txI I lev (W * u / 65536) (H * q / 65536)) 3)]) (by simp [results, Try.results11, go_sem, t0, t1, t2, t3]) rfl ⟨by rw [unhide HN], (unhide H9).2⟩
end
end Go.Proofs.Ytadajaoidhbmgaa
