/-
  Colours: the walks of Texel and Nearest.
-/
import Derived.Test.YtgblnipfeikomaaSD
namespace Go.Proofs.Ytgblnipfeikomaa
open Go.RowKit
set_option linter.unusedVariables false
set_option linter.unusedSimpArgs false

section
variable {w : World} {v : Value} {L : List Ent} {I : Img}
/-- A level that is there, in memory. -/
theorem lv_open (hA : I.L = absL L) (hok : okB (sizI I.f) I = true) {lv : Int} (hh : hasB I.L lv = true) : ∃ (k : Nat) (hk : k < L.length), lv = (k : Int) ∧ levAt I lv = (L[k].1, L[k].2.1, L[k].2.2.2) ∧ LvOk I (L[k].1, L[k].2.1, L[k].2.2.2) := by
  obtain ⟨h0, h1, h2⟩ := has_lt hh
  have hlen : I.L.length = L.length := by rw [hA, absL_len]
  obtain ⟨hlt, e⟩ := lv_mem hh
  have e2 : levAt I lv = (L[lv.toNat].1, L[lv.toNat].2.1, L[lv.toNat].2.2.2) := by
    unfold levAt
    rw [hA, absL_getD L lv.toNat (by omega)]
    rfl
  refine ⟨lv.toNat, by omega, by omega, e2, ?_⟩
  rw [← e2]
  exact lv_ok hok hh
theorem rf_cases (I : Img) (lv : Int) (h : rfE I lv = 0) : okB (sizI I.f) I = true ∧ hasB I.L lv = true := by
  unfold rfE at h
  cases h1 : okB (sizI I.f) I with
  | false => rw [h1] at h; simp at h
  | true =>
    cases h2 : hasB I.L lv with
    | false => rw [h1, h2] at h; simp at h
    | true => exact ⟨rfl, rfl⟩
theorem rf_lt (I : Img) (lv : Int) : 0 ≤ rfE I lv ∧ rfE I lv ≤ 180 := by
  unfold rfE
  repeat' split
  all_goals omega

set_option maxRecDepth 10000 in
set_option maxHeartbeats 1000000 in
theorem texel_bad (h : LR w v L) (hL : L.length ≤ 4000000000000) (hA : I.L = absL L) (lv : Int) (i j : Int) (hE : rfE I lv ≠ 0) :
    Calls Try.prog 13 #[.agg #[.int .i64 I.f, v, .int .i64 I.ws, .int .i64 I.wt, .int .i64 I.mn, .int .i64 I.mg], .int .i64 lv, .int .i64 i, .int .i64 j] w fun e w' => e = .returned (.tuple #[.agg #[.int .i32 0, .int .i32 0, .int .i32 0, .int .i32 0], .int .i64 (rfE I lv)]) ∧ Ext w w' := by
  obtain ⟨ao, cap, rfl, hao, hlc, hcm, _⟩ := h.shape
  have H1 := hide (And.intro (((Ext.refl w).alloc (.cells #[.int .i64 I.f, .slice ao L.length cap, .int .i64 I.ws, .int .i64 I.wt, .int .i64 I.mn, .int .i64 I.mg] 29)).alloc (.cells #[.int .i32 0, .int .i32 0, .int .i32 0, .int .i32 0] 34)) (show Blk ((w.alloc (.cells #[.int .i64 I.f, .slice ao L.length cap, .int .i64 I.ws, .int .i64 I.wt, .int .i64 I.mn, .int .i64 I.mg] 29)).alloc (.cells #[.int .i32 0, .int .i32 0, .int .i32 0, .int .i32 0] 34)) (w.heap.size + 1) #[.int .i32 0, .int .i32 0, .int .i32 0, .int .i32 0] 34 from Blk.at (by simp)))
  have HRF := hide (fun wx (hx : Ext w wx) => refusal_any (I := I) (h.ext hx) hL hA lv)
  have hne : (rfE I lv != 0) = true := by simpa using hE
  clear h hA hao hcm hE
  generalize rfE I lv = er at *
  go_enter Try.func13, Try.ntmps13
  go_wp2_with fail
  refine (unhide HRF _ (unhide H1).1).mono ?_
  rintro e w3 ⟨rfl, hx3⟩
  have hR := (unhide H1).2.ext hx3
  obtain ⟨r0, r1, r2, r3⟩ := hR.four
  obtain ⟨f0, f1, f2, f3, _⟩ := hR.frees
  have hR2 := hR.put4 (.int .i32 0) (.int .i32 0) (.int .i32 0) (.int .i32 0)
  have hX := ext_put4 (b := w.heap.size + 1) (a0 := .int .i32 0) (a1 := .int .i32 0) (a2 := .int .i32 0) (a3 := .int .i32 0) ((unhide H1).1.trans hx3) (by omega)
  have H9 := hide (And.intro hR2 hX)
  clear hR hR2 hX hx3 H1 HRF
  go_wp2
  obtain ⟨t0, t1, t2, t3⟩ := (unhide H9).1.four
  refine bodyPost_ret (v := .tuple #[.agg #[.int .i32 0, .int .i32 0, .int .i32 0, .int .i32 0], .int .i64 er]) (by simp [results, Try.results13, go_sem, t0, t1, t2, t3]) rfl ⟨rfl, (unhide H9).2⟩

set_option maxRecDepth 10000 in
set_option maxHeartbeats 1000000 in
theorem nearest_bad (h : LR w v L) (hL : L.length ≤ 4000000000000) (hA : I.L = absL L) (lv : Int) (u q : Int) (hE : rfE I lv ≠ 0) :
    Calls Try.prog 18 #[.agg #[.int .i64 I.f, v, .int .i64 I.ws, .int .i64 I.wt, .int .i64 I.mn, .int .i64 I.mg], .int .i64 lv, .int .i32 u, .int .i32 q] w fun e w' => e = .returned (.tuple #[.agg #[.int .i32 0, .int .i32 0, .int .i32 0, .int .i32 0], .int .i64 (rfE I lv)]) ∧ Ext w w' := by
  obtain ⟨ao, cap, rfl, hao, hlc, hcm, _⟩ := h.shape
  have H1 := hide (And.intro (((Ext.refl w).alloc (.cells #[.int .i64 I.f, .slice ao L.length cap, .int .i64 I.ws, .int .i64 I.wt, .int .i64 I.mn, .int .i64 I.mg] 29)).alloc (.cells #[.int .i32 0, .int .i32 0, .int .i32 0, .int .i32 0] 34)) (show Blk ((w.alloc (.cells #[.int .i64 I.f, .slice ao L.length cap, .int .i64 I.ws, .int .i64 I.wt, .int .i64 I.mn, .int .i64 I.mg] 29)).alloc (.cells #[.int .i32 0, .int .i32 0, .int .i32 0, .int .i32 0] 34)) (w.heap.size + 1) #[.int .i32 0, .int .i32 0, .int .i32 0, .int .i32 0] 34 from Blk.at (by simp)))
  have HRF := hide (fun wx (hx : Ext w wx) => refusal_any (I := I) (h.ext hx) hL hA lv)
  have hne : (rfE I lv != 0) = true := by simpa using hE
  clear h hA hao hcm hE
  generalize rfE I lv = er at *
  go_enter Try.func18, Try.ntmps18
  go_wp2_with fail
  refine (unhide HRF _ (unhide H1).1).mono ?_
  rintro e w3 ⟨rfl, hx3⟩
  have hR := (unhide H1).2.ext hx3
  obtain ⟨r0, r1, r2, r3⟩ := hR.four
  obtain ⟨f0, f1, f2, f3, _⟩ := hR.frees
  have hR2 := hR.put4 (.int .i32 0) (.int .i32 0) (.int .i32 0) (.int .i32 0)
  have hX := ext_put4 (b := w.heap.size + 1) (a0 := .int .i32 0) (a1 := .int .i32 0) (a2 := .int .i32 0) (a3 := .int .i32 0) ((unhide H1).1.trans hx3) (by omega)
  have H9 := hide (And.intro hR2 hX)
  clear hR hR2 hX hx3 H1 HRF
  go_wp2
  obtain ⟨t0, t1, t2, t3⟩ := (unhide H9).1.four
  refine bodyPost_ret (v := .tuple #[.agg #[.int .i32 0, .int .i32 0, .int .i32 0, .int .i32 0], .int .i64 er]) (by simp [results, Try.results18, go_sem, t0, t1, t2, t3]) rfl ⟨rfl, (unhide H9).2⟩

set_option maxRecDepth 10000 in
set_option maxHeartbeats 1000000 in
theorem linear_bad (h : LR w v L) (hL : L.length ≤ 4000000000000) (hA : I.L = absL L) (lv : Int) (u q : Int) (hE : rfE I lv ≠ 0) :
    Calls Try.prog 19 #[.agg #[.int .i64 I.f, v, .int .i64 I.ws, .int .i64 I.wt, .int .i64 I.mn, .int .i64 I.mg], .int .i64 lv, .int .i32 u, .int .i32 q] w fun e w' => e = .returned (.tuple #[.agg #[.int .i32 0, .int .i32 0, .int .i32 0, .int .i32 0], .int .i64 (rfE I lv)]) ∧ Ext w w' := by
  obtain ⟨ao, cap, rfl, hao, hlc, hcm, _⟩ := h.shape
  have H1 := hide (And.intro (((Ext.refl w).alloc (.cells #[.int .i64 I.f, .slice ao L.length cap, .int .i64 I.ws, .int .i64 I.wt, .int .i64 I.mn, .int .i64 I.mg] 29)).alloc (.cells #[.int .i32 0, .int .i32 0, .int .i32 0, .int .i32 0] 34)) (show Blk ((w.alloc (.cells #[.int .i64 I.f, .slice ao L.length cap, .int .i64 I.ws, .int .i64 I.wt, .int .i64 I.mn, .int .i64 I.mg] 29)).alloc (.cells #[.int .i32 0, .int .i32 0, .int .i32 0, .int .i32 0] 34)) (w.heap.size + 1) #[.int .i32 0, .int .i32 0, .int .i32 0, .int .i32 0] 34 from Blk.at (by simp)))
  have HRF := hide (fun wx (hx : Ext w wx) => refusal_any (I := I) (h.ext hx) hL hA lv)
  have hne : (rfE I lv != 0) = true := by simpa using hE
  clear h hA hao hcm hE
  generalize rfE I lv = er at *
  go_enter Try.func19, Try.ntmps19
  go_wp2_with fail
  refine (unhide HRF _ (unhide H1).1).mono ?_
  rintro e w3 ⟨rfl, hx3⟩
  have hR := (unhide H1).2.ext hx3
  obtain ⟨r0, r1, r2, r3⟩ := hR.four
  obtain ⟨f0, f1, f2, f3, _⟩ := hR.frees
  have hR2 := hR.put4 (.int .i32 0) (.int .i32 0) (.int .i32 0) (.int .i32 0)
  have hX := ext_put4 (b := w.heap.size + 1) (a0 := .int .i32 0) (a1 := .int .i32 0) (a2 := .int .i32 0) (a3 := .int .i32 0) ((unhide H1).1.trans hx3) (by omega)
  have H9 := hide (And.intro hR2 hX)
  clear hR hR2 hX hx3 H1 HRF
  go_wp2
  obtain ⟨t0, t1, t2, t3⟩ := (unhide H9).1.four
  refine bodyPost_ret (v := .tuple #[.agg #[.int .i32 0, .int .i32 0, .int .i32 0, .int .i32 0], .int .i64 er]) (by simp [results, Try.results19, go_sem, t0, t1, t2, t3]) rfl ⟨rfl, (unhide H9).2⟩

set_option maxRecDepth 10000 in
set_option maxHeartbeats 4000000 in
theorem texel_good (h : LR w v L) (hL : L.length ≤ 4000000000000) (hA : I.L = absL L) (hby : ∀ p ∈ L, Byt p.2.2.2) (lv i j : Int) (hE : rfE I lv = 0) :
    Calls Try.prog 13 #[.agg #[.int .i64 I.f, v, .int .i64 I.ws, .int .i64 I.wt, .int .i64 I.mn, .int .i64 I.mg], .int .i64 lv, .int .i64 i, .int .i64 j] w fun e w' => e = .returned (.tuple #[.agg #[.int .i32 ((txI I (levAt I lv) i j) 0), .int .i32 ((txI I (levAt I lv) i j) 1), .int .i32 ((txI I (levAt I lv) i j) 2), .int .i32 ((txI I (levAt I lv) i j) 3)], .int .i64 0]) ∧ Ext w w' := by
  obtain ⟨hok, hh⟩ := rf_cases I lv hE
  obtain ⟨k, hk, rfl, hlv, hlk⟩ := lv_open hA hok hh
  obtain ⟨ao, cap, rfl, hao, hlc, hcm, _⟩ := h.shape
  have hcm2 : cap ≤ 9223372036854775807 := by unfold maxLen at hcm; omega
  have H1 := hide (And.intro (((Ext.refl w).alloc (.cells #[.int .i64 I.f, .slice ao L.length cap, .int .i64 I.ws, .int .i64 I.wt, .int .i64 I.mn, .int .i64 I.mg] 29)).alloc (.cells #[.int .i32 0, .int .i32 0, .int .i32 0, .int .i32 0] 34)) (And.intro ((Blk.new w #[.int .i64 I.f, .slice ao L.length cap, .int .i64 I.ws, .int .i64 I.wt, .int .i64 I.mn, .int .i64 I.mg] 29).alloc (.cells #[.int .i32 0, .int .i32 0, .int .i32 0, .int .i32 0] 34)) (show Blk ((w.alloc (.cells #[.int .i64 I.f, .slice ao L.length cap, .int .i64 I.ws, .int .i64 I.wt, .int .i64 I.mn, .int .i64 I.mg] 29)).alloc (.cells #[.int .i32 0, .int .i32 0, .int .i32 0, .int .i32 0] 34)) (w.heap.size + 1) #[.int .i32 0, .int .i32 0, .int .i32 0, .int .i32 0] 34 from Blk.at (by simp))))
  have HRF := hide (fun wx (hx : Ext w wx) => refusal_any (I := I) (h.ext hx) hL hA (k : Int))
  rw [hE] at HRF
  have hbk := hby _ (List.getElem_mem hk)
  obtain ⟨b, off, bo, bcap, rfl, eb, c0, c1, c2, hr⟩ := h.at k hk
  have HC : Hid (∀ wx i j, Ext w wx → Calls Try.prog 28 #[.agg #[.int .i64 I.f, .slice (some ⟨b, off, none⟩) L.length cap, .int .i64 I.ws, .int .i64 I.wt, .int .i64 I.mn, .int .i64 I.mg], .agg #[.int .i64 L[k].1, .int .i64 L[k].2.1, .slice bo L[k].2.2.2.length bcap], .int .i64 i, .int .i64 j] wx fun e w' => e = .returned (.agg #[.int .i32 ((txI I (levAt I (k : Int)) i j) 0), .int .i32 ((txI I (levAt I (k : Int)) i j) 1), .int .i32 ((txI I (levAt I (k : Int)) i j) 2), .int .i32 ((txI I (levAt I (k : Int)) i j) 3)]) ∧ Ext wx w') := fun wx i j hx => by
    rw [hlv]
    exact scol_any hlk hbk (some ⟨b, off, none⟩) L.length cap bo bcap (hr.ext hx) i j
  have HCE : Hid (∀ wx, Ext w wx → wx.cell? ⟨b, off + k * 3, none⟩ = some (.int .i64 L[k].1) ∧ wx.cell? ⟨b, off + k * 3 + 1, none⟩ = some (.int .i64 L[k].2.1) ∧ wx.cell? ⟨b, off + k * 3 + 2, none⟩ = some (.slice bo L[k].2.2.2.length bcap)) := fun wx hx => by
    have hc : ∀ j u, w.cell? ⟨b, j, none⟩ = some u → wx.cell? ⟨b, j, none⟩ = some u := fun j u hu => by
      rw [hx.cell (p := ⟨b, j, none⟩) (World.block_lt_of_cell? w _ hu)]
      exact hu
    exact ⟨hc _ _ c0, hc _ _ c1, hc _ _ c2⟩
  have hkn : (k : Int) < (L.length : Int) := by omega
  generalize L[k].1 = W at *
  generalize L[k].2.1 = H at *
  generalize L[k].2.2.2 = bs at *
  generalize levAt I (k : Int) = lev at *
  clear h hA hao hcm hby hok hh hlv hlk c0 c1 c2 hr eb hbk hE
  go_enter Try.func13, Try.ntmps13
  go_wp2_with fail
  refine (unhide HRF _ (unhide H1).1).mono ?_
  rintro e w3 ⟨rfl, hx3⟩
  have H3 := hide (And.intro ((unhide H1).1.trans hx3) (And.intro ((unhide H1).2.1.ext hx3) ((unhide H1).2.2.ext hx3)))
  clear H1 hx3 HRF
  go_upto_region 4 with fail
  have HCL : Hid (∀ wx, Ext w3 wx → (wx.cell? ⟨w.heap.size, 0, none⟩ = some (.int .i64 I.f) ∧ wx.cell? ⟨w.heap.size, 1, none⟩ = some (.slice (some ⟨b, off, none⟩) L.length cap) ∧ wx.cell? ⟨w.heap.size, 2, none⟩ = some (.int .i64 I.ws) ∧ wx.cell? ⟨w.heap.size, 3, none⟩ = some (.int .i64 I.wt) ∧ wx.cell? ⟨w.heap.size, 4, none⟩ = some (.int .i64 I.mn) ∧ wx.cell? ⟨w.heap.size, 5, none⟩ = some (.int .i64 I.mg)) ∧ (wx.cell? ⟨b, off + k * 3, none⟩ = some (.int .i64 W) ∧ wx.cell? ⟨b, off + k * 3 + 1, none⟩ = some (.int .i64 H) ∧ wx.cell? ⟨b, off + k * 3 + 2, none⟩ = some (.slice bo bs.length bcap))) := fun wx hx => ⟨((unhide H3).2.1.ext hx).six, unhide HCE wx ((unhide H3).1.trans hx)⟩
  have HC3 : Hid (∀ wx i j, Ext w3 wx → Calls Try.prog 28 #[.agg #[.int .i64 I.f, .slice (some ⟨b, off, none⟩) L.length cap, .int .i64 I.ws, .int .i64 I.wt, .int .i64 I.mn, .int .i64 I.mg], .agg #[.int .i64 W, .int .i64 H, .slice bo bs.length bcap], .int .i64 i, .int .i64 j] wx fun e w' => e = .returned (.agg #[.int .i32 ((txI I lev i j) 0), .int .i32 ((txI I lev i j) 1), .int .i32 ((txI I lev i j) 2), .int .i32 ((txI I lev i j) 3)]) ∧ Ext wx w') := fun wx i j hx => unhide HC wx i j ((unhide H3).1.trans hx)
  have HCL4 : Hid (∀ wx a0 a1 a2 a3, Ext w3 wx → (((((wx.setCell ⟨w.heap.size + 1, 0, none⟩ a0).setCell ⟨w.heap.size + 1, 1, none⟩ a1).setCell ⟨w.heap.size + 1, 2, none⟩ a2).setCell ⟨w.heap.size + 1, 3, none⟩ a3).cell? ⟨w.heap.size, 0, none⟩ = some (.int .i64 I.f) ∧ ((((wx.setCell ⟨w.heap.size + 1, 0, none⟩ a0).setCell ⟨w.heap.size + 1, 1, none⟩ a1).setCell ⟨w.heap.size + 1, 2, none⟩ a2).setCell ⟨w.heap.size + 1, 3, none⟩ a3).cell? ⟨w.heap.size, 1, none⟩ = some (.slice (some ⟨b, off, none⟩) L.length cap) ∧ ((((wx.setCell ⟨w.heap.size + 1, 0, none⟩ a0).setCell ⟨w.heap.size + 1, 1, none⟩ a1).setCell ⟨w.heap.size + 1, 2, none⟩ a2).setCell ⟨w.heap.size + 1, 3, none⟩ a3).cell? ⟨w.heap.size, 2, none⟩ = some (.int .i64 I.ws) ∧ ((((wx.setCell ⟨w.heap.size + 1, 0, none⟩ a0).setCell ⟨w.heap.size + 1, 1, none⟩ a1).setCell ⟨w.heap.size + 1, 2, none⟩ a2).setCell ⟨w.heap.size + 1, 3, none⟩ a3).cell? ⟨w.heap.size, 3, none⟩ = some (.int .i64 I.wt) ∧ ((((wx.setCell ⟨w.heap.size + 1, 0, none⟩ a0).setCell ⟨w.heap.size + 1, 1, none⟩ a1).setCell ⟨w.heap.size + 1, 2, none⟩ a2).setCell ⟨w.heap.size + 1, 3, none⟩ a3).cell? ⟨w.heap.size, 4, none⟩ = some (.int .i64 I.mn) ∧ ((((wx.setCell ⟨w.heap.size + 1, 0, none⟩ a0).setCell ⟨w.heap.size + 1, 1, none⟩ a1).setCell ⟨w.heap.size + 1, 2, none⟩ a2).setCell ⟨w.heap.size + 1, 3, none⟩ a3).cell? ⟨w.heap.size, 5, none⟩ = some (.int .i64 I.mg)) ∧ (((((wx.setCell ⟨w.heap.size + 1, 0, none⟩ a0).setCell ⟨w.heap.size + 1, 1, none⟩ a1).setCell ⟨w.heap.size + 1, 2, none⟩ a2).setCell ⟨w.heap.size + 1, 3, none⟩ a3).cell? ⟨b, off + k * 3, none⟩ = some (.int .i64 W) ∧ ((((wx.setCell ⟨w.heap.size + 1, 0, none⟩ a0).setCell ⟨w.heap.size + 1, 1, none⟩ a1).setCell ⟨w.heap.size + 1, 2, none⟩ a2).setCell ⟨w.heap.size + 1, 3, none⟩ a3).cell? ⟨b, off + k * 3 + 1, none⟩ = some (.int .i64 H) ∧ ((((wx.setCell ⟨w.heap.size + 1, 0, none⟩ a0).setCell ⟨w.heap.size + 1, 1, none⟩ a1).setCell ⟨w.heap.size + 1, 2, none⟩ a2).setCell ⟨w.heap.size + 1, 3, none⟩ a3).cell? ⟨b, off + k * 3 + 2, none⟩ = some (.slice bo bs.length bcap))) := fun wx a0 a1 a2 a3 hx => ⟨(((unhide H3).2.1.ext hx).grown (grown_put4 wx (w.heap.size + 1) a0 a1 a2 a3) (by omega)).six, unhide HCE _ (ext_put4 ((unhide H3).1.trans hx) (by omega))⟩
  clear HC HCE
  have HR3 : Hid (∀ wx, Ext w3 wx → Blk wx (w.heap.size + 1) #[.int .i32 0, .int .i32 0, .int .i32 0, .int .i32 0] 34 ∧ Ext w wx) := fun wx hx => ⟨(unhide H3).2.2.ext hx, (unhide H3).1.trans hx⟩
  clear H3
  go_region_held3 (fun wx => (wx.cell? ⟨w.heap.size, 0, none⟩ = some (.int .i64 I.f) ∧ wx.cell? ⟨w.heap.size, 1, none⟩ = some (.slice (some ⟨b, off, none⟩) L.length cap) ∧ wx.cell? ⟨w.heap.size, 2, none⟩ = some (.int .i64 I.ws) ∧ wx.cell? ⟨w.heap.size, 3, none⟩ = some (.int .i64 I.wt) ∧ wx.cell? ⟨w.heap.size, 4, none⟩ = some (.int .i64 I.mn) ∧ wx.cell? ⟨w.heap.size, 5, none⟩ = some (.int .i64 I.mg)) ∧ (wx.cell? ⟨b, off + k * 3, none⟩ = some (.int .i64 W) ∧ wx.cell? ⟨b, off + k * 3 + 1, none⟩ = some (.int .i64 H) ∧ wx.cell? ⟨b, off + k * 3 + 2, none⟩ = some (.slice bo bs.length bcap)))
    (first | with_reducible exact unhide HCL _ bx | with_reducible exact unhide HCL _ (ext_0 w3) | with_reducible exact unhide HCL4 _ _ _ _ _ bx)
    (first
      | (go_at_call 28; refine (unhide HC3 _ _ _ (ext_0 w3)).mono ?_; rintro e ws ⟨rfl, hxs⟩; have bx : Ext w3 ws := (ext_0 w3).trans hxs; have HW := hide (unhide HR3 _ bx); obtain ⟨r0, r1, r2, r3⟩ := (unhide HW).1.four; obtain ⟨f0, f1, f2, f3, _⟩ := (unhide HW).1.frees))
  all_goals
    have H9 := hide (And.intro ((unhide HW).1.put4 (.int .i32 (txI I lev i j 0)) (.int .i32 (txI I lev i j 1)) (.int .i32 (txI I lev i j 2)) (.int .i32 (txI I lev i j 3))) (ext_put4 (b := w.heap.size + 1) (a0 := .int .i32 (txI I lev i j 0)) (a1 := .int .i32 (txI I lev i j 1)) (a2 := .int .i32 (txI I lev i j 2)) (a3 := .int .i32 (txI I lev i j 3)) (unhide HW).2 (by omega)))
    go_wp2
    obtain ⟨t0, t1, t2, t3⟩ := (unhide H9).1.four
    refine bodyPost_ret (v := .tuple #[.agg #[.int .i32 ((txI I lev i j) 0), .int .i32 ((txI I lev i j) 1), .int .i32 ((txI I lev i j) 2), .int .i32 ((txI I lev i j) 3)], .int .i64 0]) (by simp [results, Try.results13, go_sem, t0, t1, t2, t3]) rfl ⟨rfl, (unhide H9).2⟩
end
end Go.Proofs.Ytgblnipfeikomaa
