/-
  Colours: the walks of Texel and Nearest. What the dump lacks is left out.
-/
import Derived.Test.YtadajaoidhbmgaaSD
namespace Go.Proofs.Ytadajaoidhbmgaa
open Go.RowKit
set_option linter.unusedVariables false
set_option linter.unusedSimpArgs false

section
variable {w : World} {v : Value} {L : List Ent} {I : Img}
/-- A level that is there, in memory. -/
theorem lv_open (hA : I.L = absL L) (hok : okB (sizI I.f) I = true) {lv : Int} (hh : hasB I.L lv = true) : ∃ (k : Nat) (hk : k < L.length), lv = (k : Int) ∧ levAt I lv = (L[k].1, L[k].2.1, L[k].2.2.2) ∧ LvOk I (L[k].1, L[k].2.1, L[k].2.2.2) := by
  obtain ⟨h0, h1, h2⟩ := has_lt hh
  have hlen : I.L.length = L.length := by rw [hA, absL_len]
  obtain ⟨hlt, e⟩ := lv_mem hh
  have e2 : levAt I lv = (L[lv.toNat].1, L[lv.toNat].2.1, L[lv.toNat].2.2.2) := by
    unfold levAt
    rw [hA, absL_getD L lv.toNat (by omega)]
    rfl
  refine ⟨lv.toNat, by omega, by omega, e2, ?_⟩
  rw [← e2]
  exact lv_ok hok hh
theorem rf_cases (I : Img) (lv : Int) (h : rfE I lv = 0) : okB (sizI I.f) I = true ∧ hasB I.L lv = true := by
  unfold rfE at h
  cases h1 : okB (sizI I.f) I with
  | false => rw [h1] at h; simp at h
  | true =>
    cases h2 : hasB I.L lv with
    | false => rw [h1, h2] at h; simp at h
    | true => exact ⟨rfl, rfl⟩
theorem rf_lt (I : Img) (lv : Int) : 0 ≤ rfE I lv ∧ rfE I lv ≤ 180 := by
  unfold rfE
  repeat' split
  all_goals omega

set_option maxRecDepth 10000 in
set_option maxHeartbeats 1000000 in
theorem nearest_bad (h : LR w v L) (hL : L.length ≤ 4000000000000) (hA : I.L = absL L) (lv : Int) (u q : Int) (hE : rfE I lv ≠ 0) :
    Calls Try.prog 6 #[.agg #[.int .i64 I.f, v, .int .i64 I.ws, .int .i64 I.wt, .int .i64 I.mn, .int .i64 I.mg], .int .i64 lv, .int .i32 u, .int .i32 q] w fun e w' => e = .returned (.tuple #[.agg #[.int .i32 0, .int .i32 0, .int .i32 0, .int .i32 0], .int .i64 (rfE I lv)]) ∧ Ext w w' := by
  obtain ⟨ao, cap, rfl, hao, hlc, hcm, _⟩ := h.shape
  have H1 := hide (And.intro (((Ext.refl w).alloc (.cells #[.int .i64 I.f, .slice ao L.length cap, .int .i64 I.ws, .int .i64 I.wt, .int .i64 I.mn, .int .i64 I.mg] 24)).alloc (.cells #[.int .i32 0, .int .i32 0, .int .i32 0, .int .i32 0] 30)) (show Blk ((w.alloc (.cells #[.int .i64 I.f, .slice ao L.length cap, .int .i64 I.ws, .int .i64 I.wt, .int .i64 I.mn, .int .i64 I.mg] 24)).alloc (.cells #[.int .i32 0, .int .i32 0, .int .i32 0, .int .i32 0] 30)) (w.heap.size + 1) #[.int .i32 0, .int .i32 0, .int .i32 0, .int .i32 0] 30 from Blk.at (by simp)))
  have HRF := hide (fun wx (hx : Ext w wx) => refusal_any (I := I) (h.ext hx) hL hA lv)
  have hne : (rfE I lv != 0) = true := by simpa using hE
  clear h hA hao hcm hE
  generalize rfE I lv = er at *
  go_enter Try.func6, Try.ntmps6
  go_wp2_with fail
  refine (unhide HRF _ (unhide H1).1).mono ?_
  rintro e w3 ⟨rfl, hx3⟩
  have hR := (unhide H1).2.ext hx3
  obtain ⟨r0, r1, r2, r3⟩ := hR.four
  obtain ⟨f0, f1, f2, f3, _⟩ := hR.frees
  have hR2 := hR.put4 (.int .i32 0) (.int .i32 0) (.int .i32 0) (.int .i32 0)
  have hX := ext_put4 (b := w.heap.size + 1) (a0 := .int .i32 0) (a1 := .int .i32 0) (a2 := .int .i32 0) (a3 := .int .i32 0) ((unhide H1).1.trans hx3) (by omega)
  have H9 := hide (And.intro hR2 hX)
  clear hR hR2 hX hx3 H1 HRF
  go_wp2
  obtain ⟨t0, t1, t2, t3⟩ := (unhide H9).1.four
  refine bodyPost_ret (v := .tuple #[.agg #[.int .i32 0, .int .i32 0, .int .i32 0, .int .i32 0], .int .i64 er]) (by simp [results, Try.results6, go_sem, t0, t1, t2, t3]) rfl ⟨rfl, (unhide H9).2⟩

set_option maxRecDepth 10000 in
set_option maxHeartbeats 1000000 in
theorem linear_bad (h : LR w v L) (hL : L.length ≤ 4000000000000) (hA : I.L = absL L) (lv : Int) (u q : Int) (hE : rfE I lv ≠ 0) :
    Calls Try.prog 8 #[.agg #[.int .i64 I.f, v, .int .i64 I.ws, .int .i64 I.wt, .int .i64 I.mn, .int .i64 I.mg], .int .i64 lv, .int .i32 u, .int .i32 q] w fun e w' => e = .returned (.tuple #[.agg #[.int .i32 0, .int .i32 0, .int .i32 0, .int .i32 0], .int .i64 (rfE I lv)]) ∧ Ext w w' := by
  obtain ⟨ao, cap, rfl, hao, hlc, hcm, _⟩ := h.shape
  have H1 := hide (And.intro (((Ext.refl w).alloc (.cells #[.int .i64 I.f, .slice ao L.length cap, .int .i64 I.ws, .int .i64 I.wt, .int .i64 I.mn, .int .i64 I.mg] 24)).alloc (.cells #[.int .i32 0, .int .i32 0, .int .i32 0, .int .i32 0] 30)) (show Blk ((w.alloc (.cells #[.int .i64 I.f, .slice ao L.length cap, .int .i64 I.ws, .int .i64 I.wt, .int .i64 I.mn, .int .i64 I.mg] 24)).alloc (.cells #[.int .i32 0, .int .i32 0, .int .i32 0, .int .i32 0] 30)) (w.heap.size + 1) #[.int .i32 0, .int .i32 0, .int .i32 0, .int .i32 0] 30 from Blk.at (by simp)))
  have HRF := hide (fun wx (hx : Ext w wx) => refusal_any (I := I) (h.ext hx) hL hA lv)
  have hne : (rfE I lv != 0) = true := by simpa using hE
  clear h hA hao hcm hE
  generalize rfE I lv = er at *
  go_enter Try.func8, Try.ntmps8
  go_wp2_with fail
  refine (unhide HRF _ (unhide H1).1).mono ?_
  rintro e w3 ⟨rfl, hx3⟩
  have hR := (unhide H1).2.ext hx3
  obtain ⟨r0, r1, r2, r3⟩ := hR.four
  obtain ⟨f0, f1, f2, f3, _⟩ := hR.frees
  have hR2 := hR.put4 (.int .i32 0) (.int .i32 0) (.int .i32 0) (.int .i32 0)
  have hX := ext_put4 (b := w.heap.size + 1) (a0 := .int .i32 0) (a1 := .int .i32 0) (a2 := .int .i32 0) (a3 := .int .i32 0) ((unhide H1).1.trans hx3) (by omega)
  have H9 := hide (And.intro hR2 hX)
  clear hR hR2 hX hx3 H1 HRF
  go_wp2
  obtain ⟨t0, t1, t2, t3⟩ := (unhide H9).1.four
  refine bodyPost_ret (v := .tuple #[.agg #[.int .i32 0, .int .i32 0, .int .i32 0, .int .i32 0], .int .i64 er]) (by simp [results, Try.results8, go_sem, t0, t1, t2, t3]) rfl ⟨rfl, (unhide H9).2⟩

end
end Go.Proofs.Ytadajaoidhbmgaa
