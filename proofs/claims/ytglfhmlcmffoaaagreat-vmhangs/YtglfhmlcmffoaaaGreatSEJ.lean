/- Several texts in one. -/
import Derived.Test.YtglfhmlcmffoaaaGreatJOJ
/-
  Colours: the walks of Texel and Nearest. What the dump lacks is left out.
-/
namespace Go.Proofs.YtglfhmlcmffoaaaGreat
open Go.RowKit
set_option linter.unusedVariables false
set_option linter.unusedSimpArgs false

section
variable {w : World} {v : Value} {L : List Ent} {I : Img}
/-- A level that is there, in memory. -/
theorem lv_open (hA : I.L = absL L) (hok : okB (sizI I.f) I = true) {lv : Int} (hh : hasB I.L lv = true) : ∃ (k : Nat) (hk : k < L.length), lv = (k : Int) ∧ levAt I lv = (L[k].1, L[k].2.1, L[k].2.2.2) ∧ LvOk I (L[k].1, L[k].2.1, L[k].2.2.2) := by
  obtain ⟨h0, h1, h2⟩ := has_lt hh
  have hlen : I.L.length = L.length := by rw [hA, absL_len]
  obtain ⟨hlt, e⟩ := lv_mem hh
  have e2 : levAt I lv = (L[lv.toNat].1, L[lv.toNat].2.1, L[lv.toNat].2.2.2) := by
    unfold levAt
    rw [hA, absL_getD L lv.toNat (by omega)]
    rfl
  refine ⟨lv.toNat, by omega, by omega, e2, ?_⟩
  rw [← e2]
  exact lv_ok hok hh
theorem rf_cases (I : Img) (lv : Int) (h : rfE I lv = 0) : okB (sizI I.f) I = true ∧ hasB I.L lv = true := by
  unfold rfE at h
  cases h1 : okB (sizI I.f) I with
  | false => rw [h1] at h; simp at h
  | true =>
    cases h2 : hasB I.L lv with
    | false => rw [h1, h2] at h; simp at h
    | true => exact ⟨rfl, rfl⟩
theorem rf_lt (I : Img) (lv : Int) : 0 ≤ rfE I lv ∧ rfE I lv ≤ 180 := by
  unfold rfE
  repeat' split
  all_goals omega

set_option maxRecDepth 10000 in
set_option maxHeartbeats 1000000 in
theorem nearest_bad (h : LR w v L) (hL : L.length ≤ 4000000000000) (hA : I.L = absL L) (lv : Int) (u q : Int) (hE : rfE I lv ≠ 0) :
    Calls Tryz.prog 123 #[.agg #[.int .i64 I.f, v, .int .i64 I.ws, .int .i64 I.wt, .int .i64 I.mn, .int .i64 I.mg], .int .i64 lv, .int .i32 u, .int .i32 q] w fun e w' => e = .returned (.tuple #[.agg #[.int .i32 0, .int .i32 0, .int .i32 0, .int .i32 0], .int .i64 (rfE I lv)]) ∧ Ext w w' := by
  obtain ⟨ao, cap, rfl, hao, hlc, hcm, _⟩ := h.shape
  have H1 := hide (And.intro (((Ext.refl w).alloc (.cells #[.int .i64 I.f, .slice ao L.length cap, .int .i64 I.ws, .int .i64 I.wt, .int .i64 I.mn, .int .i64 I.mg] 112)).alloc (.cells #[.int .i32 0, .int .i32 0, .int .i32 0, .int .i32 0] 28)) (show Blk ((w.alloc (.cells #[.int .i64 I.f, .slice ao L.length cap, .int .i64 I.ws, .int .i64 I.wt, .int .i64 I.mn, .int .i64 I.mg] 112)).alloc (.cells #[.int .i32 0, .int .i32 0, .int .i32 0, .int .i32 0] 28)) (w.heap.size + 1) #[.int .i32 0, .int .i32 0, .int .i32 0, .int .i32 0] 28 from Blk.at (by simp)))
  have HRF := hide (fun wx (hx : Ext w wx) => refusal_any (I := I) (h.ext hx) hL hA lv)
  have hne : (rfE I lv != 0) = true := by simpa using hE
  clear h hA hao hcm hE
  generalize rfE I lv = er at *
  go_enter Tryz.func123, Tryz.ntmps123
  go_wp2_with fail
  refine (unhide HRF _ (unhide H1).1).mono ?_
  rintro e w3 ⟨rfl, hx3⟩
  have hR := (unhide H1).2.ext hx3
  obtain ⟨r0, r1, r2, r3⟩ := hR.four
  obtain ⟨f0, f1, f2, f3, _⟩ := hR.frees
  have hR2 := hR.put4 (.int .i32 0) (.int .i32 0) (.int .i32 0) (.int .i32 0)
  have hX := ext_put4 (b := w.heap.size + 1) (a0 := .int .i32 0) (a1 := .int .i32 0) (a2 := .int .i32 0) (a3 := .int .i32 0) ((unhide H1).1.trans hx3) (by omega)
  have H9 := hide (And.intro hR2 hX)
  clear hR hR2 hX hx3 H1 HRF
  go_wp2
  obtain ⟨t0, t1, t2, t3⟩ := (unhide H9).1.four
  refine bodyPost_ret (v := .tuple #[.agg #[.int .i32 0, .int .i32 0, .int .i32 0, .int .i32 0], .int .i64 er]) (by simp [results, Tryz.results123, go_sem, t0, t1, t2, t3]) rfl ⟨rfl, (unhide H9).2⟩

set_option maxRecDepth 10000 in
set_option maxHeartbeats 1000000 in
theorem linear_bad (h : LR w v L) (hL : L.length ≤ 4000000000000) (hA : I.L = absL L) (lv : Int) (u q : Int) (hE : rfE I lv ≠ 0) :
    Calls Tryz.prog 122 #[.agg #[.int .i64 I.f, v, .int .i64 I.ws, .int .i64 I.wt, .int .i64 I.mn, .int .i64 I.mg], .int .i64 lv, .int .i32 u, .int .i32 q] w fun e w' => e = .returned (.tuple #[.agg #[.int .i32 0, .int .i32 0, .int .i32 0, .int .i32 0], .int .i64 (rfE I lv)]) ∧ Ext w w' := by
  obtain ⟨ao, cap, rfl, hao, hlc, hcm, _⟩ := h.shape
  have H1 := hide (And.intro (((Ext.refl w).alloc (.cells #[.int .i64 I.f, .slice ao L.length cap, .int .i64 I.ws, .int .i64 I.wt, .int .i64 I.mn, .int .i64 I.mg] 112)).alloc (.cells #[.int .i32 0, .int .i32 0, .int .i32 0, .int .i32 0] 28)) (show Blk ((w.alloc (.cells #[.int .i64 I.f, .slice ao L.length cap, .int .i64 I.ws, .int .i64 I.wt, .int .i64 I.mn, .int .i64 I.mg] 112)).alloc (.cells #[.int .i32 0, .int .i32 0, .int .i32 0, .int .i32 0] 28)) (w.heap.size + 1) #[.int .i32 0, .int .i32 0, .int .i32 0, .int .i32 0] 28 from Blk.at (by simp)))
  have HRF := hide (fun wx (hx : Ext w wx) => refusal_any (I := I) (h.ext hx) hL hA lv)
  have hne : (rfE I lv != 0) = true := by simpa using hE
  clear h hA hao hcm hE
  generalize rfE I lv = er at *
  go_enter Tryz.func122, Tryz.ntmps122
  go_wp2_with fail
  refine (unhide HRF _ (unhide H1).1).mono ?_
  rintro e w3 ⟨rfl, hx3⟩
  have hR := (unhide H1).2.ext hx3
  obtain ⟨r0, r1, r2, r3⟩ := hR.four
  obtain ⟨f0, f1, f2, f3, _⟩ := hR.frees
  have hR2 := hR.put4 (.int .i32 0) (.int .i32 0) (.int .i32 0) (.int .i32 0)
  have hX := ext_put4 (b := w.heap.size + 1) (a0 := .int .i32 0) (a1 := .int .i32 0) (a2 := .int .i32 0) (a3 := .int .i32 0) ((unhide H1).1.trans hx3) (by omega)
  have H9 := hide (And.intro hR2 hX)
  clear hR hR2 hX hx3 H1 HRF
  go_wp2
  obtain ⟨t0, t1, t2, t3⟩ := (unhide H9).1.four
  refine bodyPost_ret (v := .tuple #[.agg #[.int .i32 0, .int .i32 0, .int .i32 0, .int .i32 0], .int .i64 er]) (by simp [results, Tryz.results122, go_sem, t0, t1, t2, t3]) rfl ⟨rfl, (unhide H9).2⟩

end
end Go.Proofs.YtglfhmlcmffoaaaGreat

/-
  Colours: the walks of Nearest and Linear.
-/
namespace Go.Proofs.YtglfhmlcmffoaaaGreat
open Go.RowKit
set_option linter.unusedVariables false
set_option linter.unusedSimpArgs false

/-- Four colours as sixteen numbers. -/
def A16 (a b c d : Nat → Int) : Nat → Int
  | 0 => a 0
  | 1 => a 1
  | 2 => a 2
  | 3 => a 3
  | 4 => b 0
  | 5 => b 1
  | 6 => b 2
  | 7 => b 3
  | 8 => c 0
  | 9 => c 1
  | 10 => c 2
  | 11 => c 3
  | 12 => d 0
  | 13 => d 1
  | 14 => d 2
  | 15 => d 3
  | _ => 0

theorem Blk.c16 {w : World} {b : Nat} {o0 o1 o2 o3 o4 o5 o6 o7 o8 o9 o10 o11 o12 o13 o14 o15 : Value} {t : TypeId} (h : Blk w b #[o0, o1, o2, o3, o4, o5, o6, o7, o8, o9, o10, o11, o12, o13, o14, o15] t) : w.cell? ⟨b, 0, none⟩ = some o0 ∧ w.cell? ⟨b, 1, none⟩ = some o1 ∧ w.cell? ⟨b, 2, none⟩ = some o2 ∧ w.cell? ⟨b, 3, none⟩ = some o3 ∧ w.cell? ⟨b, 4, none⟩ = some o4 ∧ w.cell? ⟨b, 5, none⟩ = some o5 ∧ w.cell? ⟨b, 6, none⟩ = some o6 ∧ w.cell? ⟨b, 7, none⟩ = some o7 ∧ w.cell? ⟨b, 8, none⟩ = some o8 ∧ w.cell? ⟨b, 9, none⟩ = some o9 ∧ w.cell? ⟨b, 10, none⟩ = some o10 ∧ w.cell? ⟨b, 11, none⟩ = some o11 ∧ w.cell? ⟨b, 12, none⟩ = some o12 ∧ w.cell? ⟨b, 13, none⟩ = some o13 ∧ w.cell? ⟨b, 14, none⟩ = some o14 ∧ w.cell? ⟨b, 15, none⟩ = some o15 := ⟨h.cell rfl, h.cell rfl, h.cell rfl, h.cell rfl, h.cell rfl, h.cell rfl, h.cell rfl, h.cell rfl, h.cell rfl, h.cell rfl, h.cell rfl, h.cell rfl, h.cell rfl, h.cell rfl, h.cell rfl, h.cell rfl⟩
theorem Blk.z16 {w : World} {b : Nat} {t : TypeId} (h : Blk w b (Go.Proofs.YtglfhmlcmffoaaaGreat.six4 fun _ => 0) t) (k : Nat) (hk : k < 16) : w.cell? ⟨b, k, none⟩ = some (.int .i32 0) := Blk.six4 h k hk
theorem A16_bd {a b c d : Nat → Int} (ha : ∀ k, k < 4 → 0 ≤ a k ∧ a k ≤ 65536) (hb : ∀ k, k < 4 → 0 ≤ b k ∧ b k ≤ 65536) (hc : ∀ k, k < 4 → 0 ≤ c k ∧ c k ≤ 65536) (hd : ∀ k, k < 4 → 0 ≤ d k ∧ d k ≤ 65536) (i : Nat) (hi : i < 16) : 0 ≤ A16 a b c d i ∧ A16 a b c d i ≤ 65536 := by
  rcases (by omega : i = 0 ∨ i = 1 ∨ i = 2 ∨ i = 3 ∨ i = 4 ∨ i = 5 ∨ i = 6 ∨ i = 7 ∨ i = 8 ∨ i = 9 ∨ i = 10 ∨ i = 11 ∨ i = 12 ∨ i = 13 ∨ i = 14 ∨ i = 15) with rfl | rfl | rfl | rfl | rfl | rfl | rfl | rfl | rfl | rfl | rfl | rfl | rfl | rfl | rfl | rfl
  · exact ha 0 (by omega)
  · exact ha 1 (by omega)
  · exact ha 2 (by omega)
  · exact ha 3 (by omega)
  · exact hb 0 (by omega)
  · exact hb 1 (by omega)
  · exact hb 2 (by omega)
  · exact hb 3 (by omega)
  · exact hc 0 (by omega)
  · exact hc 1 (by omega)
  · exact hc 2 (by omega)
  · exact hc 3 (by omega)
  · exact hd 0 (by omega)
  · exact hd 1 (by omega)
  · exact hd 2 (by omega)
  · exact hd 3 (by omega)
theorem Blk.f16 {w : World} {b : Nat} {cs : Array Value} {t : TypeId} (h : Blk w b cs t) : w.frozen? ⟨b, 0, none⟩ = false ∧ w.frozen? ⟨b, 1, none⟩ = false ∧ w.frozen? ⟨b, 2, none⟩ = false ∧ w.frozen? ⟨b, 3, none⟩ = false ∧ w.frozen? ⟨b, 4, none⟩ = false ∧ w.frozen? ⟨b, 5, none⟩ = false ∧ w.frozen? ⟨b, 6, none⟩ = false ∧ w.frozen? ⟨b, 7, none⟩ = false ∧ w.frozen? ⟨b, 8, none⟩ = false ∧ w.frozen? ⟨b, 9, none⟩ = false ∧ w.frozen? ⟨b, 10, none⟩ = false ∧ w.frozen? ⟨b, 11, none⟩ = false ∧ w.frozen? ⟨b, 12, none⟩ = false ∧ w.frozen? ⟨b, 13, none⟩ = false ∧ w.frozen? ⟨b, 14, none⟩ = false ∧ w.frozen? ⟨b, 15, none⟩ = false := ⟨h.free 0, h.free 1, h.free 2, h.free 3, h.free 4, h.free 5, h.free 6, h.free 7, h.free 8, h.free 9, h.free 10, h.free 11, h.free 12, h.free 13, h.free 14, h.free 15⟩
theorem Blk.put16 {w : World} {b : Nat} {o0 o1 o2 o3 o4 o5 o6 o7 o8 o9 o10 o11 o12 o13 o14 o15 : Value} {t : TypeId} (h : Blk w b #[o0, o1, o2, o3, o4, o5, o6, o7, o8, o9, o10, o11, o12, o13, o14, o15] t) (a0 a1 a2 a3 a4 a5 a6 a7 a8 a9 a10 a11 a12 a13 a14 a15 : Value) : Blk ((((((((((((((((w.setCell ⟨b, 0, none⟩ a0).setCell ⟨b, 1, none⟩ a1).setCell ⟨b, 2, none⟩ a2).setCell ⟨b, 3, none⟩ a3).setCell ⟨b, 4, none⟩ a4).setCell ⟨b, 5, none⟩ a5).setCell ⟨b, 6, none⟩ a6).setCell ⟨b, 7, none⟩ a7).setCell ⟨b, 8, none⟩ a8).setCell ⟨b, 9, none⟩ a9).setCell ⟨b, 10, none⟩ a10).setCell ⟨b, 11, none⟩ a11).setCell ⟨b, 12, none⟩ a12).setCell ⟨b, 13, none⟩ a13).setCell ⟨b, 14, none⟩ a14).setCell ⟨b, 15, none⟩ a15) b #[a0, a1, a2, a3, a4, a5, a6, a7, a8, a9, a10, a11, a12, a13, a14, a15] t := by
  have h1 := ((((((((((((((((h.set 0 a0).set 1 a1).set 2 a2).set 3 a3).set 4 a4).set 5 a5).set 6 a6).set 7 a7).set 8 a8).set 9 a9).set 10 a10).set 11 a11).set 12 a12).set 13 a13).set 14 a14).set 15 a15)
  simpa using h1
theorem grown_put16 (w : World) (b : Nat) (a0 a1 a2 a3 a4 a5 a6 a7 a8 a9 a10 a11 a12 a13 a14 a15 : Value) : w.grownBy ((((((((((((((((w.setCell ⟨b, 0, none⟩ a0).setCell ⟨b, 1, none⟩ a1).setCell ⟨b, 2, none⟩ a2).setCell ⟨b, 3, none⟩ a3).setCell ⟨b, 4, none⟩ a4).setCell ⟨b, 5, none⟩ a5).setCell ⟨b, 6, none⟩ a6).setCell ⟨b, 7, none⟩ a7).setCell ⟨b, 8, none⟩ a8).setCell ⟨b, 9, none⟩ a9).setCell ⟨b, 10, none⟩ a10).setCell ⟨b, 11, none⟩ a11).setCell ⟨b, 12, none⟩ a12).setCell ⟨b, 13, none⟩ a13).setCell ⟨b, 14, none⟩ a14).setCell ⟨b, 15, none⟩ a15) (some b) := by
  have h := grownBy_set w b 0 a0
  have h := h.trans (grownBy_set _ b 1 a1)
  have h := h.trans (grownBy_set _ b 2 a2)
  have h := h.trans (grownBy_set _ b 3 a3)
  have h := h.trans (grownBy_set _ b 4 a4)
  have h := h.trans (grownBy_set _ b 5 a5)
  have h := h.trans (grownBy_set _ b 6 a6)
  have h := h.trans (grownBy_set _ b 7 a7)
  have h := h.trans (grownBy_set _ b 8 a8)
  have h := h.trans (grownBy_set _ b 9 a9)
  have h := h.trans (grownBy_set _ b 10 a10)
  have h := h.trans (grownBy_set _ b 11 a11)
  have h := h.trans (grownBy_set _ b 12 a12)
  have h := h.trans (grownBy_set _ b 13 a13)
  have h := h.trans (grownBy_set _ b 14 a14)
  have h := h.trans (grownBy_set _ b 15 a15)
  exact h
theorem ext_put16 {w w1 : World} {b : Nat} {a0 a1 a2 a3 a4 a5 a6 a7 a8 a9 a10 a11 a12 a13 a14 a15 : Value} (h : Ext w w1) (hb : w.heap.size ≤ b) : Ext w ((((((((((((((((w1.setCell ⟨b, 0, none⟩ a0).setCell ⟨b, 1, none⟩ a1).setCell ⟨b, 2, none⟩ a2).setCell ⟨b, 3, none⟩ a3).setCell ⟨b, 4, none⟩ a4).setCell ⟨b, 5, none⟩ a5).setCell ⟨b, 6, none⟩ a6).setCell ⟨b, 7, none⟩ a7).setCell ⟨b, 8, none⟩ a8).setCell ⟨b, 9, none⟩ a9).setCell ⟨b, 10, none⟩ a10).setCell ⟨b, 11, none⟩ a11).setCell ⟨b, 12, none⟩ a12).setCell ⟨b, 13, none⟩ a13).setCell ⟨b, 14, none⟩ a14).setCell ⟨b, 15, none⟩ a15) := below_grown h (grown_put16 w1 b a0 a1 a2 a3 a4 a5 a6 a7 a8 a9 a10 a11 a12 a13 a14 a15) h.size hb
section
variable {w : World} {v : Value} {L : List Ent} {I : Img}
set_option maxRecDepth 10000 in
set_option maxHeartbeats 4000000 in
theorem nearest_good (h : LR w v L) (hL : L.length ≤ 4000000000000) (hA : I.L = absL L) (hby : ∀ p ∈ L, Byt p.2.2.2) (lv u q : Int) (hu : I32 u) (hq : I32 q) (hE : rfE I lv = 0) :
    Calls Tryz.prog 123 #[.agg #[.int .i64 I.f, v, .int .i64 I.ws, .int .i64 I.wt, .int .i64 I.mn, .int .i64 I.mg], .int .i64 lv, .int .i32 u, .int .i32 q] w fun e w' => e = .returned (.tuple #[.agg #[.int .i32 ((nrI I (levAt I lv) u q) 0), .int .i32 ((nrI I (levAt I lv) u q) 1), .int .i32 ((nrI I (levAt I lv) u q) 2), .int .i32 ((nrI I (levAt I lv) u q) 3)], .int .i64 0]) ∧ Ext w w' := by
  obtain ⟨hok, hh⟩ := rf_cases I lv hE
  obtain ⟨k, hk, rfl, hlv, hlk⟩ := lv_open hA hok hh
  obtain ⟨ao, cap, rfl, hao, hlc, hcm, _⟩ := h.shape
  have hcm2 : cap ≤ 9223372036854775807 := by unfold maxLen at hcm; omega
  have H1 := hide (And.intro (((Ext.refl w).alloc (.cells #[.int .i64 I.f, .slice ao L.length cap, .int .i64 I.ws, .int .i64 I.wt, .int .i64 I.mn, .int .i64 I.mg] 112)).alloc (.cells #[.int .i32 0, .int .i32 0, .int .i32 0, .int .i32 0] 28)) (And.intro ((Blk.new w #[.int .i64 I.f, .slice ao L.length cap, .int .i64 I.ws, .int .i64 I.wt, .int .i64 I.mn, .int .i64 I.mg] 112).alloc (.cells #[.int .i32 0, .int .i32 0, .int .i32 0, .int .i32 0] 28)) (show Blk ((w.alloc (.cells #[.int .i64 I.f, .slice ao L.length cap, .int .i64 I.ws, .int .i64 I.wt, .int .i64 I.mn, .int .i64 I.mg] 112)).alloc (.cells #[.int .i32 0, .int .i32 0, .int .i32 0, .int .i32 0] 28)) (w.heap.size + 1) #[.int .i32 0, .int .i32 0, .int .i32 0, .int .i32 0] 28 from Blk.at (by simp))))
  have HRF := hide (fun wx (hx : Ext w wx) => refusal_any (I := I) (h.ext hx) hL hA (k : Int))
  rw [hE] at HRF
  have hbk := hby _ (List.getElem_mem hk)
  obtain ⟨b, off, bo, bcap, rfl, eb, c0, c1, c2, hr⟩ := h.at k hk
  have HC : Hid (∀ wx i j, Ext w wx → Calls Tryz.prog 172 #[.agg #[.int .i64 I.f, .slice (some ⟨b, off, none⟩) L.length cap, .int .i64 I.ws, .int .i64 I.wt, .int .i64 I.mn, .int .i64 I.mg], .agg #[.int .i64 L[k].1, .int .i64 L[k].2.1, .slice bo L[k].2.2.2.length bcap], .int .i64 i, .int .i64 j] wx fun e w' => e = .returned (.agg #[.int .i32 ((txI I (levAt I (k : Int)) i j) 0), .int .i32 ((txI I (levAt I (k : Int)) i j) 1), .int .i32 ((txI I (levAt I (k : Int)) i j) 2), .int .i32 ((txI I (levAt I (k : Int)) i j) 3)]) ∧ Ext wx w') := fun wx i j hx => by
    rw [hlv]
    exact scol_any hlk hbk (some ⟨b, off, none⟩) L.length cap bo bcap (hr.ext hx) i j
  have HCE : Hid (∀ wx, Ext w wx → wx.cell? ⟨b, off + k * 3, none⟩ = some (.int .i64 L[k].1) ∧ wx.cell? ⟨b, off + k * 3 + 1, none⟩ = some (.int .i64 L[k].2.1) ∧ wx.cell? ⟨b, off + k * 3 + 2, none⟩ = some (.slice bo L[k].2.2.2.length bcap)) := fun wx hx => by
    have hc : ∀ j u, w.cell? ⟨b, j, none⟩ = some u → wx.cell? ⟨b, j, none⟩ = some u := fun j u hu => by
      rw [hx.cell (p := ⟨b, j, none⟩) (World.block_lt_of_cell? w _ hu)]
      exact hu
    exact ⟨hc _ _ c0, hc _ _ c1, hc _ _ c2⟩
  have hkn : (k : Int) < (L.length : Int) := by omega
  have hWb : 1 ≤ L[k].1 ∧ L[k].1 ≤ 64 := hlk.w
  have hHb : 1 ≤ L[k].2.1 ∧ L[k].2.1 ≤ 64 := hlk.h
  have HTB : Hid (∀ i j c, c < 4 → 0 ≤ txI I (levAt I (k : Int)) i j c ∧ txI I (levAt I (k : Int)) i j c ≤ 65536) := fun i j c hc => by rw [hlv]; exact tx_bd hlk i j c hc
  have HN : Hid (nrI I (levAt I (k : Int)) u q = txI I (levAt I (k : Int)) (L[k].1 * u / 65536) (L[k].2.1 * q / 65536)) := by
    show _ = _
    rw [hlv]
    rfl
  generalize L[k].1 = W at *
  generalize L[k].2.1 = H at *
  generalize L[k].2.2.2 = bs at *
  obtain ⟨m1, m2⟩ := mul_fix hWb hu
  obtain ⟨m3, m4⟩ := mul_fix hHb hq
  obtain ⟨u1, u2⟩ := hu
  obtain ⟨u3, u4⟩ := hq
  generalize levAt I (k : Int) = lev at *
  clear h hA hao hcm hby hok hh hlv hlk c0 c1 c2 hr eb hbk hE
  go_enter Tryz.func123, Tryz.ntmps123
  go_wp2_with fail
  refine (unhide HRF _ (unhide H1).1).mono ?_
  rintro e w3 ⟨rfl, hx3⟩
  have H3 := hide (And.intro ((unhide H1).1.trans hx3) (And.intro ((unhide H1).2.1.ext hx3) ((unhide H1).2.2.ext hx3)))
  clear H1 hx3 HRF
  obtain ⟨q0, q1, q2, q3, q4, q5⟩ := (unhide H3).2.1.six
  obtain ⟨c0, c1, c2⟩ := unhide HCE w3 (unhide H3).1
  have hx4 := (Ext.refl w3).alloc (.cells #[.int .i64 W, .int .i64 H, .slice bo bs.length bcap] 156)
  have H4 := hide (And.intro ((unhide H3).1.trans hx4) (And.intro ((unhide H3).2.1.ext hx4) (And.intro ((unhide H3).2.2.ext hx4) (Blk.new w3 #[.int .i64 W, .int .i64 H, .slice bo bs.length bcap] 156))))
  clear H3 hx4
  go_upto_region 5 with fail
  generalize hw4 : w3.alloc (.cells #[.int .i64 W, .int .i64 H, .slice bo bs.length bcap] 156) = w4 at H4 ⊢
  have hsz4 : w3.heap.size < w4.heap.size := by rw [← hw4]; simp
  clear hw4 q0 q1 q2 q3 q4 q5 c0 c1 c2 HCE
  obtain ⟨q0, q1, q2, q3, q4, q5⟩ := (unhide H4).2.1.six
  obtain ⟨l0, l1, l2⟩ := (unhide H4).2.2.2.three
  go_wp2_with fail
  refine (unhide HC _ _ _ (unhide H4).1).mono ?_
  rintro e w5 ⟨rfl, hx5⟩
  have HWX : Blk w5 (w.heap.size + 1) #[.int .i32 0, .int .i32 0, .int .i32 0, .int .i32 0] 28 ∧ Ext w w5 := ⟨(unhide H4).2.2.1.ext hx5, (unhide H4).1.trans hx5⟩
  obtain ⟨r0, r1, r2, r3⟩ := HWX.1.four
  obtain ⟨f0, f1, f2, f3, _⟩ := HWX.1.frees
  have H9 := hide (And.intro (HWX.1.put4 (.int .i32 ((txI I lev (W * u / 65536) (H * q / 65536)) 0)) (.int .i32 ((txI I lev (W * u / 65536) (H * q / 65536)) 1)) (.int .i32 ((txI I lev (W * u / 65536) (H * q / 65536)) 2)) (.int .i32 ((txI I lev (W * u / 65536) (H * q / 65536)) 3))) (ext_put4 (b := w.heap.size + 1) (a0 := .int .i32 ((txI I lev (W * u / 65536) (H * q / 65536)) 0)) (a1 := .int .i32 ((txI I lev (W * u / 65536) (H * q / 65536)) 1)) (a2 := .int .i32 ((txI I lev (W * u / 65536) (H * q / 65536)) 2)) (a3 := .int .i32 ((txI I lev (W * u / 65536) (H * q / 65536)) 3)) HWX.2 (by omega)))
  clear HWX hx5 H4 HC
  go_wp2
  obtain ⟨t0, t1, t2, t3⟩ := (unhide H9).1.four
  refine bodyPost_ret (v := .tuple #[.agg #[.int .i32 ((txI I lev (W * u / 65536) (H * q / 65536)) 0), .int .i32 ((txI I lev (W * u / 65536) (H * q / 65536)) 1), .int .i32 ((txI I lev (W * u / 65536) (H * q / 65536)) 2), .int .i32 ((txI I lev (W * u / 65536) (H * q / 65536)) 3)], .int .i64 0]) (by simp [results, Tryz.results123, go_sem, t0, t1, t2, t3]) rfl ⟨by rw [unhide HN], (unhide H9).2⟩
end
end Go.Proofs.YtglfhmlcmffoaaaGreat
