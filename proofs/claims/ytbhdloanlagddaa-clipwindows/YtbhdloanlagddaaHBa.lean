/-
  The document's: Distance, part, Right, vars, SameWin. What the dump lacks is left out.
-/
import Derived.Test.YtbhdloanlagddaaHAd
import Derived.Test.YtbhdloanlagddaaVT
import Derived.Deep.RegionHeld3
namespace Go.Proofs.Ytbhdloanlagddaa
open Go.RowKit
set_option linter.unusedVariables false
set_option linter.unusedSimpArgs false

set_option maxRecDepth 10000 in
set_option maxHeartbeats 2000000 in
theorem refDist_any (p : Vt) (u : Value) (n : Int) (w : World) (hI : ∀ i, I32 (p.p i)) (hn : 0 ≤ n ∧ n ≤ 6) :
    Calls Try.prog 23 #[.agg #[.int .i32 (Vt.p p 0), .int .i32 (Vt.p p 1), .int .i32 (Vt.p p 2), .int .i32 (Vt.p p 3), .int .i32 (Vt.s p), u], .int .i64 n] w fun e w' => e = .returned (.int .i32 (clD p.p n)) ∧ Ext w w' := by
  have HI := hide hI
  have hB : Blk (w.alloc (.cells #[.int .i32 (Vt.p p 0), .int .i32 (Vt.p p 1), .int .i32 (Vt.p p 2), .int .i32 (Vt.p p 3), .int .i32 (Vt.s p), u] 29)) w.heap.size #[.int .i32 (Vt.p p 0), .int .i32 (Vt.p p 1), .int .i32 (Vt.p p 2), .int .i32 (Vt.p p 3), .int .i32 (Vt.s p), u] 29 := Blk.new _ _ _
  have c0 := hB.cell (i := 0) rfl
  have c1 := hB.cell (i := 1) rfl
  have c2 := hB.cell (i := 2) rfl
  have c3 := hB.cell (i := 3) rfl
  have HX := hide (show Ext w (w.alloc (.cells #[.int .i32 (Vt.p p 0), .int .i32 (Vt.p p 1), .int .i32 (Vt.p p 2), .int .i32 (Vt.p p 3), .int .i32 (Vt.s p), u] 29)) from (Ext.refl w).alloc _)
  clear hI hB
  have h6 : n = 0 ∨ n = 1 ∨ n = 2 ∨ n = 3 ∨ n = 4 ∨ n = 5 ∨ n = 6 := by omega
  clear hn
  rcases h6 with rfl | rfl | rfl | rfl | rfl | rfl | rfl
  · rw [show clD p.p 0 = subI (p.p 3) 1 from rfl]
    go_enter Try.func23, Try.ntmps23
    go_wp2_with (go_at_call 39; refine (refSub_any _ _ _ (unhide HI 3) one32).mono ?_; rintro e w' ⟨rfl, rfl⟩)
    go_ret
    exact ⟨rfl, unhide HX⟩
  · rw [show clD p.p 1 = addI (p.p 3) (p.p 0) from rfl]
    go_enter Try.func23, Try.ntmps23
    go_wp2_with (go_at_call 40; refine (refAdd_any _ _ _ (unhide HI 3) (unhide HI 0)).mono ?_; rintro e w' ⟨rfl, rfl⟩)
    go_ret
    exact ⟨rfl, unhide HX⟩
  · rw [show clD p.p 2 = subI (p.p 3) (p.p 0) from rfl]
    go_enter Try.func23, Try.ntmps23
    go_wp2_with (go_at_call 39; refine (refSub_any _ _ _ (unhide HI 3) (unhide HI 0)).mono ?_; rintro e w' ⟨rfl, rfl⟩)
    go_ret
    exact ⟨rfl, unhide HX⟩
  · rw [show clD p.p 3 = addI (p.p 3) (p.p 1) from rfl]
    go_enter Try.func23, Try.ntmps23
    go_wp2_with (go_at_call 40; refine (refAdd_any _ _ _ (unhide HI 3) (unhide HI 1)).mono ?_; rintro e w' ⟨rfl, rfl⟩)
    go_ret
    exact ⟨rfl, unhide HX⟩
  · rw [show clD p.p 4 = subI (p.p 3) (p.p 1) from rfl]
    go_enter Try.func23, Try.ntmps23
    go_wp2_with (go_at_call 39; refine (refSub_any _ _ _ (unhide HI 3) (unhide HI 1)).mono ?_; rintro e w' ⟨rfl, rfl⟩)
    go_ret
    exact ⟨rfl, unhide HX⟩
  · rw [show clD p.p 5 = addI (p.p 3) (p.p 2) from rfl]
    go_enter Try.func23, Try.ntmps23
    go_wp2_with (go_at_call 40; refine (refAdd_any _ _ _ (unhide HI 3) (unhide HI 2)).mono ?_; rintro e w' ⟨rfl, rfl⟩)
    go_ret
    exact ⟨rfl, unhide HX⟩
  · rw [show clD p.p 6 = subI (p.p 3) (p.p 2) from rfl]
    go_enter Try.func23, Try.ntmps23
    go_wp2_with (go_at_call 39; refine (refSub_any _ _ _ (unhide HI 3) (unhide HI 2)).mono ?_; rintro e w' ⟨rfl, rfl⟩)
    go_ret
    exact ⟨rfl, unhide HX⟩

set_option maxHeartbeats 1000000 in
theorem refPart_any (a b : Int) (w : World) (ha : I32 a) (hb : I32 b) :
    Calls Try.prog 43 #[.int .i32 a, .int .i32 b] w fun e w' => e = .returned (.int .i64 (shrI a b)) ∧ w' = w := by
  have hd := divI_i32 a b
  have hs : shrI a b = clampI (divI a b) (-65536) 65536 + 65536 := rfl
  have HD := hide (fun wx => refDiv_any a b wx ha hb)
  rw [hs]
  clear hs
  generalize divI a b = d at *
  unfold I32 at hd
  have hw : IntKind.i64.wrap d = d := by simp [IntKind.wrap, IntKind.bits, IntKind.signed]; omega
  rcases (by omega : d < -65536 ∨ (-65536 ≤ d ∧ d ≤ 65536) ∨ 65536 < d) with h | ⟨h, h'⟩ | h
  · have b1 : decide (d < -65536) = true := by simpa using h
    have e : clampI d (-65536) 65536 + 65536 = 0 := by unfold clampI; omega
    rw [e]
    clear e h
    go_enter Try.func43, Try.ntmps43
    go_wp2_with (go_at_call 51; refine (unhide HD _).mono ?_; rintro e w' ⟨rfl, rfl⟩)
    go_ret
    exact ⟨by first | rfl | simp, rfl⟩
  · have b1 : decide (d < -65536) = false := by simpa using h
    have b2 : decide (65536 < d) = false := by simpa using h'
    have e : clampI d (-65536) 65536 + 65536 = d + 65536 := by unfold clampI; omega
    rw [e]
    clear e
    go_enter Try.func43, Try.ntmps43
    go_wp2_with (go_at_call 51; refine (unhide HD _).mono ?_; rintro e w' ⟨rfl, rfl⟩)
    go_ret
    exact ⟨by first | rfl | simp, rfl⟩
  · have b1 : decide (d < -65536) = false := by simp; omega
    have b2 : decide (65536 < d) = true := by simpa using h
    have e : clampI d (-65536) 65536 + 65536 = 131072 := by unfold clampI; omega
    rw [e]
    clear e
    go_enter Try.func43, Try.ntmps43
    go_wp2_with (go_at_call 51; refine (unhide HD _).mono ?_; rintro e w' ⟨rfl, rfl⟩)
    go_ret
    exact ⟨by first | rfl | simp, rfl⟩

/-- A window's four whole numbers, one by one. -/
def vwN (v : Vw) (i : Nat) : Int := if i = 0 then v.X else if i = 1 then v.Y else if i = 2 then v.W else v.H
def vwK (v : Vw) (k : Nat) : Bool := (List.range k).all fun i => decide (0 ≤ vwN v i) && decide (vwN v i ≤ 64)
theorem vwK_succ (v : Vw) (k : Nat) : vwK v (k + 1) = (vwK v k && (decide (0 ≤ vwN v k) && decide (vwN v k ≤ 64))) := by simp [vwK, List.range_succ]
theorem vwK_no {v : Vw} {i : Nat} (hi : i < 4) (h : vwN v i < 0 ∨ 64 < vwN v i) : vwOk v = false := by
  unfold vwOk
  rw [decide_eq_false_iff_not]
  rintro ⟨_, _, _, _, _, _, _, _, _, _, _⟩
  rcases (by omega : i = 0 ∨ i = 1 ∨ i = 2 ∨ i = 3) with rfl | rfl | rfl | rfl <;> simp [vwN] at h <;> omega
theorem vwK_4 {v : Vw} (h : vwK v 4 = true) : vwOk v = (decide (v.X + v.W ≤ 64) && (decide (v.Y + v.H ≤ 64) && (decide (0 ≤ v.Nr) && (decide (v.Nr ≤ 65536) && (decide (0 ≤ v.Fr) && decide (v.Fr ≤ 65536)))))) ∧ (0 ≤ v.X ∧ v.X ≤ 64) ∧ (0 ≤ v.Y ∧ v.Y ≤ 64) ∧ (0 ≤ v.W ∧ v.W ≤ 64) ∧ (0 ≤ v.H ∧ v.H ≤ 64) := by
  have g : ∀ i, i < 4 → 0 ≤ vwN v i ∧ vwN v i ≤ 64 := fun i hi => by
    have := List.all_eq_true.1 h i (by simpa using hi)
    simpa using this
  have g0 := g 0 (by omega)
  have g1 := g 1 (by omega)
  have g2 := g 2 (by omega)
  have g3 := g 3 (by omega)
  simp [vwN] at g0 g1 g2 g3
  refine ⟨?_, g0, g1, g2, g3⟩
  unfold vwOk
  rw [Bool.eq_iff_iff]
  simp only [decide_eq_true_eq, Bool.and_eq_true]
  omega

set_option maxRecDepth 10000 in
set_option maxHeartbeats 2000000 in
theorem refRight21_any (v : Vw) (w : World) : Calls Try.prog 11 #[.agg #[.int .i64 (Vw.X v), .int .i64 (Vw.Y v), .int .i64 (Vw.W v), .int .i64 (Vw.H v), .int .i32 (Vw.Nr v), .int .i32 (Vw.Fr v)]] w fun e w' => e = .returned (.bool (vwOk v)) ∧ Ext w w' := by
  have hB : Blk (w.alloc (.cells #[.int .i64 (Vw.X v), .int .i64 (Vw.Y v), .int .i64 (Vw.W v), .int .i64 (Vw.H v), .int .i32 (Vw.Nr v), .int .i32 (Vw.Fr v)] 24)) w.heap.size #[.int .i64 (Vw.X v), .int .i64 (Vw.Y v), .int .i64 (Vw.W v), .int .i64 (Vw.H v), .int .i32 (Vw.Nr v), .int .i32 (Vw.Fr v)] 24 := Blk.new _ _ _
  have HBV := hide hB
  have HX := hide (show Ext w (w.alloc (.cells #[.int .i64 (Vw.X v), .int .i64 (Vw.Y v), .int .i64 (Vw.W v), .int .i64 (Vw.H v), .int .i32 (Vw.Nr v), .int .i32 (Vw.Fr v)] 24)) from (Ext.refl w).alloc _)
  obtain ⟨c0, c1, c2, c3, c4, c5⟩ := hB.six
  clear hB
  go_enter Try.func11, Try.ntmps11
  go_wp2_with fail
  obtain ⟨wc, hwc⟩ : ∃ wc, wc = w.alloc (.cells #[.int .i64 (Vw.X v), .int .i64 (Vw.Y v), .int .i64 (Vw.W v), .int .i64 (Vw.H v), .int .i32 (Vw.Nr v), .int .i32 (Vw.Fr v)] 24) := ⟨_, rfl⟩
  have hs : wc.heap.size = w.heap.size + 1 := by rw [hwc]; simp
  rw [← hwc] at HBV HX ⊢
  clear hwc c0 c1 c2 c3 c4 c5
  obtain ⟨wd, hwd⟩ : ∃ wd, wd = wc.alloc (.cells #[.int .i64 v.X, .int .i64 v.Y, .int .i64 v.W, .int .i64 v.H] 3) := ⟨_, rfl⟩
  have HL := hide (show Blk wd (w.heap.size + 1) #[.int .i64 v.X, .int .i64 v.Y, .int .i64 v.W, .int .i64 v.H] 3 by rw [hwd]; exact Blk.at hs)
  have HD := hide (show Ext wc wd by rw [hwd]; exact (Ext.refl _).alloc _)
  rw [← hwd]
  clear hwd hs
  go_loopw [15] (fun iv wr => ∃ k : Nat, k ≤ 4 ∧ iv = .int .i64 (k : Int) ∧ wr = wd ∧ Hid (vwK v k = true)) (fun iv _ => 4 - (intOf iv).toNat)
  case atStart => exact ⟨0, by omega, rfl, rfl, rfl⟩
  case round =>
    obtain ⟨k, hk, rfl, rfl, HK⟩ := hrel
    by_cases hlt : k < 4
    · have hk4 : (k : Int) < 4 := by omega
      have ck : wr.cell? ⟨w.heap.size + 1, k, none⟩ = some (.int .i64 (vwN v k)) := by
        refine (unhide HL).cell ?_
        rcases (by omega : k = 0 ∨ k = 1 ∨ k = 2 ∨ k = 3) with rfl | rfl | rfl | rfl <;> rfl
      have HS := hide (vwK_succ v k)
      have HNO := hide (fun h => vwK_no (v := v) hlt h)
      generalize vwN v k = x at *
      rcases (by omega : x < 0 ∨ (0 ≤ x ∧ x ≤ 64) ∨ (0 ≤ x ∧ 64 < x)) with h | ⟨h, h'⟩ | ⟨h, h'⟩
      · have b1 : decide (x < 0) = true := by simpa using h
        have HE := hide (unhide HNO (.inl h))
        clear HS HNO h
        go_wp2
        go_ret
        exact ⟨by rw [unhide HE]; rfl, (unhide HX).trans (unhide HD)⟩
      · have b1 : decide (x < 0) = false := by simpa using h
        have b2 : decide (64 < x) = false := by simpa using h'
        have HS2 := hide (show vwK v (k + 1) = true by rw [unhide HS, unhide HK]; simp [h, h'])
        clear HS HNO HK h h'
        go_wp2
        go_roundw
        case rel => exact ⟨k + 1, by omega, by push_cast; rfl, trivial, HS2⟩
        case measure => simp [intOf]; omega
      · have b1 : decide (x < 0) = false := by simpa using h
        have b2 : decide (64 < x) = true := by simpa using h'
        have HE := hide (unhide HNO (.inr h'))
        clear HS HNO HK h h'
        go_wp2
        go_ret
        exact ⟨by rw [unhide HE]; rfl, (unhide HX).trans (unhide HD)⟩
    · obtain rfl : k = 4 := by omega
      obtain ⟨hE, hx, hy, hw, hh⟩ := vwK_4 (unhide HK)
      have HE := hide hE
      have w1 : IntKind.i64.wrap (v.X + v.W) = v.X + v.W := by simp [IntKind.wrap, IntKind.bits, IntKind.signed]; omega
      have w2 : IntKind.i64.wrap (v.Y + v.H) = v.Y + v.H := by simp [IntKind.wrap, IntKind.bits, IntKind.signed]; omega
      obtain ⟨c0, c1, c2, c3, c4, c5⟩ := ((unhide HBV).ext (unhide HD)).six
      clear HK hE hx hy hw hh hlt hk HL
      have HXX := hide ((unhide HX).trans (unhide HD))
      cases b1 : decide (v.X + v.W ≤ 64) <;> cases b2 : decide (v.Y + v.H ≤ 64) <;> cases b3 : decide (0 ≤ v.Nr) <;> cases b4 : decide (v.Nr ≤ 65536) <;> cases b5 : decide (0 ≤ v.Fr) <;> cases b6 : decide (v.Fr ≤ 65536)
      all_goals
        go_wp2
        go_ret
        exact ⟨by rw [unhide HE, b1, b2, b3, b4, b5, b6]; rfl, unhide HXX⟩
end Go.Proofs.Ytbhdloanlagddaa
