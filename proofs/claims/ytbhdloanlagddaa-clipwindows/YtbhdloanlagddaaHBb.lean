/-
  The document's: vars, SameWin, of what is the same. What the dump lacks is left out.
-/
import Derived.Test.YtbhdloanlagddaaHAd
import Derived.Deep.DeepCutAuto
import Derived.BigQuiet
namespace Go.Proofs.Ytbhdloanlagddaa
open Go.RowKit
set_option linter.unusedVariables false
set_option linter.unusedSimpArgs false

theorem eqVh (x0 x1 x2 x3 : Int) (w : World) : (Op.equalIn 10000 26 (.agg #[.int .i32 x0, .int .i32 x1, .int .i32 x2, .int .i32 x3]) (.agg #[.int .i32 x0, .int .i32 x1, .int .i32 x2, .int .i32 x3])).run Try.prog w = .ok true w := by
  have u3 := Try.underlying22
  have a3 := Try.isAgg22
  have z3 := Try.sizeOf22
  rw [show (10000 : Nat) = 9999 + 1 from rfl, Op.equalIn]
  simp only [Sem.run_bind, run_underlying Try.underlying26, Result.andThen_ok]
  simp only [Std.Legacy.Range.forIn_eq_forIn_range', Std.Legacy.Range.size, Nat.sub_zero, Nat.add_sub_cancel, Nat.div_one, List.range'_succ, List.range'_zero, List.forIn_cons, List.forIn_nil]
  go_simp
theorem SR.shp {w : World} {u : Value} {vs : List (Nat → Int)} (h : VQ w u vs) : ∃ ao cap, u = .slice ao vs.length cap := by
  obtain ⟨ao, cap, rfl, _⟩ := h
  exact ⟨ao, cap, rfl⟩
/-- The cells of a row of vectors. -/
theorem vq_all {ao : Option Addr} {n cap : Nat} {w : World} {R : List (Nat → Int)} (h : VQ w (.slice ao n cap) R) (h0 : 0 < R.length) : ∃ b off, ao = some ⟨b, off, none⟩ ∧ ∀ i (hi : i < R.length) wx, Ext w wx →
    (wx.cell? ⟨b, off + i * 4, none⟩ = some (.int .i32 (R[i] 0)) ∧ wx.cell? ⟨b, off + i * 4 + 1, none⟩ = some (.int .i32 (R[i] 1)) ∧ wx.cell? ⟨b, off + i * 4 + 2, none⟩ = some (.int .i32 (R[i] 2)) ∧ wx.cell? ⟨b, off + i * 4 + 3, none⟩ = some (.int .i32 (R[i] 3))) := by
  obtain ⟨b, off, rfl, hc⟩ := SR.all h h0
  exact ⟨b, off, rfl, fun i hi wx hx => ⟨hc i hi wx hx 0 _ rfl, hc i hi wx hx 1 _ rfl, hc i hi wx hx 2 _ rfl, hc i hi wx hx 3 _ rfl⟩⟩

set_option maxRecDepth 10000 in
set_option maxHeartbeats 2000000 in
theorem varsC_any (a b : Value) (vs : List (Nat → Int)) (w : World) (ha : VQ w a vs) (hb : VQ w b vs) (hl : vs.length ≤ 1000) :
    Calls Try.prog 36 #[a, b] w fun e w' => e = .returned (.bool true) ∧ Ext w w' := by
  obtain ⟨ao, ca, rfl⟩ := SR.shp ha
  obtain ⟨bo, cb, rfl⟩ := SR.shp hb
  have HA := hide ha
  have HB := hide hb
  clear ha hb
  obtain ⟨m, hm⟩ : ∃ m, vs.length = m := ⟨_, rfl⟩
  have HM := hide hm
  rw [hm] at HA HB hl ⊢
  clear hm
  go_enter Try.func36, Try.ntmps36
  go_wp2_with fail
  go_loopw [5] (fun iv wr => ∃ k : Nat, k ≤ m ∧ iv = .int .i64 (k : Int) ∧ Ext w wr) (fun iv _ => m - (intOf iv).toNat)
  case atStart => exact ⟨0, Nat.zero_le _, rfl, Ext.refl _⟩
  case round =>
    obtain ⟨k, hk, rfl, hX⟩ := hrel
    have HX := hide hX
    clear hX
    by_cases hlt : k < m
    · have hkn : (k : Int) < (m : Int) := by omega
      have hk1 : k < vs.length := by rw [unhide HM]; exact hlt
      obtain ⟨b1, o1, rfl, hc1⟩ := vq_all (unhide HA) (by omega)
      obtain ⟨b2, o2, rfl, hc2⟩ := vq_all (unhide HB) (by omega)
      obtain ⟨p0, p1, p2, p3⟩ := hc1 k hk1 wr (unhide HX)
      obtain ⟨q0, q1, q2, q3⟩ := hc2 k hk1 wr (unhide HX)
      clear hc1 hc2
      generalize vs[k] = x at *
      have hE := fun wx => eqVh (x 0) (x 1) (x 2) (x 3) wx
      clear hk1
      go_upto_region 6 with fail
      go_quiet (fail)
      go_wp2
      go_roundw
      case rel => exact ⟨k + 1, by omega, by push_cast; rfl, (unhide HX).drewN _⟩
      case measure => simp [intOf]; omega
    · obtain rfl : k = m := by omega
      go_wp2
      go_ret
      exact ⟨rfl, unhide HX⟩

set_option maxRecDepth 10000 in
set_option maxHeartbeats 2000000 in
theorem sameWin_any (l : Wn) (a b : Value) (vs : List (Nat → Int)) (w : World) (ha : VQ w a vs) (hb : VQ w b vs) (hl : vs.length ≤ 1000) :
    Calls Try.prog 26 #[.agg #[.int .i64 (Wn.x l), .int .i64 (Wn.y l), .int .i32 (Wn.z l), .int .i32 (Wn.w l), .int .i32 (Wn.s l), a], .agg #[.int .i64 (Wn.x l), .int .i64 (Wn.y l), .int .i32 (Wn.z l), .int .i32 (Wn.w l), .int .i32 (Wn.s l), b]] w fun e w' => e = .returned (.bool true) ∧ Ext w w' := by
  obtain ⟨ao, ca, rfl⟩ := SR.shp ha
  obtain ⟨bo, cb, rfl⟩ := SR.shp hb
  have hX : Ext w ((w.alloc (.cells #[.int .i64 (Wn.x l), .int .i64 (Wn.y l), .int .i32 (Wn.z l), .int .i32 (Wn.w l), .int .i32 (Wn.s l), .slice ao vs.length ca] 44)).alloc (.cells #[.int .i64 (Wn.x l), .int .i64 (Wn.y l), .int .i32 (Wn.z l), .int .i32 (Wn.w l), .int .i32 (Wn.s l), .slice bo vs.length cb] 44)) := ((Ext.refl w).alloc _).alloc _
  have h1 : Blk ((w.alloc (.cells #[.int .i64 (Wn.x l), .int .i64 (Wn.y l), .int .i32 (Wn.z l), .int .i32 (Wn.w l), .int .i32 (Wn.s l), .slice ao vs.length ca] 44)).alloc (.cells #[.int .i64 (Wn.x l), .int .i64 (Wn.y l), .int .i32 (Wn.z l), .int .i32 (Wn.w l), .int .i32 (Wn.s l), .slice bo vs.length cb] 44)) w.heap.size #[.int .i64 (Wn.x l), .int .i64 (Wn.y l), .int .i32 (Wn.z l), .int .i32 (Wn.w l), .int .i32 (Wn.s l), .slice ao vs.length ca] 44 := (Blk.new _ _ _).alloc _
  have h2 : Blk ((w.alloc (.cells #[.int .i64 (Wn.x l), .int .i64 (Wn.y l), .int .i32 (Wn.z l), .int .i32 (Wn.w l), .int .i32 (Wn.s l), .slice ao vs.length ca] 44)).alloc (.cells #[.int .i64 (Wn.x l), .int .i64 (Wn.y l), .int .i32 (Wn.z l), .int .i32 (Wn.w l), .int .i32 (Wn.s l), .slice bo vs.length cb] 44)) (w.heap.size + 1) #[.int .i64 (Wn.x l), .int .i64 (Wn.y l), .int .i32 (Wn.z l), .int .i32 (Wn.w l), .int .i32 (Wn.s l), .slice bo vs.length cb] 44 := Blk.at (by simp)
  obtain ⟨p0, p1, p2, p3, p4, p5⟩ := h1.six
  obtain ⟨q0, q1, q2, q3, q4, q5⟩ := h2.six
  have HV := hide (varsC_any _ _ vs _ (SR.ext ha hX) (SR.ext hb hX) hl)
  have HX := hide hX
  clear ha hb h1 h2 hX
  go_enter Try.func26, Try.ntmps26
  go_wp2_with (go_at_call 36; refine (unhide HV).mono ?_; rintro e w1 ⟨rfl, hx1⟩; have X1 := hide ((unhide HX).trans hx1); clear hx1)
  go_ret
  exact ⟨by first | rfl | simp, unhide X1⟩
end Go.Proofs.Ytbhdloanlagddaa
