/-
  Vertices and primitives out of bytes: '==' of vectors, of three places, of primitives; that the layer does anything (wakes).
-/
import Derived.Test.YtmigakbccmkjoaaFEo
import Derived.Test.YtmigakbccmkjoaaFEp
import Derived.Test.YtmigakbccmkjoaaFEf
import Derived.BigQuiet
import Derived.Deep.CondSized
namespace Go.Proofs.Ytmigakbccmkjoaa
open Go.RowKit
set_option linter.unusedVariables false
set_option linter.unusedSimpArgs false

theorem eqVf (x0 x1 x2 x3 y0 y1 y2 y3 : Int) (w : World) : (Op.equalIn 10000 35 (.agg #[.int .i32 x0, .int .i32 x1, .int .i32 x2, .int .i32 x3]) (.agg #[.int .i32 y0, .int .i32 y1, .int .i32 y2, .int .i32 y3])).run Try.prog w = .ok (x0 == y0 && (x1 == y1 && (x2 == y2 && x3 == y3))) w := by
  have u3 := Try.underlying33
  have a3 := Try.isAgg33
  have z3 := Try.sizeOf33
  rw [show (10000 : Nat) = 9999 + 1 from rfl, Op.equalIn]
  simp only [Sem.run_bind, run_underlying Try.underlying35, Result.andThen_ok]
  simp only [Std.Legacy.Range.forIn_eq_forIn_range', Std.Legacy.Range.size, Nat.sub_zero, Nat.add_sub_cancel, Nat.div_one, List.range'_succ, List.range'_zero, List.forIn_cons, List.forIn_nil]
  go_simp
  by_cases h1 : x0 = y0 <;> by_cases h2 : x1 = y1 <;> by_cases h3 : x2 = y2 <;> by_cases h4 : x3 = y3 <;> simp [h1, h2, h3, h4]
theorem eqIntF (d : Nat) (x y : Int) (w : World) : (Op.equalIn (d + 1) 3 (.int .i64 x) (.int .i64 y)).run Try.prog w = .ok (x == y) w := by
  rw [Op.equalIn]
  simp only [Sem.run_bind, run_underlying Try.underlying3, Result.andThen_ok]
  go_simp
theorem eqThree (d : Nat) (x0 x1 x2 y0 y1 y2 : Int) (w : World) : (Op.equalIn (d + 2) 57 (.agg #[.int .i64 x0, .int .i64 x1, .int .i64 x2]) (.agg #[.int .i64 y0, .int .i64 y1, .int .i64 y2])).run Try.prog w = .ok (x0 == y0 && (x1 == y1 && x2 == y2)) w := by
  have u3 := Try.underlying3
  have a3 := Try.isAgg3
  have z3 := Try.sizeOf3
  have e := fun a b => eqIntF d a b w
  rw [show d + 2 = (d + 1) + 1 from rfl, Op.equalIn]
  simp only [Sem.run_bind, run_underlying Try.underlying57, Result.andThen_ok]
  simp only [Std.Legacy.Range.forIn_eq_forIn_range', Std.Legacy.Range.size, Nat.sub_zero, Nat.add_sub_cancel, Nat.div_one, List.range'_succ, List.range'_zero, List.forIn_cons, List.forIn_nil]
  go_simp
  by_cases h1 : x0 = y0 <;> by_cases h2 : x1 = y1 <;> by_cases h3 : x2 = y2 <;> simp [h1, h2, h3]
theorem eqPrm (x0 x1 x2 x3 y0 y1 y2 y3 : Int) (w : World) : (Op.equalIn 10000 59 (.agg #[.int .i64 x0, .int .i64 x1, .int .i64 x2, .int .i64 x3]) (.agg #[.int .i64 y0, .int .i64 y1, .int .i64 y2, .int .i64 y3])).run Try.prog w = .ok (x0 == y0 && (x1 == y1 && (x2 == y2 && x3 == y3))) w := by
  have e := fun a b => eqIntF 9998 a b w
  have ep := fun a b c a' b' c' => eqThree 9997 a b c a' b' c' w
  have hst : Try.prog.stoodInHeld 59 = false := by kernel_rfl
  rw [show (10000 : Nat) = 9999 + 1 from rfl, Op.equalIn]
  simp only [Sem.run_bind, run_underlying Try.underlying59, Result.andThen_ok]
  go_simp
  by_cases h0 : x0 = y0
  case neg => simp [h0]
  rw [if_pos h0]
  by_cases h1 : x1 = y1 <;> by_cases h2 : x2 = y2 <;> by_cases h3 : x3 = y3 <;> simp [h0, h1, h2, h3]

set_option maxHeartbeats 1000000 in
theorem wakes20_any (w : World) :
    Calls Try.prog 8 #[] w fun e w' => e = .returned (.bool true) ∧ Ext w w' := by
  have hE := eqVf
  have hE3 : ∀ (x0 x1 x2 y0 y1 y2 : Int) (w : World), (Op.equalIn 10000 57 (.agg #[.int .i64 x0, .int .i64 x1, .int .i64 x2]) (.agg #[.int .i64 y0, .int .i64 y1, .int .i64 y2])).run Try.prog w = .ok (x0 == y0 && (x1 == y1 && x2 == y2)) w := fun x0 x1 x2 y0 y1 y2 w => eqThree 9998 x0 x1 x2 y0 y1 y2 w
  have k0 : vtxE [1, 2, 3] ⟨2, 2, false, 0, 1⟩ 0 = 0 := by decide
  have k1 : vtxV [1, 2, 3] ⟨2, 2, false, 0, 1⟩ 0 0 = 131072 := by decide
  have k2 : vtxV [1, 2, 3] ⟨2, 2, false, 0, 1⟩ 0 1 = 196608 := by decide
  have k3 : vtxV [1, 2, 3] ⟨2, 2, false, 0, 1⟩ 0 2 = 0 := by decide
  have k4 : vtxV [1, 2, 3] ⟨2, 2, false, 0, 1⟩ 0 3 = 65536 := by decide
  have p1 : (prmL 5 [4, 5, 6, 7]).length = 2 := by decide
  have p2 : ∀ h, (prmL 5 [4, 5, 6, 7])[1]'h = prmF 5 [4, 5, 6, 7] 1 := fun _ => rfl
  have p3 : prmF 5 [4, 5, 6, 7] 1 1 = 6 := by decide
  have p4 : prmF 5 [4, 5, 6, 7] 1 2 = 5 := by decide
  have p5 : prmF 5 [4, 5, 6, 7] 1 3 = 7 := by decide
  have K := hide (And.intro k0 (And.intro k1 (And.intro k2 (And.intro k3 k4))))
  have KP := hide (And.intro p1 (And.intro p2 (And.intro p3 (And.intro p4 p5))))
  clear k0 k1 k2 k3 k4 p1 p2 p3 p4 p5
  have hrow : Row .u8 (w.alloc (.cells #[.int .u8 1, .int .u8 2, .int .u8 3] 5)) (.slice (some ⟨w.heap.size, 0, none⟩) 3 3) [1, 2, 3] := by
    refine .inr ⟨by simp, w.heap.size, 0, 3, rfl, by simp, by unfold maxLen; decide, fun i hi => ?_⟩
    have hi3 : i < 3 := by simpa using hi
    refine (Blk.new w #[.int .u8 1, .int .u8 2, .int .u8 3] 5).cell ?_
    rcases (by omega : i = 0 ∨ i = 1 ∨ i = 2) with rfl | rfl | rfl <;> rfl
  have HV := hide (fvertex_any _ [1, 2, 3] ⟨2, 2, false, 0, 1⟩ 0 _ hrow (by intro x hx; simp at hx; omega) (by simp))
  clear hrow
  unfold arC at HV
  rw [(unhide K).1, (unhide K).2.1, (unhide K).2.2.1, (unhide K).2.2.2.1, (unhide K).2.2.2.2] at HV
  go_enter Try.func8, Try.ntmps8
  go_wp2_with fail
  refine (unhide HV).mono ?_
  rintro e w1 ⟨rfl, hx1⟩
  have B := hide (Blk.new w1 #[.int .i32 131072, .int .i32 196608, .int .i32 0, .int .i32 65536] 35)
  have X := hide ((((Ext.refl w).alloc (.cells #[.int .u8 1, .int .u8 2, .int .u8 3] 5)).trans hx1).alloc (.cells #[.int .i32 131072, .int .i32 196608, .int .i32 0, .int .i32 65536] 35))
  clear hx1 HV
  go_wp2_with fail
  have hrow : Row .i64 ((w1.alloc (.cells #[.int .i32 131072, .int .i32 196608, .int .i32 0, .int .i32 65536] 35)).alloc (.cells #[.int .i64 4, .int .i64 5, .int .i64 6, .int .i64 7] 3)) (.slice (some ⟨w1.heap.size + 1, 0, none⟩) 4 4) [4, 5, 6, 7] := by
    refine .inr ⟨by simp, w1.heap.size + 1, 0, 4, rfl, by simp, by unfold maxLen; decide, fun i hi => ?_⟩
    have hi3 : i < 4 := by simpa using hi
    refine (Blk.at (w := w1.alloc (.cells #[.int .i32 131072, .int .i32 196608, .int .i32 0, .int .i32 65536] 35)) (cs := #[.int .i64 4, .int .i64 5, .int .i64 6, .int .i64 7]) (t := 3) (b := w1.heap.size + 1) (by simp)).cell ?_
    rcases (by omega : i = 0 ∨ i = 1 ∨ i = 2 ∨ i = 3) with rfl | rfl | rfl | rfl <;> rfl
  refine (prims_ok _ [4, 5, 6, 7] 5 _ hrow rfl (by simp)).mono ?_
  rintro e w2 ⟨ao, cap, rfl, hgo, hx2⟩
  have hxx := ((Ext.refl (w1.alloc (.cells #[.int .i32 131072, .int .i32 196608, .int .i32 0, .int .i32 65536] 35))).alloc (.cells #[.int .i64 4, .int .i64 5, .int .i64 6, .int .i64 7] 3)).trans hx2
  obtain ⟨g, rfl, _, _, hc⟩ := GO.at pEnc_len hgo 1 (by rw [(unhide KP).1]; omega)
  rw [(unhide KP).2.1] at hc
  have q1 := hc 1 _ (by omega) rfl
  have q2 := hc 2 _ (by omega) rfl
  have q3 := hc 3 _ (by omega) rfl
  rw [(unhide KP).2.2.1] at q1
  rw [(unhide KP).2.2.2.1] at q2
  rw [(unhide KP).2.2.2.2] at q3
  simp only [Nat.one_mul, Nat.reduceAdd, Nat.add_zero] at q1 q2 q3
  rw [(unhide KP).1]
  have c0 := ((unhide B).ext hxx).cell (i := 0) rfl
  have c1 := ((unhide B).ext hxx).cell (i := 1) rfl
  have c2 := ((unhide B).ext hxx).cell (i := 2) rfl
  have c3 := ((unhide B).ext hxx).cell (i := 3) rfl
  have X2 := hide ((unhide X).trans hxx)
  clear hx2 X B hxx hc hgo hrow
  go_wp2
  go_ret
  exact ⟨rfl, unhide X2⟩
end Go.Proofs.Ytmigakbccmkjoaa
