/-
  Pixels: that the layer does anything (wakes); '==' of two vectors; Bits and Number, the two ways in one.
-/
import Derived.Test.YtijkkhnhejadgaaPI
namespace Go.Proofs.Ytijkkhnhejadgaa
open Go.RowKit

/-- Four numbers as a vector. -/
def v4 (x0 x1 x2 x3 : Int) : Nat → Int
  | 0 => x0
  | 1 => x1
  | 2 => x2
  | 3 => x3
  | _ => 0

/-- What '==' says of two vectors. -/
theorem eqV (x0 x1 x2 x3 y0 y1 y2 y3 : Int) (w : World) : (Op.equalIn 10000 35 (.agg #[.int .i32 x0, .int .i32 x1, .int .i32 x2, .int .i32 x3]) (.agg #[.int .i32 y0, .int .i32 y1, .int .i32 y2, .int .i32 y3])).run Try.prog w = .ok (x0 == y0 && (x1 == y1 && (x2 == y2 && x3 == y3))) w := by
  have u3 := Try.underlying22
  have a3 := Try.isAgg22
  have z3 := Try.sizeOf22
  rw [show (10000 : Nat) = 9999 + 1 from rfl, Op.equalIn]
  simp only [Sem.run_bind, run_underlying Try.underlying35, Result.andThen_ok]
  simp only [Std.Legacy.Range.forIn_eq_forIn_range', Std.Legacy.Range.size, Nat.sub_zero, Nat.add_sub_cancel, Nat.div_one, List.range'_succ, List.range'_zero, List.forIn_cons, List.forIn_nil]
  go_simp
  by_cases h1 : x0 = y0 <;> by_cases h2 : x1 = y1 <;> by_cases h3 : x2 = y2 <;> by_cases h4 : x3 = y3 <;> simp [h1, h2, h3, h4]

theorem pk_wake : pk 2 (v4 65536 0 0 0) = [0, 248] := by
  unfold pk
  rw [pack2]
  decide

set_option maxHeartbeats 1000000 in
theorem wakes_any (w : World) :
    Calls Try.prog 9 #[] w fun e w' => e = .returned (.bool true) ∧ Ext w w' := by
  have hE := eqV
  go_enter Try.func9, Try.ntmps9
  go_wp2_with fail
  refine (pack_any 2 (v4 65536 0 0 0) _ (by omega) (by omega)).mono ?_
  rintro e w1 ⟨ao, cap, rfl, hr, hx⟩
  rw [pk_wake] at hr
  rw [show siz 2 = 2 from rfl] at hr ⊢
  obtain ⟨b, off, rfl, hc⟩ := hr.at 0 (by simp)
  have HR := hide hr
  have X := hide (hx.alloc (.cells #[.int .u8 255] 5))
  clear hx hc hr
  go_wp2_with fail
  refine (unpack_any 5 (some ⟨w1.heap.size, 0, none⟩) 1 [255] _ (by omega) (by omega) (Row.one _ _ _ _) (by intro x hx; obtain rfl : x = 255 := (by simpa using hx); omega) rfl).mono ?_
  rintro e w2 ⟨rfl, hx⟩
  have k0 : colN 5 (numOf [255]) 0 = 65536 := by decide
  have k1 : colN 5 (numOf [255]) 1 = 65536 := by decide
  have k2 : colN 5 (numOf [255]) 2 = 65536 := by decide
  have k3 : colN 5 (numOf [255]) 3 = 65536 := by decide
  rw [k0, k1, k2, k3]
  have X2 := hide (((unhide X).trans hx).alloc (.cells #[.int .i32 65536, .int .i32 65536, .int .i32 65536, .int .i32 65536] 35))
  obtain ⟨b', off', e', hc⟩ := ((unhide HR).ext ((((Ext.refl w1).alloc _).trans hx).alloc (.cells #[.int .i32 65536, .int .i32 65536, .int .i32 65536, .int .i32 65536] 35))).at 0 (by simp)
  cases e'
  have c1 := hc 1 (by simp)
  rw [show ([0, 248] : List Int)[1] = 248 from rfl] at c1
  clear hc hx k0 k1 k2 k3
  go_wp2
  go_ret
  exact ⟨rfl, unhide X2⟩
end Go.Proofs.Ytijkkhnhejadgaa
