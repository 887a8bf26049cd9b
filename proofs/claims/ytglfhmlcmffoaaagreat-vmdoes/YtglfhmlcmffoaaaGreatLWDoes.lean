/-
  Proved: VmDoes answers true for every operation and every three vectors: Do answers what the document's operation makes of the numbers, for all operations, bases and counts that it lists and for the one that is handed in, or ErrArg and nothing but 0. No condition.
-/
import Derived.Test.YtglfhmlcmffoaaaGreatVDd
import Derived.Test.YtglfhmlcmffoaaaGreatVFk
import Derived.Test.YtglfhmlcmffoaaaGreatVWk
namespace Go.Proofs.YtglfhmlcmffoaaaGreat
open Go.ChangeShapes Go.WideShapes Go.ChangeAt Go.RowKit
set_option linter.unusedVariables false
set_option linter.unusedSimpArgs false

theorem size12 : (Tryz.prog.info? 53).map (·.size) = some 12 := by kernel_rfl
theorem size3W : (Tryz.prog.info? 52).map (·.size) = some 3 := by kernel_rfl

set_option maxRecDepth 10000 in
set_option maxHeartbeats 1000000 in
theorem doesLaw_any (f0 f1 f2 : Int) (a b c : Nat → Int) (W : World) (Ia : ∀ i, I32 (a i)) (Ib : ∀ i, I32 (b i)) (Ic : ∀ i, I32 (c i)) :
    Calls Tryz.prog 4 #[.agg #[.int .i64 f0, .int .i64 f1, .int .i64 f2], .agg #[.int .i32 (a 0), .int .i32 (a 1), .int .i32 (a 2), .int .i32 (a 3), .int .i32 (b 0), .int .i32 (b 1), .int .i32 (b 2), .int .i32 (b 3), .int .i32 (c 0), .int .i32 (c 1), .int .i32 (c 2), .int .i32 (c 3)]] W fun e w' => e = .returned (.bool true) ∧ Ext W w' := by
  have HDN := hide (fun (g0 g1 g2 : Int) wx => lawDone_any g0 g1 g2 a b c wx Ia Ib Ic)
  have D := hide (show Blk ((W.alloc (.cells #[.int .i64 f0, .int .i64 f1, .int .i64 f2] 52)).alloc (.cells #[.int .i32 (a 0), .int .i32 (a 1), .int .i32 (a 2), .int .i32 (a 3), .int .i32 (b 0), .int .i32 (b 1), .int .i32 (b 2), .int .i32 (b 3), .int .i32 (c 0), .int .i32 (c 1), .int .i32 (c 2), .int .i32 (c 3)] 53)) W.heap.size #[.int .i64 f0, .int .i64 f1, .int .i64 f2] 52 ∧ Blk ((W.alloc (.cells #[.int .i64 f0, .int .i64 f1, .int .i64 f2] 52)).alloc (.cells #[.int .i32 (a 0), .int .i32 (a 1), .int .i32 (a 2), .int .i32 (a 3), .int .i32 (b 0), .int .i32 (b 1), .int .i32 (b 2), .int .i32 (b 3), .int .i32 (c 0), .int .i32 (c 1), .int .i32 (c 2), .int .i32 (c 3)] 53)) (W.heap.size + 1) #[.int .i32 (a 0), .int .i32 (a 1), .int .i32 (a 2), .int .i32 (a 3), .int .i32 (b 0), .int .i32 (b 1), .int .i32 (b 2), .int .i32 (b 3), .int .i32 (c 0), .int .i32 (c 1), .int .i32 (c 2), .int .i32 (c 3)] 53 ∧ Ext W ((W.alloc (.cells #[.int .i64 f0, .int .i64 f1, .int .i64 f2] 52)).alloc (.cells #[.int .i32 (a 0), .int .i32 (a 1), .int .i32 (a 2), .int .i32 (a 3), .int .i32 (b 0), .int .i32 (b 1), .int .i32 (b 2), .int .i32 (b 3), .int .i32 (c 0), .int .i32 (c 1), .int .i32 (c 2), .int .i32 (c 3)] 53)) from ⟨(Blk.new W _ _).alloc _, Blk.at (by simp), ((Ext.refl W).alloc _).alloc _⟩)
  clear Ia Ib Ic
  go_enter Tryz.func4, Tryz.ntmps4
  go_upto_region 1 with fail
  generalize hw0 : ((W.alloc (.cells #[.int .i64 f0, .int .i64 f1, .int .i64 f2] 52)).alloc (.cells #[.int .i32 (a 0), .int .i32 (a 1), .int .i32 (a 2), .int .i32 (a 3), .int .i32 (b 0), .int .i32 (b 1), .int .i32 (b 2), .int .i32 (b 3), .int .i32 (c 0), .int .i32 (c 1), .int .i32 (c 2), .int .i32 (c 3)] 53)) = w0 at D
  try rw [show ((W.alloc (.cells #[.int .i64 f0, .int .i64 f1, .int .i64 f2] 52)).alloc (.cells #[.int .i32 (a 0), .int .i32 (a 1), .int .i32 (a 2), .int .i32 (a 3), .int .i32 (b 0), .int .i32 (b 1), .int .i32 (b 2), .int .i32 (b 3), .int .i32 (c 0), .int .i32 (c 1), .int .i32 (c 2), .int .i32 (c 3)] 53)) = w0 from hw0]
  clear hw0
  have HWK := hide (wakes18_any w0)
  go_wp2_with (go_at_call 9; refine (unhide HWK).mono ?_; rintro e w1 ⟨rfl, hx1⟩; have X1 := hide hx1; clear hx1)
  have D1 := hide (And.intro ((unhide D).1.ext (unhide X1)) (And.intro ((unhide D).2.1.ext (unhide X1)) ((unhide D).2.2.trans (unhide X1))))
  clear D X1 HWK
  go_loopw [10] (fun p wr => ∃ k : Nat, k ≤ 40 ∧ p = .int .i64 (k : Int) ∧ Hid (Blk wr W.heap.size #[.int .i64 f0, .int .i64 f1, .int .i64 f2] 52 ∧ Blk wr (W.heap.size + 1) #[.int .i32 (a 0), .int .i32 (a 1), .int .i32 (a 2), .int .i32 (a 3), .int .i32 (b 0), .int .i32 (b 1), .int .i32 (b 2), .int .i32 (b 3), .int .i32 (c 0), .int .i32 (c 1), .int .i32 (c 2), .int .i32 (c 3)] 53 ∧ Ext W wr)) (fun p _ => 40 - (intOf p).toNat)
  case atStart => exact ⟨0, Nat.zero_le _, rfl, unhide D1⟩
  case round =>
    obtain ⟨k, hk, rfl, R9⟩ := hrel
    clear D1
    by_cases hlt : k < 40
    case pos =>
      have hki : (k : Int) < 40 := by omega
      go_wp2
      go_loopw [13] (fun p wr => ∃ m : Nat, m ≤ 5 ∧ p = .int .i64 (m : Int) ∧ Hid (Blk wr W.heap.size #[.int .i64 f0, .int .i64 f1, .int .i64 f2] 52 ∧ Blk wr (W.heap.size + 1) #[.int .i32 (a 0), .int .i32 (a 1), .int .i32 (a 2), .int .i32 (a 3), .int .i32 (b 0), .int .i32 (b 1), .int .i32 (b 2), .int .i32 (b 3), .int .i32 (c 0), .int .i32 (c 1), .int .i32 (c 2), .int .i32 (c 3)] 53 ∧ Ext W wr)) (fun p _ => 5 - (intOf p).toNat)
      case atStart => exact ⟨0, Nat.zero_le _, rfl, unhide R9⟩
      case round =>
        obtain ⟨m, hm, rfl, R8⟩ := hrel
        clear R9
        by_cases hlm : m < 5
        case pos =>
          have hmi : (m : Int) < 5 := by omega
          go_wp2
          go_loopw [16] (fun p wr => ∃ n : Nat, n ≤ 6 ∧ p = .int .i64 (n : Int) ∧ Hid (Blk wr W.heap.size #[.int .i64 f0, .int .i64 f1, .int .i64 f2] 52 ∧ Blk wr (W.heap.size + 1) #[.int .i32 (a 0), .int .i32 (a 1), .int .i32 (a 2), .int .i32 (a 3), .int .i32 (b 0), .int .i32 (b 1), .int .i32 (b 2), .int .i32 (b 3), .int .i32 (c 0), .int .i32 (c 1), .int .i32 (c 2), .int .i32 (c 3)] 53 ∧ Ext W wr)) (fun p _ => 6 - (intOf p).toNat)
          case atStart => exact ⟨0, Nat.zero_le _, rfl, unhide R8⟩
          case round =>
            obtain ⟨n, hn, rfl, R0⟩ := hrel
            clear R8
            by_cases hln : n < 6
            case pos =>
              have hni : (n : Int) < 6 := by omega
              go_wp2_with (first
            | refine wpList_load_row rfl 53 (.tmp 3) rfl (W.heap.size + 1) rfl 53 #[.int .i32 (a 0), .int .i32 (a 1), .int .i32 (a 2), .int .i32 (a 3), .int .i32 (b 0), .int .i32 (b 1), .int .i32 (b 2), .int .i32 (b 3), .int .i32 (c 0), .int .i32 (c 1), .int .i32 (c 2), .int .i32 (c 3)] (0, 0) _ (unhide R0).2.1 Tryz.underlying53 rfl size12 ?_
            | (go_at_call 21; refine (unhide HDN _ _ _ _).mono ?_; rintro e w5 ⟨rfl, hx5⟩; have X5 := hide hx5; clear hx5))
              have R1 := hide (And.intro ((unhide R0).1.ext (unhide X5)) (And.intro ((unhide R0).2.1.ext (unhide X5)) ((unhide R0).2.2.trans (unhide X5))))
              clear R0 X5
              go_roundw
              case rel => exact ⟨n + 1, by omega, by go_num, unhide R1⟩
              case measure => simp [intOf]; omega
            case neg =>
              obtain rfl : n = 6 := by omega
              go_wp2
              go_roundw
              case rel => exact ⟨m + 1, by omega, by go_num, unhide R0⟩
              case measure => simp [intOf]; omega
        case neg =>
          obtain rfl : m = 5 := by omega
          go_wp2
          go_roundw
          case rel => exact ⟨k + 1, by omega, by go_num, unhide R8⟩
          case measure => simp [intOf]; omega
    case neg =>
      obtain rfl : k = 40 := by omega
      go_wp2_with (first
        | refine wpList_load_row rfl 52 (.tmp 2) rfl W.heap.size rfl 52 #[.int .i64 f0, .int .i64 f1, .int .i64 f2] (0, 0) _ (unhide R9).1 Tryz.underlying52 rfl size3W ?_
        | refine wpList_load_row rfl 53 (.tmp 3) rfl (W.heap.size + 1) rfl 53 #[.int .i32 (a 0), .int .i32 (a 1), .int .i32 (a 2), .int .i32 (a 3), .int .i32 (b 0), .int .i32 (b 1), .int .i32 (b 2), .int .i32 (b 3), .int .i32 (c 0), .int .i32 (c 1), .int .i32 (c 2), .int .i32 (c 3)] (0, 0) _ (unhide R9).2.1 Tryz.underlying53 rfl size12 ?_
        | (go_at_call 21; refine (unhide HDN _ _ _ _).mono ?_; rintro e w5 ⟨rfl, hx5⟩; have X5 := hide hx5; clear hx5))
      go_ret
      exact ⟨rfl, (unhide R9).2.2.trans (unhide X5)⟩

set_option maxRecDepth 100000 in
theorem vmdoes_owes (H : Type) (enc : TypeId × Value → H) (W : World) (base : Nat) (args : Array Value) (ds : List (DataW H)) (p : List MemPlace) : Owes H enc Tryz.prog 4 Tryz.f4 Rows.vmDoesSpec W base args ds p := by
  intro hval hA hsz
  rw [Tryz.params4] at hA hval hsz
  obtain ⟨v0, vs0, d0, ds0, p0, q0, hargs, rfl, rfl, h0, r0⟩ := trodAll_cons hA
  obtain ⟨v1, vs1, d1, ds1, p1, q1, rfl, rfl, rfl, h1, r1⟩ := trodAll_cons r0
  obtain ⟨rfl, rfl, rfl⟩ := trodAll_nil r1
  obtain rfl : args = #[v0, v1] := by cases args; simp_all
  obtain ⟨f0, f1, f2, rfl, _⟩ := open_work (hval 0 52 v0 rfl rfl) h0
  obtain ⟨a, b, c, rfl, Ia, Ib, Ic⟩ := open_vec3 (hval 1 53 v1 rfl rfl) h1
  exact ⟨⟨rfl, rfl, rfl⟩, doesLaw_any f0 f1 f2 a b c W Ia Ib Ic⟩

set_option maxRecDepth 100000 in
theorem vmdoes_lifted (os : Os) (started : os.Started) (H : Type) (enc : TypeId × Value → H) :
    ReturnsInHanded {} Tryz.checked os 4 .any (Rows.vmDoesSpec.pre6 enc Tryz.prog Tryz.f4 [] false) (Rows.vmDoesSpec.post enc Tryz.prog Tryz.f4 false true false false) :=
  lift_law (C := Tryz.checked) own laidOut started (by kernel_rfl) Tryz.func4 (T := 4) rfl Tryz.underlying4 rfl (by kernel_rfl)
    (ChangeSpec.witness6 (enc := enc) (C := Tryz.checked) false ⟨#[], #[.agg #[.int .i64 0, .int .i64 0, .int .i64 0], .agg #[.int .i32 0, .int .i32 0, .int .i32 0, .int .i32 0, .int .i32 0, .int .i32 0, .int .i32 0, .int .i32 0, .int .i32 0, .int .i32 0, .int .i32 0, .int .i32 0]], []⟩ 8 (by kernel_rfl) (by kernel_rfl) (by kernel_rfl) (by kernel_rfl)) (vmdoes_owes H enc)

theorem vmDoes_holds : Rows.VmDoesSaid :=
  OpenClaim.holds_of_wide 4 Tryz.f4 rfl rfl rfl rfl rfl rfl rfl ⟨rfl, rfl, rfl, rfl, rfl⟩ rfl rfl rfl rfl rfl (by kernel_rfl) Tryz.func4 (by kernel_rfl)
    (of_decide_eq_true (by kernel_rfl)) (by unfold Func.isWrapper; rw [if_neg (of_decide_eq_false (by kernel_rfl))]; exact ⟨rfl, rfl⟩)
    (fun os started H enc _ => vmdoes_lifted os started H enc)
#print axioms vmDoes_holds
end Go.Proofs.YtglfhmlcmffoaaaGreat
