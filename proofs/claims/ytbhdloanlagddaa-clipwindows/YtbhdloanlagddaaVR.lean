/-
  Vectors: the document's operations of two and of one, number by number and by component. What the dump lacks is left out.
-/
import Derived.Test.YtbhdloanlagddaaVE
import Derived.Test.YtbhdloanlagddaaFxC
namespace Go.Proofs.Ytbhdloanlagddaa
open Go.RowKit
set_option linter.unusedVariables false
set_option linter.unusedSimpArgs false

set_option maxHeartbeats 1000000 in
theorem refTwo_any (op a b : Int) (w : World) (h0 : 0 ≤ op) (h7 : op ≤ 7) (ha : I32 a) (hb : I32 b) :
    Calls Try.prog 67 #[.int .i64 op, .int .i32 a, .int .i32 b] w fun e w' => e = .returned (.int .i32 (twoI op a b)) ∧ w' = w := by
  rcases op_cases h0 h7 with rfl | rfl | rfl | rfl | rfl | rfl | rfl | rfl
  · go_enter Try.func67, Try.ntmps67
    go_wp2_with fail
    refine (refAdd_any _ _ _ ha hb).mono ?_
    rintro e w1 ⟨rfl, rfl⟩
    go_wp2
    go_ret
    exact ⟨rfl, rfl⟩
  · go_enter Try.func67, Try.ntmps67
    go_wp2_with fail
    refine (refSub_any _ _ _ ha hb).mono ?_
    rintro e w1 ⟨rfl, rfl⟩
    go_wp2
    go_ret
    exact ⟨rfl, rfl⟩
  · go_enter Try.func67, Try.ntmps67
    go_wp2_with fail
    refine (refMul_any _ _ _ ha hb).mono ?_
    rintro e w1 ⟨rfl, rfl⟩
    go_wp2
    go_ret
    exact ⟨rfl, rfl⟩
  · go_enter Try.func67, Try.ntmps67
    go_wp2_with fail
    refine (refDiv_any _ _ _ ha hb).mono ?_
    rintro e w1 ⟨rfl, rfl⟩
    go_wp2
    go_ret
    exact ⟨rfl, rfl⟩
  · by_cases h : a < b
    · have d : decide (a < b) = true := by simp; omega
      have m : min a b = a := by omega
      have M := hide m
      clear m
      go_enter Try.func67, Try.ntmps67
      go_wp2
      go_ret
      exact ⟨by simp [twoI, unhide M], rfl⟩
    · have d : decide (a < b) = false := by simp; omega
      have m : min a b = b := by omega
      have M := hide m
      clear m
      go_enter Try.func67, Try.ntmps67
      go_wp2
      go_ret
      exact ⟨by simp [twoI, unhide M], rfl⟩
  · by_cases h : b < a
    · have d : decide (b < a) = true := by simp; omega
      have m : max a b = a := by omega
      have M := hide m
      clear m
      go_enter Try.func67, Try.ntmps67
      go_wp2
      go_ret
      exact ⟨by simp [twoI, unhide M], rfl⟩
    · have d : decide (b < a) = false := by simp; omega
      have m : max a b = b := by omega
      have M := hide m
      clear m
      go_enter Try.func67, Try.ntmps67
      go_wp2
      go_ret
      exact ⟨by simp [twoI, unhide M], rfl⟩
  · go_enter Try.func67, Try.ntmps67
    go_wp2_with fail
    refine (refDiv_any _ _ _ ha hb).mono ?_
    rintro e w1 ⟨rfl, rfl⟩
    go_wp2_with fail
    refine (refFloor_any _ _ (divI_i32 a b)).mono ?_
    rintro e w1 ⟨rfl, rfl⟩
    go_wp2_with fail
    refine (refMul_any _ _ _ hb (floorI_i32 (divI_i32 a b))).mono ?_
    rintro e w1 ⟨rfl, rfl⟩
    go_wp2_with fail
    refine (refSub_any _ _ _ ha (mulI_i32 _ _)).mono ?_
    rintro e w1 ⟨rfl, rfl⟩
    go_wp2
    go_ret
    exact ⟨rfl, rfl⟩
  · by_cases h : b < a
    · go_enter Try.func67, Try.ntmps67
      go_wp2
      go_ret
      exact ⟨by simp [twoI]; omega, rfl⟩
    · go_enter Try.func67, Try.ntmps67
      go_wp2
      go_ret
      exact ⟨by simp [twoI]; omega, rfl⟩

set_option maxHeartbeats 1000000 in
theorem refTwos_any (op n : Int) (a b : Nat → Int) (w : World) (h0 : 0 ≤ op) (h7 : op ≤ 7) (h1 : 1 ≤ n) (h4 : n ≤ 4) (Ia : ∀ i, I32 (a i)) (Ib : ∀ i, I32 (b i)) :
    Calls Try.prog 60 #[.int .i64 op, .int .i64 n, .agg #[.int .i32 (a 0), .int .i32 (a 1), .int .i32 (a 2), .int .i32 (a 3)], .agg #[.int .i32 (b 0), .int .i32 (b 1), .int .i32 (b 2), .int .i32 (b 3)]] w fun e w' => e = .returned (.agg #[.int .i32 (cut n (fun i => twoI op (a i) (b i)) 0), .int .i32 (cut n (fun i => twoI op (a i) (b i)) 1), .int .i32 (cut n (fun i => twoI op (a i) (b i)) 2), .int .i32 (cut n (fun i => twoI op (a i) (b i)) 3)]) ∧ Ext w w' := by
  have HI := hide (And.intro Ia Ib)
  clear Ia Ib
  generalize hf : (fun i => twoI op (a i) (b i)) = f at *
  have HE : Hid (∀ i, f i = twoI op (a i) (b i)) := fun i => by rw [← hf]
  clear hf
  go_enter Try.func60, Try.ntmps60
  go_wp2
  go_loopw [10] (fun i wr => ∃ k : Nat, (k : Int) ≤ n ∧ i = .int .i64 k ∧ Blk wr w.heap.size #[.int .i32 (a 0), .int .i32 (a 1), .int .i32 (a 2), .int .i32 (a 3)] 26 ∧ Blk wr (w.heap.size + 1) #[.int .i32 (b 0), .int .i32 (b 1), .int .i32 (b 2), .int .i32 (b 3)] 26 ∧ Blk wr (w.heap.size + 1 + 1) #[.int .i32 (nul 0), .int .i32 (nul 1), .int .i32 (nul 2), .int .i32 (nul 3)] 26 ∧ Blk wr (w.heap.size + 1 + 1 + 1) #[.int .i32 (cut k f 0), .int .i32 (cut k f 1), .int .i32 (cut k f 2), .int .i32 (cut k f 3)] 26 ∧ Ext w wr) (fun i _ => n.toNat - (intOf i).toNat)
  case atStart =>
    refine ⟨0, by omega, rfl, (((Blk.at rfl).alloc _).alloc _).alloc _, ((Blk.at (by simp)).alloc _).alloc _, (Blk.at (by simp)).alloc _, ?_, ((((Ext.refl w).alloc _).alloc _).alloc _).alloc _⟩
    simp only [cut_zero]
    exact Blk.at (by simp)
  case round =>
    obtain ⟨k, hk, rfl, hba, hbb, hb0, hb1, hx⟩ := hrel
    have D := hide (And.intro hba (And.intro hbb (And.intro hb0 (And.intro hb1 hx))))
    clear hba hbb hb0 hb1 hx
    by_cases hlt : (k : Int) < n
    · have hk4 : k < 4 := by omega
      have hki : (k : Int) < 4 := by omega
      have ca := (unhide D).1.vec k hk4
      have cb := (unhide D).2.1.vec k hk4
      have c1 := (unhide D).2.2.2.1.vec k hk4
      have f1 := (unhide D).2.2.2.1.free k
      have s1 : ∀ x, (wr.setCell ⟨w.heap.size + 1 + 1 + 1, k, none⟩ x).cell? ⟨w.heap.size, k, none⟩ = some (.int .i32 (a k)) := fun x => ((unhide D).1.other k x (by omega)).vec k hk4
      have s2 : ∀ x, (wr.setCell ⟨w.heap.size + 1 + 1 + 1, k, none⟩ x).cell? ⟨w.heap.size + 1, k, none⟩ = some (.int .i32 (b k)) := fun x => ((unhide D).2.1.other k x (by omega)).vec k hk4
      go_wp2
      go_region_held3 (fun w' => w'.cell? ⟨w.heap.size, k, none⟩ = some (.int .i32 (a k)) ∧ w'.cell? ⟨w.heap.size + 1, k, none⟩ = some (.int .i32 (b k))) (first | go_keep | exact ⟨s1 _, s2 _⟩) (first | (go_at_call 67; refine (refTwo_any op (a k) (b k) _ h0 h7 ((unhide HI).1 _) ((unhide HI).2 _)).mono ?_; rintro e w' ⟨rfl, rfl⟩))
      go_wp2
      go_roundw
      case rel =>
        refine ⟨k + 1, by omega, by go_num, ((unhide D).1.other k _ (by omega)).drewN 1, ((unhide D).2.1.other k _ (by omega)).drewN 1, ((unhide D).2.2.1.other k _ (by omega)).drewN 1, ?_, (ext_set (unhide D).2.2.2.2 (by omega)).drew⟩
        have := (unhide D).2.2.2.1.set k (.int .i32 (f k))
        rw [cut_set f k hk4, unhide HE k] at this
        exact this
      case measure => simp [intOf]; omega
    · have hkn : (k : Int) = n := by omega
      rw [hkn] at D
      obtain ⟨c0, c1, c2, c3⟩ := (unhide D).2.2.2.1.vec4
      obtain ⟨r0, r1, r2, r3⟩ := (unhide D).2.2.1.vec4
      obtain ⟨f0, f1, f2, f3⟩ := (unhide D).2.2.1.free4
      clear hkn
      go_wp2
      obtain ⟨q0, q1, q2, q3⟩ := lay4 (unhide D).2.2.1 (.int .i32 (cut n f 0)) (.int .i32 (cut n f 1)) (.int .i32 (cut n f 2)) (.int .i32 (cut n f 3))
      refine bodyPost_ret (v := .agg #[.int .i32 (cut n f 0), .int .i32 (cut n f 1), .int .i32 (cut n f 2), .int .i32 (cut n f 3)]) (by simp [results, Try.results60, go_sem, q0, q1, q2, q3]) rfl ⟨rfl, ?_⟩
      exact ext_set4 (unhide D).2.2.2.2 (by omega)

end Go.Proofs.Ytbhdloanlagddaa
