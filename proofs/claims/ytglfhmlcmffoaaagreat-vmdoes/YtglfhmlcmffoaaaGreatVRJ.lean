/- Several texts in one. -/
import Derived.Test.YtglfhmlcmffoaaaGreatMYJ
import Derived.Test.YtglfhmlcmffoaaaGreatVEJ
import Derived.Test.YtglfhmlcmffoaaaGreatMAJ
/-
  Vectors: the document's operations of two and of one, number by number and by component. What the dump lacks is left out.
-/
namespace Go.Proofs.YtglfhmlcmffoaaaGreat
open Go.RowKit
set_option linter.unusedVariables false
set_option linter.unusedSimpArgs false

set_option maxHeartbeats 1000000 in
theorem refTwo_any (op a b : Int) (w : World) (h0 : 0 ≤ op) (h7 : op ≤ 7) (ha : I32 a) (hb : I32 b) :
    Calls Tryz.prog 57 #[.int .i64 op, .int .i32 a, .int .i32 b] w fun e w' => e = .returned (.int .i32 (twoI op a b)) ∧ w' = w := by
  rcases op_cases h0 h7 with rfl | rfl | rfl | rfl | rfl | rfl | rfl | rfl
  · go_enter Tryz.func57, Tryz.ntmps57
    go_wp2_with fail
    refine (refAdd_any _ _ _ ha hb).mono ?_
    rintro e w1 ⟨rfl, rfl⟩
    go_wp2
    go_ret
    exact ⟨rfl, rfl⟩
  · go_enter Tryz.func57, Tryz.ntmps57
    go_wp2_with fail
    refine (refSub_any _ _ _ ha hb).mono ?_
    rintro e w1 ⟨rfl, rfl⟩
    go_wp2
    go_ret
    exact ⟨rfl, rfl⟩
  · go_enter Tryz.func57, Tryz.ntmps57
    go_wp2_with fail
    refine (refMul_any _ _ _ ha hb).mono ?_
    rintro e w1 ⟨rfl, rfl⟩
    go_wp2
    go_ret
    exact ⟨rfl, rfl⟩
  · go_enter Tryz.func57, Tryz.ntmps57
    go_wp2_with fail
    refine (refDiv_any _ _ _ ha hb).mono ?_
    rintro e w1 ⟨rfl, rfl⟩
    go_wp2
    go_ret
    exact ⟨rfl, rfl⟩
  · by_cases h : a < b
    · have d : decide (a < b) = true := by simp; omega
      have m : min a b = a := by omega
      have M := hide m
      clear m
      go_enter Tryz.func57, Tryz.ntmps57
      go_wp2
      go_ret
      exact ⟨by simp [twoI, unhide M], rfl⟩
    · have d : decide (a < b) = false := by simp; omega
      have m : min a b = b := by omega
      have M := hide m
      clear m
      go_enter Tryz.func57, Tryz.ntmps57
      go_wp2
      go_ret
      exact ⟨by simp [twoI, unhide M], rfl⟩
  · by_cases h : b < a
    · have d : decide (b < a) = true := by simp; omega
      have m : max a b = a := by omega
      have M := hide m
      clear m
      go_enter Tryz.func57, Tryz.ntmps57
      go_wp2
      go_ret
      exact ⟨by simp [twoI, unhide M], rfl⟩
    · have d : decide (b < a) = false := by simp; omega
      have m : max a b = b := by omega
      have M := hide m
      clear m
      go_enter Tryz.func57, Tryz.ntmps57
      go_wp2
      go_ret
      exact ⟨by simp [twoI, unhide M], rfl⟩
  · go_enter Tryz.func57, Tryz.ntmps57
    go_wp2_with fail
    refine (refDiv_any _ _ _ ha hb).mono ?_
    rintro e w1 ⟨rfl, rfl⟩
    go_wp2_with fail
    refine (refFloor_any _ _ (divI_i32 a b)).mono ?_
    rintro e w1 ⟨rfl, rfl⟩
    go_wp2_with fail
    refine (refMul_any _ _ _ hb (floorI_i32 (divI_i32 a b))).mono ?_
    rintro e w1 ⟨rfl, rfl⟩
    go_wp2_with fail
    refine (refSub_any _ _ _ ha (mulI_i32 _ _)).mono ?_
    rintro e w1 ⟨rfl, rfl⟩
    go_wp2
    go_ret
    exact ⟨rfl, rfl⟩
  · by_cases h : b < a
    · go_enter Tryz.func57, Tryz.ntmps57
      go_wp2
      go_ret
      exact ⟨by simp [twoI]; omega, rfl⟩
    · go_enter Tryz.func57, Tryz.ntmps57
      go_wp2
      go_ret
      exact ⟨by simp [twoI]; omega, rfl⟩

set_option maxHeartbeats 1000000 in
theorem refTwos_any (op n : Int) (a b : Nat → Int) (w : World) (h0 : 0 ≤ op) (h7 : op ≤ 7) (h1 : 1 ≤ n) (h4 : n ≤ 4) (Ia : ∀ i, I32 (a i)) (Ib : ∀ i, I32 (b i)) :
    Calls Tryz.prog 79 #[.int .i64 op, .int .i64 n, .agg #[.int .i32 (a 0), .int .i32 (a 1), .int .i32 (a 2), .int .i32 (a 3)], .agg #[.int .i32 (b 0), .int .i32 (b 1), .int .i32 (b 2), .int .i32 (b 3)]] w fun e w' => e = .returned (.agg #[.int .i32 (cut n (fun i => twoI op (a i) (b i)) 0), .int .i32 (cut n (fun i => twoI op (a i) (b i)) 1), .int .i32 (cut n (fun i => twoI op (a i) (b i)) 2), .int .i32 (cut n (fun i => twoI op (a i) (b i)) 3)]) ∧ Ext w w' := by
  have HI := hide (And.intro Ia Ib)
  clear Ia Ib
  generalize hf : (fun i => twoI op (a i) (b i)) = f at *
  have HE : Hid (∀ i, f i = twoI op (a i) (b i)) := fun i => by rw [← hf]
  clear hf
  go_enter Tryz.func79, Tryz.ntmps79
  go_wp2
  go_loopw [10] (fun i wr => ∃ k : Nat, (k : Int) ≤ n ∧ i = .int .i64 k ∧ Blk wr w.heap.size #[.int .i32 (a 0), .int .i32 (a 1), .int .i32 (a 2), .int .i32 (a 3)] 28 ∧ Blk wr (w.heap.size + 1) #[.int .i32 (b 0), .int .i32 (b 1), .int .i32 (b 2), .int .i32 (b 3)] 28 ∧ Blk wr (w.heap.size + 1 + 1) #[.int .i32 (nul 0), .int .i32 (nul 1), .int .i32 (nul 2), .int .i32 (nul 3)] 28 ∧ Blk wr (w.heap.size + 1 + 1 + 1) #[.int .i32 (cut k f 0), .int .i32 (cut k f 1), .int .i32 (cut k f 2), .int .i32 (cut k f 3)] 28 ∧ Ext w wr) (fun i _ => n.toNat - (intOf i).toNat)
  case atStart =>
    refine ⟨0, by omega, rfl, (((Blk.at rfl).alloc _).alloc _).alloc _, ((Blk.at (by simp)).alloc _).alloc _, (Blk.at (by simp)).alloc _, ?_, ((((Ext.refl w).alloc _).alloc _).alloc _).alloc _⟩
    simp only [cut_zero]
    exact Blk.at (by simp)
  case round =>
    obtain ⟨k, hk, rfl, hba, hbb, hb0, hb1, hx⟩ := hrel
    have D := hide (And.intro hba (And.intro hbb (And.intro hb0 (And.intro hb1 hx))))
    clear hba hbb hb0 hb1 hx
    by_cases hlt : (k : Int) < n
    · have hk4 : k < 4 := by omega
      have hki : (k : Int) < 4 := by omega
      have ca := (unhide D).1.vec k hk4
      have cb := (unhide D).2.1.vec k hk4
      have c1 := (unhide D).2.2.2.1.vec k hk4
      have f1 := (unhide D).2.2.2.1.free k
      have s1 : ∀ x, (wr.setCell ⟨w.heap.size + 1 + 1 + 1, k, none⟩ x).cell? ⟨w.heap.size, k, none⟩ = some (.int .i32 (a k)) := fun x => ((unhide D).1.other k x (by omega)).vec k hk4
      have s2 : ∀ x, (wr.setCell ⟨w.heap.size + 1 + 1 + 1, k, none⟩ x).cell? ⟨w.heap.size + 1, k, none⟩ = some (.int .i32 (b k)) := fun x => ((unhide D).2.1.other k x (by omega)).vec k hk4
      go_wp2
      go_region_held3 (fun w' => w'.cell? ⟨w.heap.size, k, none⟩ = some (.int .i32 (a k)) ∧ w'.cell? ⟨w.heap.size + 1, k, none⟩ = some (.int .i32 (b k))) (first | go_keep | exact ⟨s1 _, s2 _⟩) (first | (go_at_call 57; refine (refTwo_any op (a k) (b k) _ h0 h7 ((unhide HI).1 _) ((unhide HI).2 _)).mono ?_; rintro e w' ⟨rfl, rfl⟩))
      go_wp2
      go_roundw
      case rel =>
        refine ⟨k + 1, by omega, by go_num, ((unhide D).1.other k _ (by omega)).drewN 1, ((unhide D).2.1.other k _ (by omega)).drewN 1, ((unhide D).2.2.1.other k _ (by omega)).drewN 1, ?_, (ext_set (unhide D).2.2.2.2 (by omega)).drew⟩
        have := (unhide D).2.2.2.1.set k (.int .i32 (f k))
        rw [cut_set f k hk4, unhide HE k] at this
        exact this
      case measure => simp [intOf]; omega
    · have hkn : (k : Int) = n := by omega
      rw [hkn] at D
      obtain ⟨c0, c1, c2, c3⟩ := (unhide D).2.2.2.1.vec4
      obtain ⟨r0, r1, r2, r3⟩ := (unhide D).2.2.1.vec4
      obtain ⟨f0, f1, f2, f3⟩ := (unhide D).2.2.1.free4
      clear hkn
      go_wp2
      obtain ⟨q0, q1, q2, q3⟩ := lay4 (unhide D).2.2.1 (.int .i32 (cut n f 0)) (.int .i32 (cut n f 1)) (.int .i32 (cut n f 2)) (.int .i32 (cut n f 3))
      refine bodyPost_ret (v := .agg #[.int .i32 (cut n f 0), .int .i32 (cut n f 1), .int .i32 (cut n f 2), .int .i32 (cut n f 3)]) (by simp [results, Tryz.results79, go_sem, q0, q1, q2, q3]) rfl ⟨rfl, ?_⟩
      exact ext_set4 (unhide D).2.2.2.2 (by omega)

end Go.Proofs.YtglfhmlcmffoaaaGreat

/-
  Vectors: the document's One, Ones, less, Cross, Dot, Mix, Clamp. What the dump lacks is left out.
-/
namespace Go.Proofs.YtglfhmlcmffoaaaGreat
open Go.RowKit
set_option linter.unusedVariables false
set_option linter.unusedSimpArgs false

set_option maxHeartbeats 1000000 in
theorem refOne_any (op a : Int) (w : World) (h0 : 0 ≤ op) (h4 : op ≤ 4) (ha : I32 a) :
    Calls Tryz.prog 94 #[.int .i64 op, .int .i32 a] w fun e w' => e = .returned (.int .i32 (oneI op a)) ∧ w' = w := by
  rcases op1_cases h0 h4 with rfl | rfl | rfl | rfl | rfl
  · go_enter Tryz.func94, Tryz.ntmps94
    go_wp2_with fail
    refine (refNeg_any _ _ ha).mono ?_
    rintro e w1 ⟨rfl, rfl⟩
    go_wp2
    go_ret
    exact ⟨rfl, rfl⟩
  · go_enter Tryz.func94, Tryz.ntmps94
    go_wp2_with fail
    refine (refAbs_any _ _ ha).mono ?_
    rintro e w1 ⟨rfl, rfl⟩
    go_wp2
    go_ret
    exact ⟨rfl, rfl⟩
  · unfold I32 at ha
    go_enter Tryz.func94, Tryz.ntmps94
    go_wp2
    all_goals go_ret
    all_goals refine ⟨?_, rfl⟩
    all_goals simp [oneI, signI, clampI]
    all_goals omega
  · go_enter Tryz.func94, Tryz.ntmps94
    go_wp2_with fail
    refine (refFloor_any _ _ ha).mono ?_
    rintro e w1 ⟨rfl, rfl⟩
    go_wp2
    go_ret
    exact ⟨rfl, rfl⟩
  · go_enter Tryz.func94, Tryz.ntmps94
    go_wp2_with fail
    refine (refFract_any _ _ ha).mono ?_
    rintro e w1 ⟨rfl, rfl⟩
    go_wp2
    go_ret
    exact ⟨rfl, rfl⟩

theorem refLess_any (a b c d : Int) (w : World) (ha : I32 a) (hb : I32 b) (hc : I32 c) (hd : I32 d) :
    Calls Tryz.prog 83 #[.int .i32 a, .int .i32 b, .int .i32 c, .int .i32 d] w fun e w' => e = .returned (.int .i32 (subI (mulI a b) (mulI c d))) ∧ w' = w := by
  go_enter Tryz.func83, Tryz.ntmps83
  go_wp2_with fail
  refine (refMul_any _ _ _ ha hb).mono ?_
  rintro e w1 ⟨rfl, rfl⟩
  go_wp2_with fail
  refine (refMul_any _ _ _ hc hd).mono ?_
  rintro e w1 ⟨rfl, rfl⟩
  go_wp2_with fail
  refine (refSub_any _ _ _ (mulI_i32 _ _) (mulI_i32 _ _)).mono ?_
  rintro e w1 ⟨rfl, rfl⟩
  go_wp2
  go_ret
  exact ⟨rfl, rfl⟩

theorem addI_zero {a : Int} (h : I32 a) : addI a 0 = a := by unfold addI; rw [Int.add_zero]; exact rawI_id h
theorem sumI_one {p : Nat → Int} (h : I32 (p 0)) : sumI p 1 = p 0 := by
  show addI 0 (p 0) = p 0
  unfold addI
  rw [Int.zero_add]
  exact rawI_id h
/-- Behind the last number the sum stays. -/
theorem sumI_cut (f : Nat → Int) (n : Nat) : ∀ j, sumI (cut n f) (n + j) = sumI (cut n f) n
  | 0 => rfl
  | j + 1 => by
    rw [show n + (j + 1) = (n + j) + 1 from rfl, sumI, sumI_cut f n j]
    have : cut n f (n + j) = 0 := by simp [cut]; omega
    rw [this]
    exact addI_zero (sumI_i32 _ _)

set_option maxHeartbeats 1000000 in
theorem refDot_any (n : Int) (a b : Nat → Int) (w : World) (h1 : 1 ≤ n) (h4 : n ≤ 4) (Ia : ∀ i, I32 (a i)) (Ib : ∀ i, I32 (b i)) :
    Calls Tryz.prog 53 #[.int .i64 n, .agg #[.int .i32 (a 0), .int .i32 (a 1), .int .i32 (a 2), .int .i32 (a 3)], .agg #[.int .i32 (b 0), .int .i32 (b 1), .int .i32 (b 2), .int .i32 (b 3)]] w fun e w' => e = .returned (.int .i32 (sumI (cut n (fun i => mulI (a i) (b i))) 4)) ∧ Ext w w' := by
  have HP : Hid (∀ i, I32 (cut n (fun i => mulI (a i) (b i)) i)) := cut_i32 (fun i => mulI_i32 _ _)
  have HS : Hid (∀ k : Nat, (k : Int) = n → sumI (cut n (fun i => mulI (a i) (b i))) 4 = sumI (cut n (fun i => mulI (a i) (b i))) k) := by
    intro k hk
    subst hk
    have := sumI_cut (fun i => mulI (a i) (b i)) k (4 - k)
    rwa [show k + (4 - k) = 4 by omega] at this
  generalize hp : cut n (fun i => mulI (a i) (b i)) = p at *
  have HE := hide hp
  clear hp
  go_enter Tryz.func53, Tryz.ntmps53
  go_wp2_with fail
  refine (refTwos_any 2 n a b _ (by omega) (by omega) h1 h4 Ia Ib).mono ?_
  rintro e w1 ⟨rfl, hx⟩
  have X := hide ((((Ext.refl w).alloc _).alloc _).trans hx)
  clear hx
  rw [show (fun i => twoI 2 (a i) (b i)) = (fun i => mulI (a i) (b i)) from rfl, unhide HE]
  go_wp2
  go_loopw [8, 9] (fun s i wr => ∃ k : Nat, (k : Int) ≤ n ∧ 1 ≤ k ∧ i = .int .i64 k ∧ s = .int .i32 (sumI p k) ∧ Blk wr w1.heap.size #[.int .i32 (p 0), .int .i32 (p 1), .int .i32 (p 2), .int .i32 (p 3)] 28 ∧ Ext w wr) (fun _ i _ => 4 - (intOf i).toNat)
  case atStart => exact ⟨1, by omega, by omega, rfl, by rw [sumI_one (unhide HP 0)], Blk.at rfl, (unhide X).alloc _⟩
  case round =>
    obtain ⟨k, hk, hk1, rfl, rfl, hb, hx⟩ := hrel
    have D := hide (And.intro hb hx)
    clear hb hx X
    by_cases hlt : (k : Int) < n
    · have hk4 : k < 4 := by omega
      have hki : (k : Int) < 4 := by omega
      have ck := (unhide D).1.vec k hk4
      go_wp2_with fail
      refine (refAdd_any _ _ _ (sumI_i32 p k) (unhide HP k)).mono ?_
      rintro e w1 ⟨rfl, rfl⟩
      go_wp2
      go_roundw
      case rel => exact ⟨k + 1, by omega, by omega, by go_num, rfl, (unhide D).1, (unhide D).2⟩
      case measure => simp [intOf]; omega
    · go_wp2
      go_ret
      exact ⟨by rw [unhide HS k (by omega)]; rfl, (unhide D).2⟩

end Go.Proofs.YtglfhmlcmffoaaaGreat

/-
  Vectors: the document's Cross, Mix, Clamp. What the dump lacks is left out.
-/
namespace Go.Proofs.YtglfhmlcmffoaaaGreat
open Go.RowKit
set_option linter.unusedVariables false
set_option linter.unusedSimpArgs false

theorem Blk.other4 {w : World} {b r : Nat} {cs : Array Value} {t : TypeId} (h : Blk w b cs t) (hne : b ≠ r) (x0 x1 x2 x3 : Value) : Blk ((((w.setCell ⟨r, 0, none⟩ x0).setCell ⟨r, 1, none⟩ x1).setCell ⟨r, 2, none⟩ x2).setCell ⟨r, 3, none⟩ x3) b cs t :=
  (((h.other 0 x0 hne).other 1 x1 hne).other 2 x2 hne).other 3 x3 hne

set_option maxHeartbeats 4000000 in
theorem refCross_any (a b : Nat → Int) (w : World) (Ia : ∀ i, I32 (a i)) (Ib : ∀ i, I32 (b i)) :
    Calls Tryz.prog 55 #[.agg #[.int .i32 (a 0), .int .i32 (a 1), .int .i32 (a 2), .int .i32 (a 3)], .agg #[.int .i32 (b 0), .int .i32 (b 1), .int .i32 (b 2), .int .i32 (b 3)]] w fun e w' => e = .returned (.agg #[.int .i32 (crossI a b 1 2), .int .i32 (crossI a b 2 0), .int .i32 (crossI a b 0 1), .int .i32 0]) ∧ Ext w w' := by
  have HI := hide (And.intro Ia Ib)
  clear Ia Ib
  have B0 : Hid (Blk (((w.alloc (.cells #[.int .i32 (a 0), .int .i32 (a 1), .int .i32 (a 2), .int .i32 (a 3)] 28)).alloc (.cells #[.int .i32 (b 0), .int .i32 (b 1), .int .i32 (b 2), .int .i32 (b 3)] 28)).alloc (.cells #[.int .i32 0, .int .i32 0, .int .i32 0, .int .i32 0] 28)) w.heap.size #[.int .i32 (a 0), .int .i32 (a 1), .int .i32 (a 2), .int .i32 (a 3)] 28) := ((Blk.at rfl).alloc _).alloc _
  have B1 : Hid (Blk (((w.alloc (.cells #[.int .i32 (a 0), .int .i32 (a 1), .int .i32 (a 2), .int .i32 (a 3)] 28)).alloc (.cells #[.int .i32 (b 0), .int .i32 (b 1), .int .i32 (b 2), .int .i32 (b 3)] 28)).alloc (.cells #[.int .i32 0, .int .i32 0, .int .i32 0, .int .i32 0] 28)) (w.heap.size + 1) #[.int .i32 (b 0), .int .i32 (b 1), .int .i32 (b 2), .int .i32 (b 3)] 28) := (Blk.at (by simp)).alloc _
  have B2 : Hid (Blk (((w.alloc (.cells #[.int .i32 (a 0), .int .i32 (a 1), .int .i32 (a 2), .int .i32 (a 3)] 28)).alloc (.cells #[.int .i32 (b 0), .int .i32 (b 1), .int .i32 (b 2), .int .i32 (b 3)] 28)).alloc (.cells #[.int .i32 0, .int .i32 0, .int .i32 0, .int .i32 0] 28)) (w.heap.size + 1 + 1) #[.int .i32 (nul 0), .int .i32 (nul 1), .int .i32 (nul 2), .int .i32 (nul 3)] 28) := Blk.at (by simp)
  have X : Hid (Ext w (((w.alloc (.cells #[.int .i32 (a 0), .int .i32 (a 1), .int .i32 (a 2), .int .i32 (a 3)] 28)).alloc (.cells #[.int .i32 (b 0), .int .i32 (b 1), .int .i32 (b 2), .int .i32 (b 3)] 28)).alloc (.cells #[.int .i32 0, .int .i32 0, .int .i32 0, .int .i32 0] 28))) := (((Ext.refl w).alloc _).alloc _).alloc _
  go_enter Tryz.func55, Tryz.ntmps55
  go_wp2
  generalize ((w.alloc (.cells #[.int .i32 (a 0), .int .i32 (a 1), .int .i32 (a 2), .int .i32 (a 3)] 28)).alloc (.cells #[.int .i32 (b 0), .int .i32 (b 1), .int .i32 (b 2), .int .i32 (b 3)] 28)).alloc (.cells #[.int .i32 0, .int .i32 0, .int .i32 0, .int .i32 0] 28) = w3 at *
  obtain ⟨c0, c1, c2, c3⟩ := (unhide B0).vec4
  obtain ⟨e0, e1, e2, e3⟩ := (unhide B1).vec4
  obtain ⟨r0, r1, r2, r3⟩ := (unhide B2).vec4
  obtain ⟨f0, f1, f2, f3⟩ := (unhide B2).free4
  have ne1 : ¬ w.heap.size = w.heap.size + 1 + 1 := by omega
  have ne2 : ¬ w.heap.size + 1 + 1 = w.heap.size := by omega
  go_region_held3 (fun w' => w'.cell? ⟨w.heap.size, 0, none⟩ = some (.int .i32 (a 0)) ∧ w'.cell? ⟨w.heap.size, 1, none⟩ = some (.int .i32 (a 1)) ∧ w'.cell? ⟨w.heap.size, 2, none⟩ = some (.int .i32 (a 2)) ∧ w'.cell? ⟨w.heap.size + 1, 0, none⟩ = some (.int .i32 (b 0)) ∧ w'.cell? ⟨w.heap.size + 1, 1, none⟩ = some (.int .i32 (b 1)) ∧ w'.cell? ⟨w.heap.size + 1, 2, none⟩ = some (.int .i32 (b 2)))
    (go_keep)
    (first | (go_at_call 83; refine (refLess_any _ _ _ _ _ ((unhide HI).1 _) ((unhide HI).2 _) ((unhide HI).1 _) ((unhide HI).2 _)).mono ?_; rintro e w' ⟨rfl, rfl⟩))
  go_wp2
  obtain ⟨q0, q1, q2, q3⟩ := lay4 (a := nul) (unhide B2) (.int .i32 (crossI a b 1 2)) (.int .i32 (crossI a b 2 0)) (.int .i32 (crossI a b 0 1)) (.int .i32 0)
  unfold crossI at q0 q1 q2 q3
  refine bodyPost_ret (v := .agg #[.int .i32 (crossI a b 1 2), .int .i32 (crossI a b 2 0), .int .i32 (crossI a b 0 1), .int .i32 0]) (by simp [results, Tryz.results55, go_sem, crossI, q0, q1, q2, q3]) rfl ⟨rfl, ?_⟩
  exact (ext_set4 (unhide X) (by omega)).drew

theorem refTwos_as (op n : Int) (a b p : Nat → Int) (w : World) (h0 : 0 ≤ op) (h7 : op ≤ 7) (h1 : 1 ≤ n) (h4 : n ≤ 4) (Ia : ∀ i, I32 (a i)) (Ib : ∀ i, I32 (b i)) (hp : cut n (fun i => twoI op (a i) (b i)) = p) :
    Calls Tryz.prog 79 #[.int .i64 op, .int .i64 n, .agg #[.int .i32 (a 0), .int .i32 (a 1), .int .i32 (a 2), .int .i32 (a 3)], .agg #[.int .i32 (b 0), .int .i32 (b 1), .int .i32 (b 2), .int .i32 (b 3)]] w fun e w' => e = .returned (.agg #[.int .i32 (p 0), .int .i32 (p 1), .int .i32 (p 2), .int .i32 (p 3)]) ∧ Ext w w' := by
  subst hp
  exact refTwos_any op n a b w h0 h7 h1 h4 Ia Ib
theorem cut_in {n : Int} {f : Nat → Int} {i : Nat} (h : (i : Int) < n) : cut n f i = f i := by unfold cut; rw [if_pos h]

/-- What lies in the first three blocks is there as long as they stay. -/
theorem later_cells {w0 : World} {B : Nat} {a b t : Nat → Int} {ty : TypeId} (ha : Blk w0 B #[.int .i32 (a 0), .int .i32 (a 1), .int .i32 (a 2), .int .i32 (a 3)] ty) (hb : Blk w0 (B + 1) #[.int .i32 (b 0), .int .i32 (b 1), .int .i32 (b 2), .int .i32 (b 3)] ty) (ht : Blk w0 (B + 1 + 1) #[.int .i32 (t 0), .int .i32 (t 1), .int .i32 (t 2), .int .i32 (t 3)] ty) :
    ((∀ w', Below (B + 1 + 1 + 1) w0 w' → w'.cell? ⟨B, 0, none⟩ = some (.int .i32 (a 0))) ∧ (∀ w', Below (B + 1 + 1 + 1) w0 w' → w'.cell? ⟨B, 1, none⟩ = some (.int .i32 (a 1))) ∧ (∀ w', Below (B + 1 + 1 + 1) w0 w' → w'.cell? ⟨B, 2, none⟩ = some (.int .i32 (a 2))) ∧ (∀ w', Below (B + 1 + 1 + 1) w0 w' → w'.cell? ⟨B, 3, none⟩ = some (.int .i32 (a 3)))) ∧
    ((∀ w', Below (B + 1 + 1 + 1) w0 w' → w'.cell? ⟨B + 1, 0, none⟩ = some (.int .i32 (b 0))) ∧ (∀ w', Below (B + 1 + 1 + 1) w0 w' → w'.cell? ⟨B + 1, 1, none⟩ = some (.int .i32 (b 1))) ∧ (∀ w', Below (B + 1 + 1 + 1) w0 w' → w'.cell? ⟨B + 1, 2, none⟩ = some (.int .i32 (b 2))) ∧ (∀ w', Below (B + 1 + 1 + 1) w0 w' → w'.cell? ⟨B + 1, 3, none⟩ = some (.int .i32 (b 3)))) ∧
    (∀ w', Below (B + 1 + 1 + 1) w0 w' → w'.cell? ⟨B + 1 + 1, 0, none⟩ = some (.int .i32 (t 0))) ∧ (∀ w', Below (B + 1 + 1 + 1) w0 w' → w'.cell? ⟨B + 1 + 1, 1, none⟩ = some (.int .i32 (t 1))) ∧ (∀ w', Below (B + 1 + 1 + 1) w0 w' → w'.cell? ⟨B + 1 + 1, 2, none⟩ = some (.int .i32 (t 2))) ∧ (∀ w', Below (B + 1 + 1 + 1) w0 w' → w'.cell? ⟨B + 1 + 1, 3, none⟩ = some (.int .i32 (t 3))) := by
  have g : ∀ (r i : Nat) v, r < B + 1 + 1 + 1 → w0.cell? ⟨r, i, none⟩ = some v → ∀ w', Below (B + 1 + 1 + 1) w0 w' → w'.cell? ⟨r, i, none⟩ = some v := fun r i v hr h w' hb => by rw [hb.cell (p := ⟨r, i, none⟩) hr]; exact h
  obtain ⟨x0, x1, x2, x3⟩ := ha.vec4
  obtain ⟨y0, y1, y2, y3⟩ := hb.vec4
  obtain ⟨z0, z1, z2, z3⟩ := ht.vec4
  exact ⟨⟨g _ _ _ (by omega) x0, g _ _ _ (by omega) x1, g _ _ _ (by omega) x2, g _ _ _ (by omega) x3⟩, ⟨g _ _ _ (by omega) y0, g _ _ _ (by omega) y1, g _ _ _ (by omega) y2, g _ _ _ (by omega) y3⟩, g _ _ _ (by omega) z0, g _ _ _ (by omega) z1, g _ _ _ (by omega) z2, g _ _ _ (by omega) z3⟩
theorem below_set4 {B : Nat} {w0 w1 : World} {b : Nat} {x0 x1 x2 x3 : Value} (h : Below B w0 w1) (hB : B ≤ b) (hs : B ≤ w1.heap.size) : Below B w0 ((((w1.setCell ⟨b, 0, none⟩ x0).setCell ⟨b, 1, none⟩ x1).setCell ⟨b, 2, none⟩ x2).setCell ⟨b, 3, none⟩ x3) := by
  have g : ∀ {w1 : World} (i : Nat) (x : Value), Below B w0 w1 → B ≤ w1.heap.size → Below B w0 (w1.setCell ⟨b, i, none⟩ x) ∧ B ≤ (w1.setCell ⟨b, i, none⟩ x).heap.size := fun i x h hs => ⟨below_grown h (grownBy_set _ b i x) hs hB, by simpa using hs⟩
  obtain ⟨h0, s0⟩ := g 0 x0 h hs
  obtain ⟨h1, s1⟩ := g 1 x1 h0 s0
  obtain ⟨h2, s2⟩ := g 2 x2 h1 s1
  exact (g 3 x3 h2 s2).1

set_option maxHeartbeats 4000000 in
theorem refMix_any (n : Int) (a b t : Nat → Int) (w : World) (h1 : 1 ≤ n) (h4 : n ≤ 4) (Ia : ∀ i, I32 (a i)) (Ib : ∀ i, I32 (b i)) (It : ∀ i, I32 (t i)) :
    Calls Tryz.prog 51 #[.int .i64 n, .agg #[.int .i32 (a 0), .int .i32 (a 1), .int .i32 (a 2), .int .i32 (a 3)], .agg #[.int .i32 (b 0), .int .i32 (b 1), .int .i32 (b 2), .int .i32 (b 3)], .agg #[.int .i32 (t 0), .int .i32 (t 1), .int .i32 (t 2), .int .i32 (t 3)]] w fun e w' => e = .returned (.agg #[.int .i32 (cut n (fun i => addI (a i) (mulI (subI (b i) (a i)) (t i))) 0), .int .i32 (cut n (fun i => addI (a i) (mulI (subI (b i) (a i)) (t i))) 1), .int .i32 (cut n (fun i => addI (a i) (mulI (subI (b i) (a i)) (t i))) 2), .int .i32 (cut n (fun i => addI (a i) (mulI (subI (b i) (a i)) (t i))) 3)]) ∧ Ext w w' := by
  obtain ⟨p1, E1⟩ : ∃ p1, Hid (cut n (fun i => twoI 1 (b i) (a i)) = p1) := ⟨_, rfl⟩
  obtain ⟨p2, E2⟩ : ∃ p2, Hid (cut n (fun i => twoI 2 (p1 i) (t i)) = p2) := ⟨_, rfl⟩
  obtain ⟨p3, E3⟩ : ∃ p3, Hid (cut n (fun i => twoI 0 (a i) (p2 i)) = p3) := ⟨_, rfl⟩
  have I1 : Hid (∀ i, I32 (p1 i)) := by rw [← unhide E1]; exact cut_i32 (fun i => twoI_i32 1 (Ib i) (Ia i))
  have I2 : Hid (∀ i, I32 (p2 i)) := by rw [← unhide E2]; exact cut_i32 (fun i => twoI_i32 2 (unhide I1 i) (It i))
  have E : cut n (fun i => addI (a i) (mulI (subI (b i) (a i)) (t i))) = p3 := by
    rw [← unhide E3]
    refine cut_congr fun i hi => ?_
    rw [← unhide E2, cut_in hi, ← unhide E1, cut_in hi]
    rfl
  rw [E]
  have HI := hide (And.intro Ia (And.intro Ib It))
  clear E Ia Ib It
  have B0 : Hid (Blk ((((w.alloc (.cells #[.int .i32 (a 0), .int .i32 (a 1), .int .i32 (a 2), .int .i32 (a 3)] 28)).alloc (.cells #[.int .i32 (b 0), .int .i32 (b 1), .int .i32 (b 2), .int .i32 (b 3)] 28)).alloc (.cells #[.int .i32 (t 0), .int .i32 (t 1), .int .i32 (t 2), .int .i32 (t 3)] 28)).alloc (.cells #[.int .i32 0, .int .i32 0, .int .i32 0, .int .i32 0] 28)).drew w.heap.size #[.int .i32 (a 0), .int .i32 (a 1), .int .i32 (a 2), .int .i32 (a 3)] 28) := (((Blk.at rfl).alloc _).alloc _).alloc _
  have B1 : Hid (Blk ((((w.alloc (.cells #[.int .i32 (a 0), .int .i32 (a 1), .int .i32 (a 2), .int .i32 (a 3)] 28)).alloc (.cells #[.int .i32 (b 0), .int .i32 (b 1), .int .i32 (b 2), .int .i32 (b 3)] 28)).alloc (.cells #[.int .i32 (t 0), .int .i32 (t 1), .int .i32 (t 2), .int .i32 (t 3)] 28)).alloc (.cells #[.int .i32 0, .int .i32 0, .int .i32 0, .int .i32 0] 28)).drew (w.heap.size + 1) #[.int .i32 (b 0), .int .i32 (b 1), .int .i32 (b 2), .int .i32 (b 3)] 28) := ((Blk.at (by simp)).alloc _).alloc _
  have B2 : Hid (Blk ((((w.alloc (.cells #[.int .i32 (a 0), .int .i32 (a 1), .int .i32 (a 2), .int .i32 (a 3)] 28)).alloc (.cells #[.int .i32 (b 0), .int .i32 (b 1), .int .i32 (b 2), .int .i32 (b 3)] 28)).alloc (.cells #[.int .i32 (t 0), .int .i32 (t 1), .int .i32 (t 2), .int .i32 (t 3)] 28)).alloc (.cells #[.int .i32 0, .int .i32 0, .int .i32 0, .int .i32 0] 28)).drew (w.heap.size + 1 + 1) #[.int .i32 (t 0), .int .i32 (t 1), .int .i32 (t 2), .int .i32 (t 3)] 28) := (Blk.at (by simp)).alloc _
  have RB : Hid (Blk ((((w.alloc (.cells #[.int .i32 (a 0), .int .i32 (a 1), .int .i32 (a 2), .int .i32 (a 3)] 28)).alloc (.cells #[.int .i32 (b 0), .int .i32 (b 1), .int .i32 (b 2), .int .i32 (b 3)] 28)).alloc (.cells #[.int .i32 (t 0), .int .i32 (t 1), .int .i32 (t 2), .int .i32 (t 3)] 28)).alloc (.cells #[.int .i32 0, .int .i32 0, .int .i32 0, .int .i32 0] 28)).drew (w.heap.size + 1 + 1 + 1) #[.int .i32 (nul 0), .int .i32 (nul 1), .int .i32 (nul 2), .int .i32 (nul 3)] 28) := Blk.at (by simp)
  have X : Hid (Ext w ((((w.alloc (.cells #[.int .i32 (a 0), .int .i32 (a 1), .int .i32 (a 2), .int .i32 (a 3)] 28)).alloc (.cells #[.int .i32 (b 0), .int .i32 (b 1), .int .i32 (b 2), .int .i32 (b 3)] 28)).alloc (.cells #[.int .i32 (t 0), .int .i32 (t 1), .int .i32 (t 2), .int .i32 (t 3)] 28)).alloc (.cells #[.int .i32 0, .int .i32 0, .int .i32 0, .int .i32 0] 28)).drew) := (((((Ext.refl w).alloc _).alloc _).alloc _).alloc _).drew
  go_enter Tryz.func51, Tryz.ntmps51
  go_wp2
  generalize (((w.alloc (.cells #[.int .i32 (a 0), .int .i32 (a 1), .int .i32 (a 2), .int .i32 (a 3)] 28)).alloc (.cells #[.int .i32 (b 0), .int .i32 (b 1), .int .i32 (b 2), .int .i32 (b 3)] 28)).alloc (.cells #[.int .i32 (t 0), .int .i32 (t 1), .int .i32 (t 2), .int .i32 (t 3)] 28)).alloc (.cells #[.int .i32 0, .int .i32 0, .int .i32 0, .int .i32 0] 28) = w3 at *
  have hc := later_cells (unhide B0) (unhide B1) (unhide B2)
  obtain ⟨⟨c0, c1, c2, c3⟩, ⟨e0, e1, e2, e3⟩, m0, m1, m2, m3⟩ := hc
  go_region_held3 (fun w' => Below (w.heap.size + 1 + 1 + 1) w3.drew w')
    (first | exact Below.refl _ _ | exact (by assumption : Below (w.heap.size + 1 + 1 + 1) w3.drew _).trans bx | exact below_set4 (by assumption) (Nat.le_refl _) sz)
    (first | (go_at_call_of 79 (Value.int IntKind.i64 1); refine (refTwos_as 1 n b a p1 _ (by omega) (by omega) h1 h4 (unhide HI).2.1 (unhide HI).1 (unhide E1)).mono ?_; rintro e w' ⟨rfl, hx⟩; have bx := Below.mono hx (Nat.le_of_lt (unhide RB).lt); have RB := hide ((unhide RB).ext hx); have sz := Nat.le_of_lt (unhide RB).lt; obtain ⟨r0, r1, r2, r3⟩ := (unhide RB).vec4; obtain ⟨f0, f1, f2, f3⟩ := (unhide RB).free4; have X := hide ((unhide X).trans hx)) | (go_at_call_of 79 (Value.int IntKind.i64 2); refine (refTwos_as 2 n p1 t p2 _ (by omega) (by omega) h1 h4 (unhide I1) (unhide HI).2.2 (unhide E2)).mono ?_; rintro e w' ⟨rfl, hx⟩; have bx := Below.mono hx (Nat.le_of_lt (unhide RB).lt); have RB := hide ((unhide RB).ext hx); have sz := Nat.le_of_lt (unhide RB).lt; obtain ⟨r0, r1, r2, r3⟩ := (unhide RB).vec4; obtain ⟨f0, f1, f2, f3⟩ := (unhide RB).free4; have X := hide ((unhide X).trans hx)) | (go_at_call_of 79 (Value.int IntKind.i64 0); refine (refTwos_as 0 n a p2 p3 _ (by omega) (by omega) h1 h4 (unhide HI).1 (unhide I2) (unhide E3)).mono ?_; rintro e w' ⟨rfl, hx⟩; have bx := Below.mono hx (Nat.le_of_lt (unhide RB).lt); have RB := hide ((unhide RB).ext hx); have sz := Nat.le_of_lt (unhide RB).lt; obtain ⟨r0, r1, r2, r3⟩ := (unhide RB).vec4; obtain ⟨f0, f1, f2, f3⟩ := (unhide RB).free4; have X := hide ((unhide X).trans hx)))
  go_wp2
  obtain ⟨q0, q1, q2, q3⟩ := lay4 (a := nul) (unhide RB) (.int .i32 (p3 0)) (.int .i32 (p3 1)) (.int .i32 (p3 2)) (.int .i32 (p3 3))
  refine bodyPost_ret (v := .agg #[.int .i32 (p3 0), .int .i32 (p3 1), .int .i32 (p3 2), .int .i32 (p3 3)]) (by simp [results, Tryz.results51, go_sem, q0, q1, q2, q3]) rfl ⟨rfl, ?_⟩
  exact ext_set4 (unhide X) (by omega)

set_option maxHeartbeats 4000000 in
theorem refClampV_any (n : Int) (a b t : Nat → Int) (w : World) (h1 : 1 ≤ n) (h4 : n ≤ 4) (Ia : ∀ i, I32 (a i)) (Ib : ∀ i, I32 (b i)) (It : ∀ i, I32 (t i)) :
    Calls Tryz.prog 52 #[.int .i64 n, .agg #[.int .i32 (a 0), .int .i32 (a 1), .int .i32 (a 2), .int .i32 (a 3)], .agg #[.int .i32 (b 0), .int .i32 (b 1), .int .i32 (b 2), .int .i32 (b 3)], .agg #[.int .i32 (t 0), .int .i32 (t 1), .int .i32 (t 2), .int .i32 (t 3)]] w fun e w' => e = .returned (.agg #[.int .i32 (cut n (fun i => clampI (a i) (b i) (t i)) 0), .int .i32 (cut n (fun i => clampI (a i) (b i) (t i)) 1), .int .i32 (cut n (fun i => clampI (a i) (b i) (t i)) 2), .int .i32 (cut n (fun i => clampI (a i) (b i) (t i)) 3)]) ∧ Ext w w' := by
  obtain ⟨p1, E1⟩ : ∃ p1, Hid (cut n (fun i => twoI 5 (a i) (b i)) = p1) := ⟨_, rfl⟩
  obtain ⟨p2, E2⟩ : ∃ p2, Hid (cut n (fun i => twoI 4 (p1 i) (t i)) = p2) := ⟨_, rfl⟩
  have I1 : Hid (∀ i, I32 (p1 i)) := by rw [← unhide E1]; exact cut_i32 (fun i => twoI_i32 5 (Ia i) (Ib i))
  have E : cut n (fun i => clampI (a i) (b i) (t i)) = p2 := by
    rw [← unhide E2]
    refine cut_congr fun i hi => ?_
    rw [← unhide E1, cut_in hi]
    rfl
  rw [E]
  have HI := hide (And.intro Ia (And.intro Ib It))
  clear E Ia Ib It
  have B0 : Hid (Blk ((((w.alloc (.cells #[.int .i32 (a 0), .int .i32 (a 1), .int .i32 (a 2), .int .i32 (a 3)] 28)).alloc (.cells #[.int .i32 (b 0), .int .i32 (b 1), .int .i32 (b 2), .int .i32 (b 3)] 28)).alloc (.cells #[.int .i32 (t 0), .int .i32 (t 1), .int .i32 (t 2), .int .i32 (t 3)] 28)).alloc (.cells #[.int .i32 0, .int .i32 0, .int .i32 0, .int .i32 0] 28)).drew w.heap.size #[.int .i32 (a 0), .int .i32 (a 1), .int .i32 (a 2), .int .i32 (a 3)] 28) := (((Blk.at rfl).alloc _).alloc _).alloc _
  have B1 : Hid (Blk ((((w.alloc (.cells #[.int .i32 (a 0), .int .i32 (a 1), .int .i32 (a 2), .int .i32 (a 3)] 28)).alloc (.cells #[.int .i32 (b 0), .int .i32 (b 1), .int .i32 (b 2), .int .i32 (b 3)] 28)).alloc (.cells #[.int .i32 (t 0), .int .i32 (t 1), .int .i32 (t 2), .int .i32 (t 3)] 28)).alloc (.cells #[.int .i32 0, .int .i32 0, .int .i32 0, .int .i32 0] 28)).drew (w.heap.size + 1) #[.int .i32 (b 0), .int .i32 (b 1), .int .i32 (b 2), .int .i32 (b 3)] 28) := ((Blk.at (by simp)).alloc _).alloc _
  have B2 : Hid (Blk ((((w.alloc (.cells #[.int .i32 (a 0), .int .i32 (a 1), .int .i32 (a 2), .int .i32 (a 3)] 28)).alloc (.cells #[.int .i32 (b 0), .int .i32 (b 1), .int .i32 (b 2), .int .i32 (b 3)] 28)).alloc (.cells #[.int .i32 (t 0), .int .i32 (t 1), .int .i32 (t 2), .int .i32 (t 3)] 28)).alloc (.cells #[.int .i32 0, .int .i32 0, .int .i32 0, .int .i32 0] 28)).drew (w.heap.size + 1 + 1) #[.int .i32 (t 0), .int .i32 (t 1), .int .i32 (t 2), .int .i32 (t 3)] 28) := (Blk.at (by simp)).alloc _
  have RB : Hid (Blk ((((w.alloc (.cells #[.int .i32 (a 0), .int .i32 (a 1), .int .i32 (a 2), .int .i32 (a 3)] 28)).alloc (.cells #[.int .i32 (b 0), .int .i32 (b 1), .int .i32 (b 2), .int .i32 (b 3)] 28)).alloc (.cells #[.int .i32 (t 0), .int .i32 (t 1), .int .i32 (t 2), .int .i32 (t 3)] 28)).alloc (.cells #[.int .i32 0, .int .i32 0, .int .i32 0, .int .i32 0] 28)).drew (w.heap.size + 1 + 1 + 1) #[.int .i32 (nul 0), .int .i32 (nul 1), .int .i32 (nul 2), .int .i32 (nul 3)] 28) := Blk.at (by simp)
  have X : Hid (Ext w ((((w.alloc (.cells #[.int .i32 (a 0), .int .i32 (a 1), .int .i32 (a 2), .int .i32 (a 3)] 28)).alloc (.cells #[.int .i32 (b 0), .int .i32 (b 1), .int .i32 (b 2), .int .i32 (b 3)] 28)).alloc (.cells #[.int .i32 (t 0), .int .i32 (t 1), .int .i32 (t 2), .int .i32 (t 3)] 28)).alloc (.cells #[.int .i32 0, .int .i32 0, .int .i32 0, .int .i32 0] 28)).drew) := (((((Ext.refl w).alloc _).alloc _).alloc _).alloc _).drew
  go_enter Tryz.func52, Tryz.ntmps52
  go_wp2
  generalize (((w.alloc (.cells #[.int .i32 (a 0), .int .i32 (a 1), .int .i32 (a 2), .int .i32 (a 3)] 28)).alloc (.cells #[.int .i32 (b 0), .int .i32 (b 1), .int .i32 (b 2), .int .i32 (b 3)] 28)).alloc (.cells #[.int .i32 (t 0), .int .i32 (t 1), .int .i32 (t 2), .int .i32 (t 3)] 28)).alloc (.cells #[.int .i32 0, .int .i32 0, .int .i32 0, .int .i32 0] 28) = w3 at *
  have hc := later_cells (unhide B0) (unhide B1) (unhide B2)
  obtain ⟨⟨c0, c1, c2, c3⟩, ⟨e0, e1, e2, e3⟩, m0, m1, m2, m3⟩ := hc
  go_region_held3 (fun w' => Below (w.heap.size + 1 + 1 + 1) w3.drew w')
    (first | exact Below.refl _ _ | exact (by assumption : Below (w.heap.size + 1 + 1 + 1) w3.drew _).trans bx | exact below_set4 (by assumption) (Nat.le_refl _) sz)
    (first | (go_at_call_of 79 (Value.int IntKind.i64 5); refine (refTwos_as 5 n a b p1 _ (by omega) (by omega) h1 h4 (unhide HI).1 (unhide HI).2.1 (unhide E1)).mono ?_; rintro e w' ⟨rfl, hx⟩; have bx := Below.mono hx (Nat.le_of_lt (unhide RB).lt); have RB := hide ((unhide RB).ext hx); have sz := Nat.le_of_lt (unhide RB).lt; obtain ⟨r0, r1, r2, r3⟩ := (unhide RB).vec4; obtain ⟨f0, f1, f2, f3⟩ := (unhide RB).free4; have X := hide ((unhide X).trans hx)) | (go_at_call_of 79 (Value.int IntKind.i64 4); refine (refTwos_as 4 n p1 t p2 _ (by omega) (by omega) h1 h4 (unhide I1) (unhide HI).2.2 (unhide E2)).mono ?_; rintro e w' ⟨rfl, hx⟩; have bx := Below.mono hx (Nat.le_of_lt (unhide RB).lt); have RB := hide ((unhide RB).ext hx); have sz := Nat.le_of_lt (unhide RB).lt; obtain ⟨r0, r1, r2, r3⟩ := (unhide RB).vec4; obtain ⟨f0, f1, f2, f3⟩ := (unhide RB).free4; have X := hide ((unhide X).trans hx)))
  go_wp2
  obtain ⟨q0, q1, q2, q3⟩ := lay4 (a := nul) (unhide RB) (.int .i32 (p2 0)) (.int .i32 (p2 1)) (.int .i32 (p2 2)) (.int .i32 (p2 3))
  refine bodyPost_ret (v := .agg #[.int .i32 (p2 0), .int .i32 (p2 1), .int .i32 (p2 2), .int .i32 (p2 3)]) (by simp [results, Tryz.results52, go_sem, q0, q1, q2, q3]) rfl ⟨rfl, ?_⟩
  exact ext_set4 (unhide X) (by omega)
end Go.Proofs.YtglfhmlcmffoaaaGreat
