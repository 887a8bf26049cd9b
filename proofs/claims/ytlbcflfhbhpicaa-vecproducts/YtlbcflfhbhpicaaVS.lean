/-
  Vectors: the document's One, Ones, less, Cross, Dot, Mix, Clamp. What the dump lacks is left out.
-/
import Derived.Test.YtlbcflfhbhpicaaVR
namespace Go.Proofs.Ytlbcflfhbhpicaa
open Go.RowKit
set_option linter.unusedVariables false
set_option linter.unusedSimpArgs false

set_option maxHeartbeats 1000000 in
theorem refOne_any (op a : Int) (w : World) (h0 : 0 ≤ op) (h4 : op ≤ 4) (ha : I32 a) :
    Calls Try.prog 35 #[.int .i64 op, .int .i32 a] w fun e w' => e = .returned (.int .i32 (oneI op a)) ∧ w' = w := by
  rcases op1_cases h0 h4 with rfl | rfl | rfl | rfl | rfl
  · go_enter Try.func35, Try.ntmps35
    go_wp2_with fail
    refine (refNeg_any _ _ ha).mono ?_
    rintro e w1 ⟨rfl, rfl⟩
    go_wp2
    go_ret
    exact ⟨rfl, rfl⟩
  · go_enter Try.func35, Try.ntmps35
    go_wp2_with fail
    refine (refAbs_any _ _ ha).mono ?_
    rintro e w1 ⟨rfl, rfl⟩
    go_wp2
    go_ret
    exact ⟨rfl, rfl⟩
  · unfold I32 at ha
    go_enter Try.func35, Try.ntmps35
    go_wp2
    all_goals go_ret
    all_goals refine ⟨?_, rfl⟩
    all_goals simp [oneI, signI, clampI]
    all_goals omega
  · go_enter Try.func35, Try.ntmps35
    go_wp2_with fail
    refine (refFloor_any _ _ ha).mono ?_
    rintro e w1 ⟨rfl, rfl⟩
    go_wp2
    go_ret
    exact ⟨rfl, rfl⟩
  · go_enter Try.func35, Try.ntmps35
    go_wp2_with fail
    refine (refFract_any _ _ ha).mono ?_
    rintro e w1 ⟨rfl, rfl⟩
    go_wp2
    go_ret
    exact ⟨rfl, rfl⟩

set_option maxHeartbeats 1000000 in
theorem refOnes_any (op n : Int) (a : Nat → Int) (w : World) (h0 : 0 ≤ op) (h5 : op ≤ 4) (h1 : 1 ≤ n) (h4 : n ≤ 4) (Ia : ∀ i, I32 (a i)) :
    Calls Try.prog 14 #[.int .i64 op, .int .i64 n, .agg #[.int .i32 (a 0), .int .i32 (a 1), .int .i32 (a 2), .int .i32 (a 3)]] w fun e w' => e = .returned (.agg #[.int .i32 (cut n (fun i => oneI op (a i)) 0), .int .i32 (cut n (fun i => oneI op (a i)) 1), .int .i32 (cut n (fun i => oneI op (a i)) 2), .int .i32 (cut n (fun i => oneI op (a i)) 3)]) ∧ Ext w w' := by
  have HI := hide Ia
  clear Ia
  generalize hf : (fun i => oneI op (a i)) = f at *
  have HE : Hid (∀ i, f i = oneI op (a i)) := fun i => by rw [← hf]
  clear hf
  go_enter Try.func14, Try.ntmps14
  go_wp2
  go_loopw [8] (fun i wr => ∃ k : Nat, (k : Int) ≤ n ∧ i = .int .i64 k ∧ Blk wr w.heap.size #[.int .i32 (a 0), .int .i32 (a 1), .int .i32 (a 2), .int .i32 (a 3)] 24 ∧ Blk wr (w.heap.size + 1) #[.int .i32 (nul 0), .int .i32 (nul 1), .int .i32 (nul 2), .int .i32 (nul 3)] 24 ∧ Blk wr (w.heap.size + 1 + 1) #[.int .i32 (cut k f 0), .int .i32 (cut k f 1), .int .i32 (cut k f 2), .int .i32 (cut k f 3)] 24 ∧ Ext w wr) (fun i _ => n.toNat - (intOf i).toNat)
  case atStart =>
    refine ⟨0, by omega, rfl, ((Blk.at rfl).alloc _).alloc _, (Blk.at (by simp)).alloc _, ?_, (((Ext.refl w).alloc _).alloc _).alloc _⟩
    simp only [cut_zero]
    exact Blk.at (by simp)
  case round =>
    obtain ⟨k, hk, rfl, hba, hb0, hb1, hx⟩ := hrel
    have D := hide (And.intro hba (And.intro hb0 (And.intro hb1 hx)))
    clear hba hb0 hb1 hx
    by_cases hlt : (k : Int) < n
    · have hk4 : k < 4 := by omega
      have hki : (k : Int) < 4 := by omega
      have ca := (unhide D).1.vec k hk4
      have c1 := (unhide D).2.2.1.vec k hk4
      have f1 := (unhide D).2.2.1.free k
      go_wp2_with fail
      refine (refOne_any op (a k) _ h0 h5 (unhide HI _)).mono ?_
      rintro e w' ⟨rfl, rfl⟩
      go_wp2
      go_roundw
      case rel =>
        refine ⟨k + 1, by omega, by go_num, (unhide D).1.other k _ (by omega), (unhide D).2.1.other k _ (by omega), ?_, ext_set (unhide D).2.2.2 (by omega)⟩
        have := (unhide D).2.2.1.set k (.int .i32 (f k))
        rw [cut_set f k hk4, unhide HE k] at this
        exact this
      case measure => simp [intOf]; omega
    · have hkn : (k : Int) = n := by omega
      rw [hkn] at D
      obtain ⟨c0, c1, c2, c3⟩ := (unhide D).2.2.1.vec4
      obtain ⟨r0, r1, r2, r3⟩ := (unhide D).2.1.vec4
      obtain ⟨f0, f1, f2, f3⟩ := (unhide D).2.1.free4
      clear hkn
      go_wp2
      obtain ⟨q0, q1, q2, q3⟩ := lay4 (unhide D).2.1 (.int .i32 (cut n f 0)) (.int .i32 (cut n f 1)) (.int .i32 (cut n f 2)) (.int .i32 (cut n f 3))
      refine bodyPost_ret (v := .agg #[.int .i32 (cut n f 0), .int .i32 (cut n f 1), .int .i32 (cut n f 2), .int .i32 (cut n f 3)]) (by simp [results, Try.results14, go_sem, q0, q1, q2, q3]) rfl ⟨rfl, ?_⟩
      exact ext_set4 (unhide D).2.2.2 (by omega)

theorem refLess_any (a b c d : Int) (w : World) (ha : I32 a) (hb : I32 b) (hc : I32 c) (hd : I32 d) :
    Calls Try.prog 39 #[.int .i32 a, .int .i32 b, .int .i32 c, .int .i32 d] w fun e w' => e = .returned (.int .i32 (subI (mulI a b) (mulI c d))) ∧ w' = w := by
  go_enter Try.func39, Try.ntmps39
  go_wp2_with fail
  refine (refMul_any _ _ _ ha hb).mono ?_
  rintro e w1 ⟨rfl, rfl⟩
  go_wp2_with fail
  refine (refMul_any _ _ _ hc hd).mono ?_
  rintro e w1 ⟨rfl, rfl⟩
  go_wp2_with fail
  refine (refSub_any _ _ _ (mulI_i32 _ _) (mulI_i32 _ _)).mono ?_
  rintro e w1 ⟨rfl, rfl⟩
  go_wp2
  go_ret
  exact ⟨rfl, rfl⟩

theorem addI_zero {a : Int} (h : I32 a) : addI a 0 = a := by unfold addI; rw [Int.add_zero]; exact rawI_id h
theorem sumI_one {p : Nat → Int} (h : I32 (p 0)) : sumI p 1 = p 0 := by
  show addI 0 (p 0) = p 0
  unfold addI
  rw [Int.zero_add]
  exact rawI_id h
/-- Behind the last number the sum stays. -/
theorem sumI_cut (f : Nat → Int) (n : Nat) : ∀ j, sumI (cut n f) (n + j) = sumI (cut n f) n
  | 0 => rfl
  | j + 1 => by
    rw [show n + (j + 1) = (n + j) + 1 from rfl, sumI, sumI_cut f n j]
    have : cut n f (n + j) = 0 := by simp [cut]; omega
    rw [this]
    exact addI_zero (sumI_i32 _ _)

set_option maxHeartbeats 1000000 in
theorem refDot_any (n : Int) (a b : Nat → Int) (w : World) (h1 : 1 ≤ n) (h4 : n ≤ 4) (Ia : ∀ i, I32 (a i)) (Ib : ∀ i, I32 (b i)) :
    Calls Try.prog 18 #[.int .i64 n, .agg #[.int .i32 (a 0), .int .i32 (a 1), .int .i32 (a 2), .int .i32 (a 3)], .agg #[.int .i32 (b 0), .int .i32 (b 1), .int .i32 (b 2), .int .i32 (b 3)]] w fun e w' => e = .returned (.int .i32 (sumI (cut n (fun i => mulI (a i) (b i))) 4)) ∧ Ext w w' := by
  have HP : Hid (∀ i, I32 (cut n (fun i => mulI (a i) (b i)) i)) := cut_i32 (fun i => mulI_i32 _ _)
  have HS : Hid (∀ k : Nat, (k : Int) = n → sumI (cut n (fun i => mulI (a i) (b i))) 4 = sumI (cut n (fun i => mulI (a i) (b i))) k) := by
    intro k hk
    subst hk
    have := sumI_cut (fun i => mulI (a i) (b i)) k (4 - k)
    rwa [show k + (4 - k) = 4 by omega] at this
  generalize hp : cut n (fun i => mulI (a i) (b i)) = p at *
  have HE := hide hp
  clear hp
  go_enter Try.func18, Try.ntmps18
  go_wp2_with fail
  refine (refTwos_any 2 n a b _ (by omega) (by omega) h1 h4 Ia Ib).mono ?_
  rintro e w1 ⟨rfl, hx⟩
  have X := hide ((((Ext.refl w).alloc _).alloc _).trans hx)
  clear hx
  rw [show (fun i => twoI 2 (a i) (b i)) = (fun i => mulI (a i) (b i)) from rfl, unhide HE]
  go_wp2
  go_loopw [8, 9] (fun s i wr => ∃ k : Nat, (k : Int) ≤ n ∧ 1 ≤ k ∧ i = .int .i64 k ∧ s = .int .i32 (sumI p k) ∧ Blk wr w1.heap.size #[.int .i32 (p 0), .int .i32 (p 1), .int .i32 (p 2), .int .i32 (p 3)] 24 ∧ Ext w wr) (fun _ i _ => 4 - (intOf i).toNat)
  case atStart => exact ⟨1, by omega, by omega, rfl, by rw [sumI_one (unhide HP 0)], Blk.at rfl, (unhide X).alloc _⟩
  case round =>
    obtain ⟨k, hk, hk1, rfl, rfl, hb, hx⟩ := hrel
    have D := hide (And.intro hb hx)
    clear hb hx X
    by_cases hlt : (k : Int) < n
    · have hk4 : k < 4 := by omega
      have hki : (k : Int) < 4 := by omega
      have ck := (unhide D).1.vec k hk4
      go_wp2_with fail
      refine (refAdd_any _ _ _ (sumI_i32 p k) (unhide HP k)).mono ?_
      rintro e w1 ⟨rfl, rfl⟩
      go_wp2
      go_roundw
      case rel => exact ⟨k + 1, by omega, by omega, by go_num, rfl, (unhide D).1, (unhide D).2⟩
      case measure => simp [intOf]; omega
    · go_wp2
      go_ret
      exact ⟨by rw [unhide HS k (by omega)]; rfl, (unhide D).2⟩

end Go.Proofs.Ytlbcflfhbhpicaa
