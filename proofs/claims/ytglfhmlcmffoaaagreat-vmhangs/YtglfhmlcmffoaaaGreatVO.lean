/-
  The machine of registers: what an OpLoad loads. Written by mkvo.py.
-/
import Derived.Test.YtglfhmlcmffoaaaGreatCHJ
namespace Go.Proofs.YtglfhmlcmffoaaaGreat
open Go.RowKit
set_option linter.unusedVariables false
set_option linter.unusedSimpArgs false

theorem mc_at {w : World} {b : Nat} {E : EnvC} {vr : Value} {O : OutC} (h : Blk w b (mcA E vr O) 71) (i : Nat) {v : Value} (e : (mcA E vr O)[i]? = some v) : w.cell? ⟨b, i, none⟩ = some v := h.cell e
theorem ins_at {w : World} {b : Nat} {I : Nat → Int} (h : Blk w b (insA I) 59) (i : Nat) {v : Value} (e : (insA I)[i]? = some v) : w.cell? ⟨b, i, none⟩ = some v := h.cell e

set_option maxRecDepth 10000 in
set_option maxHeartbeats 4000000 in
theorem loadM_any {w : World} {mb : Nat} {E : EnvC} {vr : Value} {O : OutC} {S : Sur} (I : Nat → Int) (hm : Blk w mb (mcA E vr O) 71) (hs : SurAt w E S)
    (h1 : I 1 = 1 → 0 ≤ I 5 ∧ I 5 < (S.att.length : Int)) (h2 : I 1 = 2 → 0 ≤ I 5 ∧ I 5 < (S.uni.length : Int)) (h3 : I 1 = 3 → 0 ≤ I 5 ∧ I 5 < (S.vry.length : Int)) :
    Calls Tryz.prog 69 #[.pointer (some ⟨mb, 0, none⟩), .agg (insA I)] w fun e w' => e = .returned (.agg #[.int .i32 (loadP S I 0), .int .i32 (loadP S I 1), .int .i32 (loadP S I 2), .int .i32 (loadP S I 3)]) ∧ Ext w w' := by
  have hX : Ext w ((w.alloc (.cells (insA I) 59)).alloc (.cells #[.int .i32 (nul 0), .int .i32 (nul 1), .int .i32 (nul 2), .int .i32 (nul 3)] 28)) := ((Ext.refl w).alloc _).alloc _
  have hI : Blk ((w.alloc (.cells (insA I) 59)).alloc (.cells #[.int .i32 (nul 0), .int .i32 (nul 1), .int .i32 (nul 2), .int .i32 (nul 3)] 28)) w.heap.size (insA I) 59 := (Blk.new w _ _).alloc _
  have hB : Blk ((w.alloc (.cells (insA I) 59)).alloc (.cells #[.int .i32 (nul 0), .int .i32 (nul 1), .int .i32 (nul 2), .int .i32 (nul 3)] 28)) (w.heap.size + 1) #[.int .i32 (nul 0), .int .i32 (nul 1), .int .i32 (nul 2), .int .i32 (nul 3)] 28 := Blk.at (by simp)
  have D := hide (And.intro hI (And.intro hB (And.intro (hm.ext hX) (And.intro (hs.ext hX) hX))))
  have H1 := hide h1
  have H2 := hide h2
  have H3 := hide h3
  have hmb := hm.lt
  clear hX hI hB hm hs h1 h2 h3
  go_enter Tryz.func69, Tryz.ntmps69
  go_upto_region 1 with fail
  generalize hw2 : ((w.alloc (.cells (insA I) 59)).alloc (.cells #[.int .i32 (nul 0), .int .i32 (nul 1), .int .i32 (nul 2), .int .i32 (nul 3)] 28)) = w2 at D
  rw [show ((w.alloc (.cells (insA I) 59)).alloc (.cells #[.int .i32 0, .int .i32 0, .int .i32 0, .int .i32 0] 28)) = w2 from hw2]
  clear hw2
  obtain ⟨f0, f1, f2, f3⟩ := (unhide D).2.1.free4
  obtain ⟨n0, n1, n2, n3⟩ := (unhide D).2.1.vec4
  have hne : ¬ mb = w.heap.size := by omega
  have E0 := hide (show loadP S I = (if I 1 = 1 then reg S.att (I 5) else if I 1 = 2 then reg S.uni (I 5) else if I 1 = 3 then reg S.vry (I 5) else if I 1 = 4 then S.co else if I 1 = 5 then truI S.fr else fun i => if i = 0 then S.pt 0 else if i = 1 then S.pt 1 else 0) from rfl)
  have HD := hide (unhide D).2.2.2.1.2.2.2
  by_cases e1 : I 1 = 1
  case pos =>
    have EE : Hid (loadP S I = reg S.att (I 5)) := by rw [Hid, unhide E0, if_pos e1]
    obtain ⟨h0, hl⟩ := unhide H1 e1
    obtain ⟨b, off, cap, k, ek, hk, ev, r0, r1, r2, r3⟩ := (unhide D).2.2.2.1.1.reg h0 hl
    have i1 := ins_at (unhide D).1 1 (v := .int .i64 (I 1)) rfl
    have i5 := ins_at (unhide D).1 5 (v := .int .i64 (I 5)) rfl
    have m0 := mc_at (unhide D).2.2.1 0 (v := E.va) rfl
    rw [e1] at i1
    rw [ek] at i5
    rw [ev] at m0
    generalize reg S.att (I 5) = y at *
    generalize S.att.length = n at *
    have hkn : (k : Int) < (n : Int) := by omega
    have hbl : b < w2.heap.size := World.block_lt_of_cell? w2 _ r0
    clear h0 hl ek ev E0 e1
    go_wp2
    go_region_with (fail)
    all_goals
      go_wp2
      obtain ⟨q0, q1, q2, q3⟩ := lay4 (unhide D).2.1 (.int .i32 (y 0)) (.int .i32 (y 1)) (.int .i32 (y 2)) (.int .i32 (y 3))
      refine bodyPost_ret (v := .agg #[.int .i32 (y 0), .int .i32 (y 1), .int .i32 (y 2), .int .i32 (y 3)]) (by simp [results, Tryz.results69, go_sem, q0, q1, q2, q3]) rfl ⟨by rw [unhide EE] <;> rfl, ?_⟩
      exact ext_set4 ((unhide D).2.2.2.2.drew) (by omega)
  case neg =>
  have d1 : (I 1 == 1) = false := by simp [e1]
  by_cases e2 : I 1 = 2
  case pos =>
    have EE : Hid (loadP S I = reg S.uni (I 5)) := by rw [Hid, unhide E0, if_neg e1, if_pos e2]
    obtain ⟨h0, hl⟩ := unhide H2 e2
    obtain ⟨b, off, cap, k, ek, hk, ev, r0, r1, r2, r3⟩ := (unhide D).2.2.2.1.2.1.reg h0 hl
    have i1 := ins_at (unhide D).1 1 (v := .int .i64 (I 1)) rfl
    have i5 := ins_at (unhide D).1 5 (v := .int .i64 (I 5)) rfl
    have m0 := mc_at (unhide D).2.2.1 1 (v := E.vu) rfl
    rw [e2] at i1
    rw [ek] at i5
    rw [ev] at m0
    generalize reg S.uni (I 5) = y at *
    generalize S.uni.length = n at *
    have hkn : (k : Int) < (n : Int) := by omega
    have hbl : b < w2.heap.size := World.block_lt_of_cell? w2 _ r0
    clear h0 hl ek ev E0 e1 e2
    go_wp2
    go_region_with (fail)
    all_goals
      go_wp2
      obtain ⟨q0, q1, q2, q3⟩ := lay4 (unhide D).2.1 (.int .i32 (y 0)) (.int .i32 (y 1)) (.int .i32 (y 2)) (.int .i32 (y 3))
      refine bodyPost_ret (v := .agg #[.int .i32 (y 0), .int .i32 (y 1), .int .i32 (y 2), .int .i32 (y 3)]) (by simp [results, Tryz.results69, go_sem, q0, q1, q2, q3]) rfl ⟨by rw [unhide EE] <;> rfl, ?_⟩
      exact ext_set4 ((unhide D).2.2.2.2.drew) (by omega)
  case neg =>
  have d2 : (I 1 == 2) = false := by simp [e2]
  by_cases e3 : I 1 = 3
  case pos =>
    have EE : Hid (loadP S I = reg S.vry (I 5)) := by rw [Hid, unhide E0, if_neg e1, if_neg e2, if_pos e3]
    obtain ⟨h0, hl⟩ := unhide H3 e3
    obtain ⟨b, off, cap, k, ek, hk, ev, r0, r1, r2, r3⟩ := (unhide D).2.2.2.1.2.2.1.reg h0 hl
    have i1 := ins_at (unhide D).1 1 (v := .int .i64 (I 1)) rfl
    have i5 := ins_at (unhide D).1 5 (v := .int .i64 (I 5)) rfl
    have m0 := mc_at (unhide D).2.2.1 2 (v := E.vv) rfl
    rw [e3] at i1
    rw [ek] at i5
    rw [ev] at m0
    generalize reg S.vry (I 5) = y at *
    generalize S.vry.length = n at *
    have hkn : (k : Int) < (n : Int) := by omega
    have hbl : b < w2.heap.size := World.block_lt_of_cell? w2 _ r0
    clear h0 hl ek ev E0 e1 e2 e3
    go_wp2
    go_region_with (fail)
    all_goals
      go_wp2
      obtain ⟨q0, q1, q2, q3⟩ := lay4 (unhide D).2.1 (.int .i32 (y 0)) (.int .i32 (y 1)) (.int .i32 (y 2)) (.int .i32 (y 3))
      refine bodyPost_ret (v := .agg #[.int .i32 (y 0), .int .i32 (y 1), .int .i32 (y 2), .int .i32 (y 3)]) (by simp [results, Tryz.results69, go_sem, q0, q1, q2, q3]) rfl ⟨by rw [unhide EE] <;> rfl, ?_⟩
      exact ext_set4 ((unhide D).2.2.2.2.drew) (by omega)
  case neg =>
  have d3 : (I 1 == 3) = false := by simp [e3]
  by_cases e4 : I 1 = 4
  case pos =>
    have EE : Hid (loadP S I = S.co) := by rw [Hid, unhide E0, if_neg e1, if_neg e2, if_neg e3, if_pos e4]
    have i1 := ins_at (unhide D).1 1 (v := .int .i64 (I 1)) rfl
    rw [e4] at i1
    rw [← (unhide HD).1] at EE
    have m0 := mc_at (unhide D).2.2.1 3 (v := .int .i32 (E.co 0)) rfl
    have m1 := mc_at (unhide D).2.2.1 4 (v := .int .i32 (E.co 1)) rfl
    have m2 := mc_at (unhide D).2.2.1 5 (v := .int .i32 (E.co 2)) rfl
    have m3 := mc_at (unhide D).2.2.1 6 (v := .int .i32 (E.co 3)) rfl
    clear E0 e1 e2 e3 e4
    go_wp2
    obtain ⟨q0, q1, q2, q3⟩ := lay4 (unhide D).2.1 (.int .i32 ((E.co) 0)) (.int .i32 ((E.co) 1)) (.int .i32 ((E.co) 2)) (.int .i32 ((E.co) 3))
    refine bodyPost_ret (v := .agg #[.int .i32 ((E.co) 0), .int .i32 ((E.co) 1), .int .i32 ((E.co) 2), .int .i32 ((E.co) 3)]) (by simp [results, Tryz.results69, go_sem, q0, q1, q2, q3]) rfl ⟨by rw [unhide EE] <;> rfl, ?_⟩
    exact ext_set4 ((unhide D).2.2.2.2) (by omega)
  case neg =>
  have d4 : (I 1 == 4) = false := by simp [e4]
  by_cases e5 : I 1 = 5
  case pos =>
    have EE : Hid (loadP S I = truI S.fr) := by rw [Hid, unhide E0, if_neg e1, if_neg e2, if_neg e3, if_neg e4, if_pos e5]
    have i1 := ins_at (unhide D).1 1 (v := .int .i64 (I 1)) rfl
    rw [e5] at i1
    rw [← (unhide HD).2.1] at EE
    have m7 := mc_at (unhide D).2.2.1 7 (v := .bool E.fr) rfl
    clear E0 e1 e2 e3 e4 e5
    go_wp2_with (go_at_call 65; refine (truth_any _ _).mono ?_; rintro e w1 ⟨rfl, hx⟩; have R := hide (And.intro ((unhide D).2.1.ext hx) ((unhide D).2.2.2.2.trans hx)); clear hx D f0 f1 f2 f3 n0 n1 n2 n3; obtain ⟨r0, r1, r2, r3⟩ := (unhide R).1.vec4; obtain ⟨f0, f1, f2, f3⟩ := (unhide R).1.free4)
    obtain ⟨q0, q1, q2, q3⟩ := lay4 (unhide R).1 (.int .i32 ((truI E.fr) 0)) (.int .i32 ((truI E.fr) 1)) (.int .i32 ((truI E.fr) 2)) (.int .i32 ((truI E.fr) 3))
    refine bodyPost_ret (v := .agg #[.int .i32 ((truI E.fr) 0), .int .i32 ((truI E.fr) 1), .int .i32 ((truI E.fr) 2), .int .i32 ((truI E.fr) 3)]) (by simp [results, Tryz.results69, go_sem, q0, q1, q2, q3]) rfl ⟨by rw [unhide EE] <;> rfl, ?_⟩
    exact ext_set4 ((unhide R).2) (by omega)
  case neg =>
  have d5 : (I 1 == 5) = false := by simp [e5]
  have EE : Hid (loadP S I = (fun i => if i = 0 then S.pt 0 else if i = 1 then S.pt 1 else 0)) := by rw [Hid, unhide E0, if_neg e1, if_neg e2, if_neg e3, if_neg e4, if_neg e5]
  have i1 := ins_at (unhide D).1 1 (v := .int .i64 (I 1)) rfl
  rw [← (unhide HD).2.2] at EE
  have m8 := mc_at (unhide D).2.2.1 8 (v := .int .i32 (E.pt 0)) rfl
  have m9 := mc_at (unhide D).2.2.1 9 (v := .int .i32 (E.pt 1)) rfl
  clear E0 e1 e2 e3 e4 e5
  go_wp2
  go_region_with (fail)
  all_goals
    go_wp2
    obtain ⟨q0, q1, q2, q3⟩ := lay4 (unhide D).2.1 (.int .i32 (E.pt 0)) (.int .i32 (E.pt 1)) (.int .i32 0) (.int .i32 0)
    refine bodyPost_ret (v := .agg #[.int .i32 (E.pt 0), .int .i32 (E.pt 1), .int .i32 0, .int .i32 0]) (by simp [results, Tryz.results69, go_sem, q0, q1, q2, q3]) rfl ⟨by rw [unhide EE] <;> rfl, ?_⟩
    exact ext_set4 ((unhide D).2.2.2.2.drew) (by omega)
end Go.Proofs.YtglfhmlcmffoaaaGreat
