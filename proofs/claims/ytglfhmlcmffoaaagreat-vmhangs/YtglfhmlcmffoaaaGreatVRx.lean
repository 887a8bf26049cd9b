/-
  The machine of registers: Run.
-/
import Derived.Test.YtglfhmlcmffoaaaGreatVRw
namespace Go.Proofs.YtglfhmlcmffoaaaGreat
open Go.RowKit
set_option linter.unusedVariables false
set_option linter.unusedSimpArgs false

theorem ref_zero {C : Cod} {na nu nv : Nat} (h : refI C na nu nv = 0) : mayP C = true ∧ fitB C na nu nv = true := by
  unfold refI at h
  split at h
  · cases h
  · rename_i h1
    split at h
    · rename_i h2
      exact ⟨by simpa using h1, h2⟩
    · cases h
/-- Surroundings of numbers of 32 bits. -/
structure Sur32 (S : Sur) : Prop where
  a32 : ∀ x i, I32 (reg S.att x i)
  u32 : ∀ x i, I32 (reg S.uni x i)
  v32 : ∀ x i, I32 (reg S.vry x i)
  c32 : ∀ i, I32 (S.co i)
  p32 : ∀ i, I32 (S.pt i)
theorem fit_of {C : Cod} {S : Sur} (h : fitB C S.att.length S.uni.length S.vry.length = true) (h3 : Sur32 S) : Fit C S := by
  unfold fitB at h
  simp only [Bool.and_eq_true, decide_eq_true_eq] at h
  exact ⟨h.1, h.2.1, h.2.2, h3.a32, h3.u32, h3.v32, h3.c32, h3.p32⟩
def outZ : OutC := ⟨nul, 0, .slice none 0 0, nul, false⟩
theorem sizeOut : (Tryz.prog.info? 36).map (·.size) = some 11 := by kernel_rfl
theorem row_grown (w : World) (g : Nat) (cs : Array Value) : w.grownBy (w.setRow g cs) (some g) := ⟨rfl, rfl, rfl, by simp, fun i hi hne => setRow_other w g i cs (by simpa using hne)⟩
theorem slice_one (ao : Option Addr) (n c : Nat) : (Value.slice ao n c).oneCell' = true := rfl
theorem outA_one (O : OutC) (ao : Option Addr) (n c : Nat) (h : O.vy = .slice ao n c) : (outA O).all (·.oneCell') = true := by simp [outA, Value.oneCell', h]
theorem outA_rng {w : World} {mb : Nat} {E : EnvC} {vr : Value} {O : OutC} (h : Blk w mb (mcA E vr O) 71) : w.rangeAt mb 14 (outA O).toList := by
  refine h.range 14 _ ?_
  rfl
/-- What Run answers. -/
def RunQ (C : Cod) (S : Sur) (G : List (Img × Value × List Ent)) (w : World) (e : Ending) (w' : World) : Prop :=
  (refI C S.att.length S.uni.length S.vry.length ≠ 0 ∧ e = .returned (.tuple #[.agg (outA outZ), .int .i64 (refI C S.att.length S.uni.length S.vry.length)]) ∧ Ext w w') ∨
  (refI C S.att.length S.uni.length S.vry.length = 0 ∧ ∃ vy, e = .returned (.tuple #[.agg (outA ⟨(runP C S G).1.po, (runP C S G).1.sz, vy, (runP C S G).1.cl, (runP C S G).1.dc⟩), .int .i64 0]) ∧ OV w' w.heap.size vy (runP C S G).1.V ∧ Ext w w')
theorem run1_any (w : World) (k : Int) : Calls Tryz.prog 28 #[.int .i64 k] w fun e w' => e = .returned (.tuple #[]) ∧ w' = w := by
  go_enter Tryz.func28, Tryz.ntmps28
  go_wp2
  refine bodyPost_end (v := .tuple #[]) (by simp [results, Tryz.results28, go_sem]) rfl ⟨rfl, rfl⟩
theorem run1_sees (w0 : World) (mb : Nat) (vr vy : Value) : Sees Tryz.prog w0 mb vr vy 28 #[] (fun _ _ => True) :=
  ⟨enters_of Tryz.func28 (by kernel_rfl) rfl, fun _ _ _ _ _ _ _ => trivial, fun _ _ _ _ _ => trivial, fun k w tr _ _ _ _ => by
    refine (run1_any w k).mono ?_
    rintro e w1 ⟨rfl, rfl⟩
    exact ⟨rfl, trivial, Out.refl _ _⟩⟩

set_option maxRecDepth 10000 in
set_option maxHeartbeats 8000000 in
theorem runV_any (C : Cod) (v : Value) (E : EnvC) (S : Sur) (G : List (Img × Value × List Ent)) (w : World) (hI : IR w v C.ins) (hok : ∀ I ∈ C.ins, OkI I) (hS : SurAt w E S) (hG : GR w E.vi G) (h32 : Sur32 S) :
    Calls Tryz.prog 12 #[.agg #[.int .i64 (C).stage, v, .int .i64 (C).regs, .int .i64 (C).attr, .int .i64 (C).unif, .int .i64 (C).vary], .agg (envA E)] w fun e w' => RunQ C S G w e w' := by
  have hX : Ext w (((w.alloc (.cells #[.int .i64 (C).stage, v, .int .i64 (C).regs, .int .i64 (C).attr, .int .i64 (C).unif, .int .i64 (C).vary] 24)).alloc (.cells (envA E) 31)).alloc (.cells (outA outZ) 36)) := (((Ext.refl w).alloc _).alloc _).alloc _
  have hC : Blk (((w.alloc (.cells #[.int .i64 (C).stage, v, .int .i64 (C).regs, .int .i64 (C).attr, .int .i64 (C).unif, .int .i64 (C).vary] 24)).alloc (.cells (envA E) 31)).alloc (.cells (outA outZ) 36)) w.heap.size #[.int .i64 (C).stage, v, .int .i64 (C).regs, .int .i64 (C).attr, .int .i64 (C).unif, .int .i64 (C).vary] 24 := ((Blk.new w _ _).alloc _).alloc _
  have hE : Blk (((w.alloc (.cells #[.int .i64 (C).stage, v, .int .i64 (C).regs, .int .i64 (C).attr, .int .i64 (C).unif, .int .i64 (C).vary] 24)).alloc (.cells (envA E) 31)).alloc (.cells (outA outZ) 36)) (w.heap.size + 1) (envA E) 31 := (Blk.at (by simp)).alloc _
  have hO : Blk (((w.alloc (.cells #[.int .i64 (C).stage, v, .int .i64 (C).regs, .int .i64 (C).attr, .int .i64 (C).unif, .int .i64 (C).vary] 24)).alloc (.cells (envA E) 31)).alloc (.cells (outA outZ) 36)) (w.heap.size + 1 + 1) (outA outZ) 36 := Blk.at (by simp)
  have D := hide (And.intro hC (And.intro hE (And.intro hO hX)))
  have HA := hide (And.intro hI (And.intro hS hG))
  have HOK := hide (And.intro hok h32)
  clear hX hC hE hO hI hS hG hok h32
  go_enter Tryz.func12, Tryz.ntmps12
  go_upto_region 1 with fail
  generalize hw3 : (((w.alloc (.cells #[.int .i64 (C).stage, v, .int .i64 (C).regs, .int .i64 (C).attr, .int .i64 (C).unif, .int .i64 (C).vary] 24)).alloc (.cells (envA E) 31)).alloc (.cells (outA outZ) 36)) = w3 at D
  rw [show (((w.alloc (.cells #[.int .i64 (C).stage, v, .int .i64 (C).regs, .int .i64 (C).attr, .int .i64 (C).unif, .int .i64 (C).vary] 24)).alloc (.cells (envA E) 31)).alloc (.cells #[.int .i32 0, .int .i32 0, .int .i32 0, .int .i32 0, .int .i32 0, .slice none 0 0, .int .i32 0, .int .i32 0, .int .i32 0, .int .i32 0, .bool false] 36)) = w3 from hw3]
  clear hw3
  have HB := hide (unhide D).1
  have HE := hide (unhide D).2.1
  have HRF := hide (refusalM_any C v E S w3 ((unhide HA).1.ext (unhide D).2.2.2) ((unhide HA).2.1.ext (unhide D).2.2.2))
  have EQ := hide (show RunQ C S G w = RunQ C S G w from rfl)
  obtain ⟨r, hr⟩ : ∃ r, refI C S.att.length S.uni.length S.vry.length = r := ⟨_, rfl⟩
  rw [hr] at HRF
  have HR := hide hr
  clear hr
  go_upto_region 2 with (first
    | refine wpList_load_row rfl 24 (.tmp 2) rfl w.heap.size rfl 24 #[.int .i64 (C).stage, v, .int .i64 (C).regs, .int .i64 (C).attr, .int .i64 (C).unif, .int .i64 (C).vary] (0, 0) _ (unhide HB) Tryz.underlying24 rfl size6 ?_
    | refine wpList_load_row rfl 31 (.tmp 3) rfl (w.heap.size + 1) rfl 31 (envA E) (0, 0) _ (unhide HE) Tryz.underlying31 rfl sizeEnv ?_
    | (go_at_call 25; refine (unhide HRF).mono ?_; rintro e w4 ⟨rfl, hx4⟩; have X4 := hide hx4; clear hx4))
  have D4 := hide (And.intro ((unhide D).1.ext (unhide X4)) (And.intro ((unhide D).2.1.ext (unhide X4)) (And.intro ((unhide D).2.2.1.ext (unhide X4)) ((unhide D).2.2.2.trans (unhide X4)))))
  clear D HB HE HRF X4
  by_cases h0 : r = 0
  case neg =>
    have d : (r != 0) = true := by simp [h0]
    have HO := hide (unhide D4).2.2.1
    have H0 := hide h0
    clear h0
    go_wp2_with (first
      | refine wpList_buildTo rfl 36 _ rfl (some 13) rfl (outA outZ) (by kernel_rfl) ?_
      | refine wpList_store_row rfl 36 (.tmp 4) (.tmp 13) rfl (w.heap.size + 1 + 1) (outA outZ) rfl rfl 36 _ (unhide HO) sizeOut rfl (outA_one outZ none 0 0 rfl) ?_)
    refine bodyPost_ret (v := .tuple #[.agg (outA outZ), .int .i64 r]) (results_cell_tmp Tryz.results12 _ _ (w.heap.size + 1 + 1) 36 _ _ rfl _ rfl (Blk.row (unhide HO)) Tryz.underlying36 rfl sizeOut) rfl (.inl ⟨by rw [unhide HR]; exact unhide H0, by rw [unhide HR], ?_⟩)
    exact ext_row (unhide D4).2.2.2 (by omega)
  case pos =>
  have hfit := ref_zero ((unhide HR).trans h0)
  have H0 := hide h0
  subst h0
  have hmay := hfit.1
  have hvry : 0 ≤ C.vary ∧ C.vary ≤ 4 := by
    have h := hmay
    simp only [mayP, Bool.and_eq_true] at h
    have h2 := h.1
    unfold headB at h2
    split at h2
    · simp only [Bool.and_eq_true, inB_iff] at h2
      omega
    · split at h2
      · simp only [Bool.and_eq_true, inB_iff] at h2
        omega
      · cases h2
  have HNM := hide (newMachine_any C v E w4 (may_regs hmay).2 hvry)
  have HFIT := hide (fit_of hfit.2 (unhide HOK).2)
  have HMAY := hide hmay
  clear hfit hmay hvry
  have HB := hide (unhide D4).1
  have HE := hide (unhide D4).2.1
  go_upto_region 5 with (first
    | refine wpList_load_row rfl 24 (.tmp 2) rfl w.heap.size rfl 24 #[.int .i64 (C).stage, v, .int .i64 (C).regs, .int .i64 (C).attr, .int .i64 (C).unif, .int .i64 (C).vary] (0, 0) _ (unhide HB) Tryz.underlying24 rfl size6 ?_
    | refine wpList_load_row rfl 31 (.tmp 3) rfl (w.heap.size + 1) rfl 31 (envA E) (0, 0) _ (unhide HE) Tryz.underlying31 rfl sizeEnv ?_
    | (go_at_call 26; refine (unhide HNM).mono ?_; rintro e w5 ⟨mb, vr, vy, rfl, hnm⟩; have NM := hide hnm; clear hnm))
  have X45 := hide (unhide NM).2.2.2.1
  have c1 := (((unhide D4).1).ext (unhide X45)).cell (i := 1) (v := v) rfl
  have MM : Hid (MAt w4 w5 mb E vr vy (st0 C)) := by
    obtain ⟨h1, h2, h3, h4, h5, h6, h7⟩ := unhide NM
    exact ⟨h1, h2, h3, h4, h5, h6, h7⟩
  have HRUN := hide (run_any (unhide HMAY) (unhide MM) ((unhide HA).2.1.ext (unhide D4).2.2.2) ((unhide HA).2.2.ext (unhide D4).2.2.2) (unhide HFIT) ((unhide HA).1.ext (unhide D4).2.2.2) (unhide HOK).1 (run1_sees w4 mb vr vy) trivial)
  have D5 := hide (And.intro (unhide D4).2.2.1 (unhide D4).2.2.2)
  have hs4 : w.heap.size + 3 ≤ w4.heap.size := by have := (unhide D4).2.2.1.lt; omega
  clear HNM NM MM HB HE D4
  go_upto_region 6 with (go_at_call 27; refine (unhide HRUN).mono ?_; rintro e w6 hrun; have RM := hide hrun; clear hrun; obtain ⟨rfl, _, _⟩ := id (unhide RM))
  clear HRUN
  obtain ⟨q, hq⟩ : ∃ q, runP C S G = q := ⟨_, rfl⟩
  have HQ := hide hq
  rw [hq] at RM
  clear hq
  have hM : ∃ vy', MAt w4 w6 mb E vr vy' q.1 := by
    obtain ⟨_, _, h | h⟩ := unhide RM
    · exact ⟨vy, h.2⟩
    · exact ⟨_, h.2⟩
  obtain ⟨vy', hM⟩ := hM
  have M6 := hide hM
  have hmb4 := hM.2.2.2.2.1
  obtain ⟨ao, cap, evy, _⟩ := GO.shape hM.2.2.1
  have HEV := hide evy
  have HRG := hide (outA_rng hM.1)
  clear hM RM evy c1
  have HO := hide ((unhide D5).1.ext (unhide M6).2.2.2.1)
  go_wp2_with (first
    | (refine wpList_load_mid rfl 36 (.tmp 24) rfl mb 14 rfl (outA ⟨q.1.po, q.1.sz, vy', q.1.cl, q.1.dc⟩).toList _ (unhide HRG) Tryz.underlying36 rfl sizeOut ?_; rw [Array.toArray_toList])
    | refine wpList_store_row rfl 36 (.tmp 4) (.tmp 25) rfl (w.heap.size + 1 + 1) (outA ⟨q.1.po, q.1.sz, vy', q.1.cl, q.1.dc⟩) rfl rfl 36 _ (unhide HO) sizeOut rfl (outA_one _ ao _ cap (unhide HEV)) ?_)
  refine bodyPost_ret (v := .tuple #[.agg (outA ⟨q.1.po, q.1.sz, vy', q.1.cl, q.1.dc⟩), .int .i64 0]) (results_cell_tmp Tryz.results12 _ _ (w.heap.size + 1 + 1) 36 _ _ rfl _ rfl (Blk.row (unhide HO)) Tryz.underlying36 rfl sizeOut) rfl (.inr ⟨unhide HR, vy', by rw [unhide HQ], ?_, ?_⟩)
  · rw [unhide HQ]
    exact (GO.lower (unhide M6).2.2.1 (by omega)).keep (row_grown _ _ _) (fun b hb => by have := (GO.lt (unhide M6).2.2.1 b hb).1; omega)
  · exact ext_row ((unhide D5).2.trans (unhide M6).2.2.2.1) (by omega)
end Go.Proofs.YtglfhmlcmffoaaaGreat
