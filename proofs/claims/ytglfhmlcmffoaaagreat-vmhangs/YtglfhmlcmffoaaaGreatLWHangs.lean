/-
  Proved: VmHangs answers true for every code and every two surroundings: what no instruction that is done loads is no matter. No condition.
-/
import Derived.Test.YtglfhmlcmffoaaaGreatVHaJ
import Derived.Test.YtglfhmlcmffoaaaGreatCZaJ
import Derived.Test.YtglfhmlcmffoaaaGreatVWk
import Derived.Deep.CutRange
namespace Go.Proofs.YtglfhmlcmffoaaaGreat
open Go.ChangeShapes Go.WideShapes Go.ChangeAt Go.RowKit
set_option linter.unusedVariables false
set_option linter.unusedSimpArgs false

theorem size64B : (Tryz.prog.info? 60).map (·.size) = some 64 := by kernel_rfl
theorem zero64 : ∀ w, (zeroValue 60).run Tryz.prog w = .ok (.agg (bcells (List.replicate 64 false))) w := run_zeroH (by kernel_rfl)

set_option maxRecDepth 10000 in
set_option maxHeartbeats 16000000 in
theorem hangsLaw_any (C : Cod) (v : Value) (E : EnvC) (S : Sur) (G : List (Img × Value × List Ent)) (F : EnvC) (SF : Sur) (GF : List (Img × Value × List Ent)) (W : World) (hI : IR W v C.ins) (hok : ∀ I ∈ C.ins, OkI I) (hE : EnvIn W E S G) (hF : EnvIn W F SF GF) :
    Calls Tryz.prog 7 #[.agg #[.int .i64 (C).stage, v, .int .i64 (C).regs, .int .i64 (C).attr, .int .i64 (C).unif, .int .i64 (C).vary], .agg (envA E), .agg (envA F)] W fun e w' => e = .returned (.bool true) ∧ Ext W w' := by
  have HX0 : Hid (Ext W (((W.alloc (.cells #[.int .i64 (C).stage, v, .int .i64 (C).regs, .int .i64 (C).attr, .int .i64 (C).unif, .int .i64 (C).vary] 24)).alloc (.cells (envA E) 31)).alloc (.cells (envA F) 31))) := (((Ext.refl W).alloc _).alloc _).alloc _
  have HP0 : Hid (Blk (((W.alloc (.cells #[.int .i64 (C).stage, v, .int .i64 (C).regs, .int .i64 (C).attr, .int .i64 (C).unif, .int .i64 (C).vary] 24)).alloc (.cells (envA E) 31)).alloc (.cells (envA F) 31)) W.heap.size #[.int .i64 (C).stage, v, .int .i64 (C).regs, .int .i64 (C).attr, .int .i64 (C).unif, .int .i64 (C).vary] 24) := ((Blk.new W _ _).alloc _).alloc _
  have HQ0 : Hid (Blk (((W.alloc (.cells #[.int .i64 (C).stage, v, .int .i64 (C).regs, .int .i64 (C).attr, .int .i64 (C).unif, .int .i64 (C).vary] 24)).alloc (.cells (envA E) 31)).alloc (.cells (envA F) 31)) (W.heap.size + 1) (envA E) 31) := (Blk.at (by simp)).alloc _
  have HF0 : Hid (Blk (((W.alloc (.cells #[.int .i64 (C).stage, v, .int .i64 (C).regs, .int .i64 (C).attr, .int .i64 (C).unif, .int .i64 (C).vary] 24)).alloc (.cells (envA E) 31)).alloc (.cells (envA F) 31)) (W.heap.size + 1 + 1) (envA F) 31) := Blk.at (by simp)
  have HS32 := hide (sur32_cut hE)
  have HSF32 := hide (sur32_cut hF)
  have HGR := hide (gr_cut hE)
  have HGF := hide (gr_cut hF)
  have HOK := hide (cutC_ok hok)
  have HFW := hide (fun wx (hx : Ext W wx) => few18_any C v wx (hI.ext hx))
  have HAR := hide (fun wx (hx : Ext W wx) => around18_any E S G wx (hE.ext hx))
  have HAF := hide (fun wx (hx : Ext W wx) => around18_any F SF GF wx (hF.ext hx))
  have HEI := hide hE
  clear hI hE hF hok
  go_enter Tryz.func7, Tryz.ntmps7
  go_upto_region 1 with fail
  generalize hw0 : (((W.alloc (.cells #[.int .i64 (C).stage, v, .int .i64 (C).regs, .int .i64 (C).attr, .int .i64 (C).unif, .int .i64 (C).vary] 24)).alloc (.cells (envA E) 31)).alloc (.cells (envA F) 31)) = w0 at HX0 HP0 HQ0 HF0
  try rw [show (((W.alloc (.cells #[.int .i64 (C).stage, v, .int .i64 (C).regs, .int .i64 (C).attr, .int .i64 (C).unif, .int .i64 (C).vary] 24)).alloc (.cells (envA E) 31)).alloc (.cells (envA F) 31)) = w0 from hw0]
  clear hw0
  have HWK := hide (wakes18_any w0)
  go_upto_region 3 with (go_at_call 9; refine (unhide HWK).mono ?_; rintro e w1 ⟨rfl, hx1⟩; have X1 := hide hx1; clear hx1)
  have HX1 := hide ((unhide HX0).trans (unhide X1))
  have HP1 := hide ((unhide HP0).ext (unhide X1))
  have HQ1 := hide ((unhide HQ0).ext (unhide X1))
  have HF1 := hide ((unhide HF0).ext (unhide X1))
  clear HX0 HP0 HQ0 HF0 X1 HWK
  refine wp_region_noPanic ?_
  refine wp_regionL (S := SL 6 7 8 (fun wx => Blk wx W.heap.size #[.int .i64 (C).stage, v, .int .i64 (C).regs, .int .i64 (C).attr, .int .i64 (C).unif, .int .i64 (C).vary] 24) (fun wx => Blk wx (W.heap.size + 1) (envA E) 31) (fun wx => Blk wx (W.heap.size + 1 + 1) (envA F) 31)) (by kernel_rfl) ?_
  have P2 : Blk w1.drew W.heap.size #[.int .i64 (C).stage, v, .int .i64 (C).regs, .int .i64 (C).attr, .int .i64 (C).unif, .int .i64 (C).vary] 24 := unhide HP1
  have Q2 : Blk w1.drew (W.heap.size + 1) (envA E) 31 := unhide HQ1
  have F2b : Blk w1.drew (W.heap.size + 1 + 1) (envA F) 31 := unhide HF1
  have X2 : Ext W w1.drew := (unhide HX1).drew
  generalize w1.drew = w2 at P2 Q2 F2b X2 ⊢
  clear HX1 HP1 HQ1 HF1
  refine wpAnyL_take (fun wx => Blk wx W.heap.size #[.int .i64 (C).stage, v, .int .i64 (C).regs, .int .i64 (C).attr, .int .i64 (C).unif, .int .i64 (C).vary] 24) [6] (i := 0) (oi := { dst := some 26, op := Op.load _ (Operand.tmp 3), type := _, pos := _, after := _, guard := none }) (v := .agg #[.int .i64 (C).stage, v, .int .i64 (C).regs, .int .i64 (C).attr, .int .i64 (C).unif, .int .i64 (C).vary]) rfl (by kernel_rfl) (by kernel_rfl) (by kernel_rfl) (by kernel_rfl) (by kernel_rfl) (fun _ _ _ h => h) (SL.ind (by decide) (by decide) (by decide)) (SL.get1) (yieldsIf_load_mid (by rfl) 24 (.tmp 3) rfl W.heap.size 0 rfl (#[.int .i64 (C).stage, v, .int .i64 (C).regs, .int .i64 (C).attr, .int .i64 (C).unif, .int .i64 (C).vary] : Array Value).toList _ (fun wx hx => hx.rng0) Tryz.underlying24 rfl size6) (SL.all P2 Q2 F2b) (SL.all P2 Q2 F2b)  ?_
  simp only [Act.put, List.setIfInBounds_toArray, List.set_cons_zero, List.set_cons_succ]
  refine wpAnyL_take (fun wx => Blk wx (W.heap.size + 1) (envA E) 31) [7] (i := 2) (oi := { dst := some 28, op := Op.load _ (Operand.tmp 4), type := _, pos := _, after := _, guard := none }) (v := .agg (envA E)) rfl (by kernel_rfl) (by kernel_rfl) (by kernel_rfl) (by kernel_rfl) (by kernel_rfl) (fun _ _ _ h => h) (SL.ind (by decide) (by decide) (by decide)) (SL.get2) (yieldsIf_load_mid (by rfl) 31 (.tmp 4) rfl (W.heap.size + 1) 0 rfl ((envA E) : Array Value).toList _ (fun wx hx => hx.rng0) Tryz.underlying31 rfl sizeEnv) (SL.all P2 Q2 F2b) (SL.all P2 Q2 F2b)  ?_
  simp only [Act.put, List.setIfInBounds_toArray, List.set_cons_zero, List.set_cons_succ]
  refine wpAnyL_take (fun wx => Blk wx (W.heap.size + 1 + 1) (envA F) 31) [8] (i := 4) (oi := { dst := some 30, op := Op.load _ (Operand.tmp 5), type := _, pos := _, after := _, guard := none }) (v := .agg (envA F)) rfl (by kernel_rfl) (by kernel_rfl) (by kernel_rfl) (by kernel_rfl) (by kernel_rfl) (fun _ _ _ h => h) (SL.ind (by decide) (by decide) (by decide)) (SL.get3) (yieldsIf_load_mid (by rfl) 31 (.tmp 5) rfl (W.heap.size + 1 + 1) 0 rfl ((envA F) : Array Value).toList _ (fun wx hx => hx.rng0) Tryz.underlying31 rfl sizeEnv) (SL.all P2 Q2 F2b) (SL.all P2 Q2 F2b)  ?_
  simp only [Act.put, List.setIfInBounds_toArray, List.set_cons_zero, List.set_cons_succ]
  refine wpAnyL_next (i := 1) (o := { dst := some 27, op := Op.call { callee := Callee.value (Operand.func _), args := #[Operand.tmp 26], argTypes := _ }, type := _, pos := _, after := _, guard := none }) (by kernel_rfl) rfl (by rfl) (fun KK hK => ?_)
  go_simp
  refine (unhide HFW _ X2).mono ?_
  rintro e w3 ⟨am, cm, rfl, hm3, hx3⟩
  have P3 := P2.ext hx3
  have Q3 := Q2.ext hx3
  have F3b := F2b.ext hx3
  have X3 := X2.trans hx3
  have hsw : W.heap.size + 3 ≤ w2.heap.size := by have := F2b.lt; omega
  have hb3 := hx3.size
  clear hx3 P2 Q2 F2b X2
  refine unhide hK _ _ (SL.all P3 Q3 F3b) ?_
  clear hK KK
  try simp only [Act.put, List.setIfInBounds_toArray, List.set_cons_zero, List.set_cons_succ]
  refine wpAnyL_next (i := 3) (o := { dst := some 29, op := Op.call { callee := Callee.value (Operand.func _), args := #[Operand.tmp 28], argTypes := _ }, type := _, pos := _, after := _, guard := none }) (by kernel_rfl) rfl (by rfl) (fun KK hK => ?_)
  go_simp
  refine (unhide HAR _ X3).mono ?_
  rintro e w4 ⟨E2, rfl, hv4, hg4, hx4⟩
  have HVI := hide hg4
  have P4 := P3.ext hx4
  have Q4 := Q3.ext hx4
  have F4b := F3b.ext hx4
  have X4 := X3.trans hx4
  have hm4 := hm3.ext hx4
  have hb4 := hx4.size
  clear hx4 P3 Q3 F3b hm3 hg4 X3
  refine unhide hK _ _ (SL.all P4 Q4 F4b) ?_
  clear hK KK
  try simp only [Act.put, List.setIfInBounds_toArray, List.set_cons_zero, List.set_cons_succ]
  refine wpAnyL_next (i := 5) (o := { dst := some 31, op := Op.call { callee := Callee.value (Operand.func _), args := #[Operand.tmp 30], argTypes := _ }, type := _, pos := _, after := _, guard := none }) (by kernel_rfl) rfl (by rfl) (fun KK hK => ?_)
  go_simp
  refine (unhide HAF _ X4).mono ?_
  rintro e w5 ⟨F2, rfl, hf5, hg5, hx5⟩
  have HFVI := hide hg5
  have P5 := P4.ext hx5
  have Q5 := Q4.ext hx5
  have F5b := F4b.ext hx5
  have X5 := X4.trans hx5
  have hm5 := hm4.ext hx5
  have hv5 := hv4.ext hx5
  have hb5 := hx5.size
  clear hx5 P4 Q4 F4b hm4 hv4 hg5 X4
  refine unhide hK _ _ (SL.all P5 Q5 F5b) ?_
  clear hK KK
  try simp only [Act.put, List.setIfInBounds_toArray, List.set_cons_zero, List.set_cons_succ]
  have HONEE2 : Hid ((envA E2).all (·.oneCell') = true) := by
    obtain ⟨_, _, r1, _⟩ := GO.shape hv5.va
    obtain ⟨_, _, r2, _⟩ := GO.shape hv5.vu
    obtain ⟨_, _, r3, _⟩ := GO.shape hv5.vv
    obtain ⟨_, _, r4, _⟩ := unhide HGR _ X5
    rw [← unhide HVI] at r4
    simp [Hid, envA, r1, r2, r3, r4, Value.oneCell']
  have HONEF2 : Hid ((envA F2).all (·.oneCell') = true) := by
    obtain ⟨_, _, r1, _⟩ := GO.shape hf5.va
    obtain ⟨_, _, r2, _⟩ := GO.shape hf5.vu
    obtain ⟨_, _, r3, _⟩ := GO.shape hf5.vv
    obtain ⟨_, _, r4, _⟩ := unhide HGF _ X5
    rw [← unhide HFVI] at r4
    simp [Hid, envA, r1, r2, r3, r4, Value.oneCell']
  refine wpAnyL_next (i := 6) (o := { dst := none, op := Op.store _ (Operand.tmp 3) (Operand.tmp 27), type := _, pos := _, after := _, guard := none }) (by kernel_rfl) rfl (by rfl) (fun KK hK => ?_)
  refine wp_store_row 24 (.tmp 3) (.tmp 27) rfl W.heap.size #[.int .i64 ((cutC C)).stage, .slice am (cutC C).ins.length cm, .int .i64 ((cutC C)).regs, .int .i64 ((cutC C)).attr, .int .i64 ((cutC C)).unif, .int .i64 ((cutC C)).vary] rfl rfl 24 _ P5 size6 rfl (by simp [Value.oneCell']) ?_
  have P6 := P5.rowC (cs' := #[.int .i64 ((cutC C)).stage, .slice am (cutC C).ins.length cm, .int .i64 ((cutC C)).regs, .int .i64 ((cutC C)).attr, .int .i64 ((cutC C)).unif, .int .i64 ((cutC C)).vary])
  have Q6 : Blk (w5.setRow W.heap.size #[.int .i64 ((cutC C)).stage, .slice am (cutC C).ins.length cm, .int .i64 ((cutC C)).regs, .int .i64 ((cutC C)).attr, .int .i64 ((cutC C)).unif, .int .i64 ((cutC C)).vary]) (W.heap.size + 1) (envA E) 31 := (setRow_other w5 W.heap.size (W.heap.size + 1) _ (by omega)).trans Q5
  have F6b : Blk (w5.setRow W.heap.size #[.int .i64 ((cutC C)).stage, .slice am (cutC C).ins.length cm, .int .i64 ((cutC C)).regs, .int .i64 ((cutC C)).attr, .int .i64 ((cutC C)).unif, .int .i64 ((cutC C)).vary]) (W.heap.size + 1 + 1) (envA F) 31 := (setRow_other w5 W.heap.size (W.heap.size + 1 + 1) _ (by omega)).trans F5b
  have X6 := extRow (cs := #[.int .i64 ((cutC C)).stage, .slice am (cutC C).ins.length cm, .int .i64 ((cutC C)).regs, .int .i64 ((cutC C)).attr, .int .i64 ((cutC C)).unif, .int .i64 ((cutC C)).vary]) X5 (show W.heap.size ≤ W.heap.size by omega)
  have hm6 := hm5.kept9 (row_grown w5 W.heap.size #[.int .i64 ((cutC C)).stage, .slice am (cutC C).ins.length cm, .int .i64 ((cutC C)).regs, .int .i64 ((cutC C)).attr, .int .i64 ((cutC C)).unif, .int .i64 ((cutC C)).vary]) (hm5.neB P5 (by decide))
  have hv6 := hv5.keep (row_grown w5 W.heap.size #[.int .i64 ((cutC C)).stage, .slice am (cutC C).ins.length cm, .int .i64 ((cutC C)).regs, .int .i64 ((cutC C)).attr, .int .i64 ((cutC C)).unif, .int .i64 ((cutC C)).vary]) (by omega)
  have hf6 := hf5.keep (row_grown w5 W.heap.size #[.int .i64 ((cutC C)).stage, .slice am (cutC C).ins.length cm, .int .i64 ((cutC C)).regs, .int .i64 ((cutC C)).attr, .int .i64 ((cutC C)).unif, .int .i64 ((cutC C)).vary]) (by omega)
  generalize w5.setRow W.heap.size #[.int .i64 ((cutC C)).stage, .slice am (cutC C).ins.length cm, .int .i64 ((cutC C)).regs, .int .i64 ((cutC C)).attr, .int .i64 ((cutC C)).unif, .int .i64 ((cutC C)).vary] = w6 at P6 Q6 F6b X6 hm6 hv6 hf6 ⊢
  clear P5 Q5 F5b X5 hm5 hv5 hf5
  refine unhide hK _ _ (SL.mk1 (getD_self _ _) Q6 F6b) ?_
  clear hK KK
  try simp only [Act.put, List.setIfInBounds_toArray, List.set_cons_zero, List.set_cons_succ]
  refine wpAnyL_next (i := 7) (o := { dst := none, op := Op.store _ (Operand.tmp 4) (Operand.tmp 29), type := _, pos := _, after := _, guard := none }) (by kernel_rfl) rfl (by rfl) (fun KK hK => ?_)
  refine wp_store_row 31 (.tmp 4) (.tmp 29) rfl (W.heap.size + 1) (envA E2) rfl rfl 31 _ Q6 sizeEnv rfl (unhide HONEE2) ?_
  have P7 : Blk (w6.setRow (W.heap.size + 1) (envA E2)) W.heap.size #[.int .i64 ((cutC C)).stage, .slice am (cutC C).ins.length cm, .int .i64 ((cutC C)).regs, .int .i64 ((cutC C)).attr, .int .i64 ((cutC C)).unif, .int .i64 ((cutC C)).vary] 24 := (setRow_other w6 (W.heap.size + 1) W.heap.size _ (by omega)).trans P6
  have Q7 := Q6.rowC (cs' := (envA E2))
  have F7b : Blk (w6.setRow (W.heap.size + 1) (envA E2)) (W.heap.size + 1 + 1) (envA F) 31 := (setRow_other w6 (W.heap.size + 1) (W.heap.size + 1 + 1) _ (by omega)).trans F6b
  have X7 := extRow (cs := (envA E2)) X6 (show W.heap.size ≤ (W.heap.size + 1) by omega)
  have hm7 := hm6.kept9 (row_grown w6 (W.heap.size + 1) (envA E2)) (hm6.neB Q6 (by decide))
  have hv7 := hv6.keep (row_grown w6 (W.heap.size + 1) (envA E2)) (by omega)
  have hf7 := hf6.keep (row_grown w6 (W.heap.size + 1) (envA E2)) (by omega)
  generalize w6.setRow (W.heap.size + 1) (envA E2) = w7 at P7 Q7 F7b X7 hm7 hv7 hf7 ⊢
  clear P6 Q6 F6b X6 hm6 hv6 hf6
  refine unhide hK _ _ (SL.mk2 (by kernel_rfl) (getD_self _ _) F7b) ?_
  clear hK KK
  try simp only [Act.put, List.setIfInBounds_toArray, List.set_cons_zero, List.set_cons_succ]
  refine wpAnyL_next (i := 8) (o := { dst := none, op := Op.store _ (Operand.tmp 5) (Operand.tmp 31), type := _, pos := _, after := _, guard := none }) (by kernel_rfl) rfl (by rfl) (fun KK hK => ?_)
  refine wp_store_row 31 (.tmp 5) (.tmp 31) rfl (W.heap.size + 1 + 1) (envA F2) rfl rfl 31 _ F7b sizeEnv rfl (unhide HONEF2) ?_
  have P8 : Blk (w7.setRow (W.heap.size + 1 + 1) (envA F2)) W.heap.size #[.int .i64 ((cutC C)).stage, .slice am (cutC C).ins.length cm, .int .i64 ((cutC C)).regs, .int .i64 ((cutC C)).attr, .int .i64 ((cutC C)).unif, .int .i64 ((cutC C)).vary] 24 := (setRow_other w7 (W.heap.size + 1 + 1) W.heap.size _ (by omega)).trans P7
  have Q8 : Blk (w7.setRow (W.heap.size + 1 + 1) (envA F2)) (W.heap.size + 1) (envA E2) 31 := (setRow_other w7 (W.heap.size + 1 + 1) (W.heap.size + 1) _ (by omega)).trans Q7
  have F8b := F7b.rowC (cs' := (envA F2))
  have X8 := extRow (cs := (envA F2)) X7 (show W.heap.size ≤ (W.heap.size + 1 + 1) by omega)
  have hm8 := hm7.kept9 (row_grown w7 (W.heap.size + 1 + 1) (envA F2)) (hm7.neB F7b (by decide))
  have hv8 := hv7.keep (row_grown w7 (W.heap.size + 1 + 1) (envA F2)) (by omega)
  have hf8 := hf7.keep (row_grown w7 (W.heap.size + 1 + 1) (envA F2)) (by omega)
  generalize w7.setRow (W.heap.size + 1 + 1) (envA F2) = w8 at P8 Q8 F8b X8 hm8 hv8 hf8 ⊢
  clear P7 Q7 F7b X7 hm7 hv7 hf7
  refine unhide hK _ _ (SL.mk3 (by kernel_rfl) (by kernel_rfl) (getD_self _ _)) ?_
  clear hK KK
  try simp only [Act.put, List.setIfInBounds_toArray, List.set_cons_zero, List.set_cons_succ]
  refine wpAnyL_done (by kernel_rfl) ?_ _
  refine NoPanic.normal ?_
  have HP := hide P8
  have HQ := hide Q8
  have HF := hide F8b
  have HX := hide X8
  have HV := hide hv8
  have HVF := hide hf8
  have HM := hide hm8
  clear P8 Q8 F8b X8 hv8 hf8 hm8 HFW HAF HONEE2 HONEF2 HAR
  have HGX : Hid (∀ wx, Ext W wx → GR wx E2.vi (G.take 4)) := fun wx hx => gr_own (unhide HEI) (unhide HVI) wx hx
  have HGFX : Hid (∀ wx, Ext W wx → GR wx F2.vi (GF.take 4)) := fun wx hx => by rw [unhide HFVI]; exact unhide HGF _ hx
  have HRUN := hide ((runV_any (cutC C) _ E2 (cutS S) (G.take 4) w8 (unhide HM).ir (unhide HOK) (unhide HV).sur (unhide HGX _ (unhide HX)) (unhide HS32)).mono fun e w' h => RunQ.shape h)
  clear HGR HGF
  go_upto_region 5 with (first
    | refine wpList_load_row rfl 24 (.tmp 3) rfl W.heap.size rfl 24 #[.int .i64 ((cutC C)).stage, .slice am (cutC C).ins.length cm, .int .i64 ((cutC C)).regs, .int .i64 ((cutC C)).attr, .int .i64 ((cutC C)).unif, .int .i64 ((cutC C)).vary] (0, 0) _ (unhide HP) Tryz.underlying24 rfl size6 ?_
    | refine wpList_load_row rfl 31 (.tmp 4) rfl (W.heap.size + 1) rfl 31 (envA E2) (0, 0) _ (unhide HQ) Tryz.underlying31 rfl sizeEnv ?_
    | (go_at_call 12; refine (unhide HRUN).mono ?_; rintro e w9 ⟨O, r, rfl, hrs⟩; have RS := hide hrs; clear hrs; have H1O : Hid ((outA O).all (·.oneCell') = true) := (by obtain ⟨a9, n9, c9, h9⟩ := (unhide RS).vy; exact outA_one O a9 n9 c9 h9))
    | refine wpList_store_row rfl 36 (.tmp 7) (.tmp 36) rfl w9.heap.size (outA O) rfl rfl 36 (outA outZ) (Blk.new w9 (outA outZ) 36) sizeOut rfl (unhide H1O) ?_)
  have HXR : Hid (Ext w8 ((w9.alloc (.cells (outA outZ) 36)).setRow w9.heap.size (outA O))) := extRow ((unhide RS).ext.alloc _) (unhide RS).ext.size
  have HO : Hid (Blk ((w9.alloc (.cells (outA outZ) 36)).setRow w9.heap.size (outA O)) w9.heap.size (outA O) 36) := Blk.rowC (Blk.new w9 (outA outZ) 36)
  have HVO : Hid (r = 0 → OV ((w9.alloc (.cells (outA outZ) 36)).setRow w9.heap.size (outA O)) w8.heap.size O.vy (runP (cutC C) (cutS S) (G.take 4)).1.V) := fun h => GO.keep (GO.ext ((unhide RS).ok h).2.2.2.2 ((Ext.refl _).alloc _)) (row_grown _ _ _) (fun b hb => by have := (GO.lt ((unhide RS).ok h).2.2.2.2 b hb).2; omega)
  obtain ⟨rb, hrb⟩ : ∃ b, w9.heap.size = b := ⟨_, rfl⟩
  generalize hwA : (w9.alloc (.cells (outA outZ) 36)).setRow w9.heap.size (outA O) = wA at HXR HO HVO
  try rw [show (w9.alloc (.cells (outA outZ) 36)).setRow w9.heap.size (outA O) = wA from hwA]
  try rw [show (w9.alloc (.cells #[.int .i32 0, .int .i32 0, .int .i32 0, .int .i32 0, .int .i32 0, .slice none 0 0, .int .i32 0, .int .i32 0, .int .i32 0, .int .i32 0, .bool false] 36)).setRow w9.heap.size (outA O) = wA from hwA]
  try rw [show Value.pointer (some ⟨w9.heap.size, 0, none⟩) = Value.pointer (some ⟨rb, 0, none⟩) by rw [hrb]]
  rw [hrb] at HO
  clear hwA hrb HRUN
  have HPA := hide ((unhide HP).ext (unhide HXR))
  have HQA := hide ((unhide HQ).ext (unhide HXR))
  have HFA := hide ((unhide HF).ext (unhide HXR))
  have HXA := hide ((unhide HX).trans (unhide HXR))
  have HMA := hide ((unhide HM).ext (unhide HXR))
  have HVA := hide ((unhide HV).ext (unhide HXR))
  have HVFA := hide ((unhide HVF).ext (unhide HXR))
  have HR := hide (unhide RS).err
  clear HP HQ HF HX HM HV HVF HXR
  by_cases h0 : r = 0
  case neg =>
    have d : (r != 0) = true := by simp [h0]
    clear h0
    go_wp2
    go_ret
    exact ⟨rfl, unhide HXA⟩
  case pos =>
  have HOKR := hide ((unhide RS).ok h0)
  have HVO0 := hide (unhide HVO h0)
  subst h0
  have hfit := ref_zero (unhide HR).symm
  have HFIT := hide hfit
  have hil : (cutC C).ins.length ≤ 4096 := (may_regs hfit.1).1
  have HTRC := hide ((trace_any (cutC C) _ E2 (cutS S) (G.take 4) wA (unhide HMA).ir (unhide HOK) (unhide HVA).sur (unhide HGX _ (unhide HXA)) (unhide HS32)).mono fun e w' h => TrcQ.shape h)
  clear HVO RS hfit
  go_upto_region 8 with (first
    | refine wpList_load_row rfl 24 (.tmp 3) rfl W.heap.size rfl 24 #[.int .i64 ((cutC C)).stage, .slice am (cutC C).ins.length cm, .int .i64 ((cutC C)).regs, .int .i64 ((cutC C)).attr, .int .i64 ((cutC C)).unif, .int .i64 ((cutC C)).vary] (0, 0) _ (unhide HPA) Tryz.underlying24 rfl size6 ?_
    | refine wpList_load_row rfl 31 (.tmp 4) rfl (W.heap.size + 1) rfl 31 (envA E2) (0, 0) _ (unhide HQA) Tryz.underlying31 rfl sizeEnv ?_
    | (go_at_call 13; refine (unhide HTRC).mono ?_; rintro e wB ⟨lo, ln, lc, rt, rfl, hts⟩; have TS := hide hts; clear hts))
  have hrt : rt = 0 := (unhide TS).err.trans (unhide HR).symm
  subst hrt
  obtain ⟨hln, hG7⟩ := (unhide TS).ok rfl
  obtain ⟨P, hP⟩ : ∃ P, (runP (cutC C) (cutS S) (G.take 4)).2 = P := ⟨_, rfl⟩
  have HPF := hide (runP_facts (unhide HFIT).1 (cutS S) (G.take 4))
  rw [hP] at hln hG7 HPF
  have HPE := hide hP
  have HXB := hide (unhide TS).ext
  have HG7 := hide hG7
  have HPB := hide ((unhide HPA).ext (unhide HXB))
  have HQB := hide ((unhide HQA).ext (unhide HXB))
  have HFB := hide ((unhide HFA).ext (unhide HXB))
  have HOB := hide ((unhide HO).ext (unhide HXB))
  have HMB := hide ((unhide HMA).ext (unhide HXB))
  have HVB := hide ((unhide HVA).ext (unhide HXB))
  have HVFB := hide ((unhide HVFA).ext (unhide HXB))
  have HVOB := hide (GO.ext (unhide HVO0) (unhide HXB))
  have HXW := hide ((unhide HXA).trans (unhide HXB))
  have HPL := hide (unhide HPF).2.1
  have HNN := hide hln
  have hlm : P.length ≤ (cutC C).ins.length := (unhide HPF).2.2.1
  rw [← hln] at hlm
  clear HTRC TS hG7 hP hln HPF HPA HQA HFA HO HMA HVA HVFA HVO0 HXA HXB
  obtain ⟨mm, hmm⟩ : ∃ mm, (cutC C).ins.length = mm := ⟨_, rfl⟩
  have HMM := hide hmm
  rw [hmm] at hlm hil
  clear hmm
  obtain ⟨Z0, hZ0⟩ : ∃ z, bcells (List.replicate 64 false) = z := ⟨_, rfl⟩
  have hz64 : ∀ w, (zeroValue 60).run Tryz.prog w = .ok (.agg Z0) w := fun w => by rw [← hZ0]; exact zero64 w
  have HZ0 := hide hZ0
  clear hZ0
  go_upto_region 9 with fail
  obtain ⟨A, hA⟩ : ∃ A, wB.heap.size = A := ⟨_, rfl⟩
  have HA0 : Hid (Blk (((wB.alloc (.cells Z0 60)).alloc (.cells Z0 60)).alloc (.cells Z0 60)) A Z0 60) := ((Blk.at hA).alloc _).alloc _
  have HU0 : Hid (Blk (((wB.alloc (.cells Z0 60)).alloc (.cells Z0 60)).alloc (.cells Z0 60)) (A + 1) Z0 60) := (Blk.at (by rw [← hA]; simp)).alloc _
  have HY0 : Hid (Blk (((wB.alloc (.cells Z0 60)).alloc (.cells Z0 60)).alloc (.cells Z0 60)) (A + 1 + 1) Z0 60) := Blk.at (by rw [← hA]; simp)
  have HXC0 : Hid (Ext wB (((wB.alloc (.cells Z0 60)).alloc (.cells Z0 60)).alloc (.cells Z0 60))) := (((Ext.refl wB).alloc _).alloc _).alloc _
  have hAs : wB.heap.size ≤ A := by omega
  try rw [show Value.pointer (some ⟨wB.heap.size, 0, none⟩) = Value.pointer (some ⟨A, 0, none⟩) by rw [hA]]
  try rw [show Value.pointer (some ⟨wB.heap.size + 1, 0, none⟩) = Value.pointer (some ⟨A + 1, 0, none⟩) by rw [hA]]
  try rw [show Value.pointer (some ⟨wB.heap.size + 1 + 1, 0, none⟩) = Value.pointer (some ⟨A + 1 + 1, 0, none⟩) by rw [hA]]
  generalize (((wB.alloc (.cells Z0 60)).alloc (.cells Z0 60)).alloc (.cells Z0 60)) = wC at HA0 HU0 HY0 HXC0 ⊢
  rw [← unhide HZ0] at HA0 HU0 HY0
  have h00 := hide (And.intro (unhide HXC0) (And.intro (unhide HA0) (And.intro (unhide HU0) (unhide HY0))))
  clear HA0 HU0 HY0 HXC0 hA hz64
  go_wp2
  go_loopw [14, 15, 16, 17, 48] (fun f1 f2 f3 f4 p wr => ∃ k : Nat, k ≤ ln ∧ f1 = .bool (rdK (cutC C).ins P k).co ∧ f2 = .bool (rdK (cutC C).ins P k).fr ∧ f3 = .bool (rdK (cutC C).ins P k).pt ∧ f4 = .bool (rdK (cutC C).ins P k).tx ∧ p = .int .i64 (k : Int) ∧ Hid (Ext wB wr ∧ Blk wr A (bcells (rdK (cutC C).ins P k).a) 60 ∧ Blk wr (A + 1) (bcells (rdK (cutC C).ins P k).u) 60 ∧ Blk wr (A + 1 + 1) (bcells (rdK (cutC C).ins P k).v) 60)) (fun _ _ _ _ p _ => ln - (intOf p).toNat)
  case atStart => exact ⟨0, Nat.zero_le _, rfl, rfl, rfl, rfl, rfl, unhide h00⟩
  case round =>
    obtain ⟨k, hk, rfl, rfl, rfl, rfl, rfl, R0⟩ := hrel
    clear h00
    have HLEN := hide (rdK_len (cutC C).ins P k)
    by_cases hlt : k < ln
    case pos =>
      have hkP : k < P.length := by rw [← unhide HNN]; exact hlt
      have hki : (k : Int) < (ln : Int) := by omega
      obtain ⟨gl, rfl, _, _, ck⟩ := nrow_at (GO.ext (unhide HG7) (unhide R0).1) k hkP
      have hxl := (unhide HPL _ (List.getElem_mem hkP)).1
      have HNX : Hid ((rdK (cutC C).ins P (k + 1)) = rdS ((rdK (cutC C).ins P k)) ((cutC C).ins.getD (P.getD k 0) zI)) := rfl
      have HL64 := hide (load_64 (unhide HFIT).1 P[k] hxl)
      have hpd : P.getD k 0 = P[k] := by simp [hkP]
      have hgd : (cutC C).ins.getD P[k] zI = (cutC C).ins[P[k]] := by simp [hxl]
      rw [hpd, hgd] at HNX
      obtain ⟨ao9, cp9, e9, _, _, _, hat⟩ := ((unhide HMB).ext (unhide R0).1).ir
      have e9' := (Value.slice.inj e9).1
      obtain ⟨b9, of9, e8, hrr⟩ := hat P[k] hxl
      rw [← e9'] at e8
      subst e8
      have z1 := ((unhide HPB).ext (unhide R0).1).cell (i := 1) (v := .slice (some ⟨b9, of9, none⟩) mm cm) (by rw [← unhide HMM]; rfl)
      rw [unhide HMM] at hxl
      obtain ⟨I, hIe⟩ : ∃ I, (cutC C).ins[P[k]]'(by rw [unhide HMM]; exact hxl) = I := ⟨_, rfl⟩
      rw [hIe] at HNX hrr HL64
      obtain ⟨x, hxe⟩ : ∃ x, P[k] = x := ⟨_, rfl⟩
      rw [hxe] at ck hxl hrr
      obtain ⟨rk, hrk⟩ : ∃ rk, (rdK (cutC C).ins P k) = rk := ⟨_, rfl⟩
      rw [hrk] at HNX HLEN R0 ⊢
      have HRR := hide hrr
      have hxi : (x : Int) < (mm : Int) := by omega
      clear hpd hgd e9 e9' hat hIe hxe hrk hrr
      go_upto_region 15 with (first
        | (refine wpList_load_mid rfl 59 (.tmp 55) rfl b9 (of9 + x * 16) rfl (insA I).toList _ (unhide HRR) Tryz.underlying59 rfl sizeI16 ?_; rw [Array.toArray_toList])
        | refine wpList_storeLast rfl 59 (.tmp 20) (.tmp 56) rfl _ wr.heap.size (by simp) rfl (insA I) rfl 16 sizeI16 rfl rfl (insA_one I) ?_)
      have B2 : Hid (Blk (wr.alloc (.cells (insA I) 59)) wr.heap.size (insA I) 59) := Blk.new _ _ _
      have R1 := hide (And.intro ((unhide R0).1.alloc (.cells (insA I) 59)) (And.intro ((unhide R0).2.1.alloc (.cells (insA I) 59)) (And.intro ((unhide R0).2.2.1.alloc (.cells (insA I) 59)) ((unhide R0).2.2.2.alloc (.cells (insA I) 59)))))
      obtain ⟨IB, hIB⟩ : ∃ B, wr.heap.size = B := ⟨_, rfl⟩
      have hAI : A + 3 ≤ IB := by have := (unhide R0).2.2.2.lt; omega
      rw [hIB] at B2
      rw [show Value.pointer (some ⟨wr.heap.size, 0, none⟩) = Value.pointer (some ⟨IB, 0, none⟩) by rw [hIB]]
      clear hIB R0 HRR ck z1
      generalize wr.alloc (.cells (insA I) 59) = w2a at B2 R1 ⊢
      have i0 := ins_at (unhide B2) 0 (v := .int .i64 (I 0)) rfl
      by_cases c9 : I 0 = 9
      case pos =>
        have HE : Hid ((rdK (cutC C).ins P (k + 1)) = ⟨rk.a, rk.u, rk.v, rk.co, rk.fr, rk.pt, true⟩) := by rw [Hid, unhide HNX]; unfold rdS; rw [if_pos c9]
        rw [c9] at i0
        clear c9 HNX HL64
        go_wp2
        go_roundw
        case rel => exact ⟨k + 1, by omega, by rw [unhide HE], by rw [unhide HE], by rw [unhide HE], by rw [unhide HE], by go_num, by rw [unhide HE]; exact unhide R1⟩
        case measure => simp [intOf]; omega
      case neg =>
      have d9 : (I 0 == 9) = false := by simp [c9]
      by_cases c3 : I 0 = 3
      case neg =>
        have HE : Hid ((rdK (cutC C).ins P (k + 1)) = rk) := by rw [Hid, unhide HNX]; unfold rdS; rw [if_neg c9, if_pos c3]
        have d3 : (I 0 != 3) = true := by simp [c3]
        clear c9 c3 HNX HL64
        go_wp2
        go_roundw
        case rel => exact ⟨k + 1, by omega, by rw [unhide HE], by rw [unhide HE], by rw [unhide HE], by rw [unhide HE], by go_num, by rw [unhide HE]; exact unhide R1⟩
        case measure => simp [intOf]; omega
      case pos =>
      have hI5 := unhide HL64 c3
      have HNX3 : Hid ((rdK (cutC C).ins P (k + 1)) = if I 1 = 1 then ⟨rk.a.set (I 5).toNat true, rk.u, rk.v, rk.co, rk.fr, rk.pt, rk.tx⟩ else if I 1 = 2 then ⟨rk.a, rk.u.set (I 5).toNat true, rk.v, rk.co, rk.fr, rk.pt, rk.tx⟩ else if I 1 = 3 then ⟨rk.a, rk.u, rk.v.set (I 5).toNat true, rk.co, rk.fr, rk.pt, rk.tx⟩ else if I 1 = 4 then ⟨rk.a, rk.u, rk.v, true, rk.fr, rk.pt, rk.tx⟩ else if I 1 = 5 then ⟨rk.a, rk.u, rk.v, rk.co, true, rk.pt, rk.tx⟩ else ⟨rk.a, rk.u, rk.v, rk.co, rk.fr, true, rk.tx⟩) := by
        rw [Hid, unhide HNX]
        unfold rdS
        rw [if_neg c9, if_neg (by omega)]
      rw [c3] at i0
      have i1 := ins_at (unhide B2) 1 (v := .int .i64 (I 1)) rfl
      have i5 := ins_at (unhide B2) 5 (v := .int .i64 (I 5)) rfl
      obtain ⟨j, hj⟩ : ∃ j : Nat, I 5 = (j : Int) := ⟨(I 5).toNat, by omega⟩
      rw [hj] at i5 hI5 HNX3
      rw [Int.toNat_natCast] at HNX3
      have hj64 : j < 64 := by omega
      have hj64i : (j : Int) < 64 := by omega
      obtain ⟨o1, ho1⟩ : ∃ o, I 1 = o := ⟨_, rfl⟩
      rw [ho1] at i1 HNX3
      clear c9 c3 HNX HL64 hj ho1 d9
      by_cases g1 : o1 = 1
      case pos =>
        have HE : Hid ((rdK (cutC C).ins P (k + 1)) = ⟨rk.a.set j true, rk.u, rk.v, rk.co, rk.fr, rk.pt, rk.tx⟩) := by rw [Hid, unhide HNX3, if_pos g1]
        subst g1
        have hjr : j < rk.a.length := by rw [(unhide HLEN).1]; exact hj64
        have cj := (unhide R1).2.1.cell (bcells_at hjr)
        have fj := (unhide R1).2.1.free j
        have R2 : Hid (Ext wB (w2a.setCell ⟨A, j, none⟩ (.bool true)) ∧ Blk (w2a.setCell ⟨A, j, none⟩ (.bool true)) A (bcells (⟨rk.a.set j true, rk.u, rk.v, rk.co, rk.fr, rk.pt, rk.tx⟩ : Rds).a) 60 ∧ Blk (w2a.setCell ⟨A, j, none⟩ (.bool true)) (A + 1) (bcells (⟨rk.a.set j true, rk.u, rk.v, rk.co, rk.fr, rk.pt, rk.tx⟩ : Rds).u) 60 ∧ Blk (w2a.setCell ⟨A, j, none⟩ (.bool true)) (A + 1 + 1) (bcells (⟨rk.a.set j true, rk.u, rk.v, rk.co, rk.fr, rk.pt, rk.tx⟩ : Rds).v) 60) := ⟨extSet (unhide R1).1 (by omega), (by rw [← bcells_set]; exact (unhide R1).2.1.set j (.bool true)), ((unhide R1).2.2.1.other (r := A) j (.bool true) (by omega)), ((unhide R1).2.2.2.other (r := A) j (.bool true) (by omega))⟩
        clear R1 HNX3 hjr
        go_wp2
        go_roundw
        case rel => exact ⟨k + 1, by omega, by rw [unhide HE], by rw [unhide HE], by rw [unhide HE], by rw [unhide HE], by go_num, by rw [unhide HE]; exact unhide R2⟩
        case measure => simp [intOf]; omega
      case neg =>
      have f1 : (o1 == 1) = false := by simp [g1]
      by_cases g2 : o1 = 2
      case pos =>
        have HE : Hid ((rdK (cutC C).ins P (k + 1)) = ⟨rk.a, rk.u.set j true, rk.v, rk.co, rk.fr, rk.pt, rk.tx⟩) := by rw [Hid, unhide HNX3, if_neg g1, if_pos g2]
        subst g2
        have hjr : j < rk.u.length := by rw [(unhide HLEN).2.1]; exact hj64
        have cj := (unhide R1).2.2.1.cell (bcells_at hjr)
        have fj := (unhide R1).2.2.1.free j
        have R2 : Hid (Ext wB (w2a.setCell ⟨A + 1, j, none⟩ (.bool true)) ∧ Blk (w2a.setCell ⟨A + 1, j, none⟩ (.bool true)) A (bcells (⟨rk.a, rk.u.set j true, rk.v, rk.co, rk.fr, rk.pt, rk.tx⟩ : Rds).a) 60 ∧ Blk (w2a.setCell ⟨A + 1, j, none⟩ (.bool true)) (A + 1) (bcells (⟨rk.a, rk.u.set j true, rk.v, rk.co, rk.fr, rk.pt, rk.tx⟩ : Rds).u) 60 ∧ Blk (w2a.setCell ⟨A + 1, j, none⟩ (.bool true)) (A + 1 + 1) (bcells (⟨rk.a, rk.u.set j true, rk.v, rk.co, rk.fr, rk.pt, rk.tx⟩ : Rds).v) 60) := ⟨extSet (unhide R1).1 (by omega), ((unhide R1).2.1.other (r := (A + 1)) j (.bool true) (by omega)), (by rw [← bcells_set]; exact (unhide R1).2.2.1.set j (.bool true)), ((unhide R1).2.2.2.other (r := (A + 1)) j (.bool true) (by omega))⟩
        clear R1 HNX3 hjr
        go_wp2
        go_roundw
        case rel => exact ⟨k + 1, by omega, by rw [unhide HE], by rw [unhide HE], by rw [unhide HE], by rw [unhide HE], by go_num, by rw [unhide HE]; exact unhide R2⟩
        case measure => simp [intOf]; omega
      case neg =>
      have f2 : (o1 == 2) = false := by simp [g2]
      by_cases g3 : o1 = 3
      case pos =>
        have HE : Hid ((rdK (cutC C).ins P (k + 1)) = ⟨rk.a, rk.u, rk.v.set j true, rk.co, rk.fr, rk.pt, rk.tx⟩) := by rw [Hid, unhide HNX3, if_neg g1, if_neg g2, if_pos g3]
        subst g3
        have hjr : j < rk.v.length := by rw [(unhide HLEN).2.2]; exact hj64
        have cj := (unhide R1).2.2.2.cell (bcells_at hjr)
        have fj := (unhide R1).2.2.2.free j
        have R2 : Hid (Ext wB (w2a.setCell ⟨A + 1 + 1, j, none⟩ (.bool true)) ∧ Blk (w2a.setCell ⟨A + 1 + 1, j, none⟩ (.bool true)) A (bcells (⟨rk.a, rk.u, rk.v.set j true, rk.co, rk.fr, rk.pt, rk.tx⟩ : Rds).a) 60 ∧ Blk (w2a.setCell ⟨A + 1 + 1, j, none⟩ (.bool true)) (A + 1) (bcells (⟨rk.a, rk.u, rk.v.set j true, rk.co, rk.fr, rk.pt, rk.tx⟩ : Rds).u) 60 ∧ Blk (w2a.setCell ⟨A + 1 + 1, j, none⟩ (.bool true)) (A + 1 + 1) (bcells (⟨rk.a, rk.u, rk.v.set j true, rk.co, rk.fr, rk.pt, rk.tx⟩ : Rds).v) 60) := ⟨extSet (unhide R1).1 (by omega), ((unhide R1).2.1.other (r := (A + 1 + 1)) j (.bool true) (by omega)), ((unhide R1).2.2.1.other (r := (A + 1 + 1)) j (.bool true) (by omega)), (by rw [← bcells_set]; exact (unhide R1).2.2.2.set j (.bool true))⟩
        clear R1 HNX3 hjr
        go_wp2
        go_roundw
        case rel => exact ⟨k + 1, by omega, by rw [unhide HE], by rw [unhide HE], by rw [unhide HE], by rw [unhide HE], by go_num, by rw [unhide HE]; exact unhide R2⟩
        case measure => simp [intOf]; omega
      case neg =>
      have f3 : (o1 == 3) = false := by simp [g3]
      by_cases g4 : o1 = 4
      case pos =>
        have HE : Hid ((rdK (cutC C).ins P (k + 1)) = ⟨rk.a, rk.u, rk.v, true, rk.fr, rk.pt, rk.tx⟩) := by rw [Hid, unhide HNX3, if_neg g1, if_neg g2, if_neg g3, if_pos g4]
        subst g4
        clear HNX3
        go_wp2
        go_roundw
        case rel => exact ⟨k + 1, by omega, by rw [unhide HE], by rw [unhide HE], by rw [unhide HE], by rw [unhide HE], by go_num, by rw [unhide HE]; exact unhide R1⟩
        case measure => simp [intOf]; omega
      case neg =>
      have f4 : (o1 == 4) = false := by simp [g4]
      by_cases g5 : o1 = 5
      case pos =>
        have HE : Hid ((rdK (cutC C).ins P (k + 1)) = ⟨rk.a, rk.u, rk.v, rk.co, true, rk.pt, rk.tx⟩) := by rw [Hid, unhide HNX3, if_neg g1, if_neg g2, if_neg g3, if_neg g4, if_pos g5]
        subst g5
        clear HNX3
        go_wp2
        go_roundw
        case rel => exact ⟨k + 1, by omega, by rw [unhide HE], by rw [unhide HE], by rw [unhide HE], by rw [unhide HE], by go_num, by rw [unhide HE]; exact unhide R1⟩
        case measure => simp [intOf]; omega
      case neg =>
      have f5 : (o1 == 5) = false := by simp [g5]
      have HE : Hid ((rdK (cutC C).ins P (k + 1)) = ⟨rk.a, rk.u, rk.v, rk.co, rk.fr, true, rk.tx⟩) := by rw [Hid, unhide HNX3, if_neg g1, if_neg g2, if_neg g3, if_neg g4, if_neg g5]
      clear HNX3 g1 g2 g3 g4 g5
      go_wp2
      go_roundw
      case rel => exact ⟨k + 1, by omega, by rw [unhide HE], by rw [unhide HE], by rw [unhide HE], by rw [unhide HE], by go_num, by rw [unhide HE]; exact unhide R1⟩
      case measure => simp [intOf]; omega
    case neg =>
      obtain rfl : k = ln := by omega
      obtain ⟨rk, hrk⟩ : ∃ rk, (rdK (cutC C).ins P k) = rk := ⟨_, rfl⟩
      have hmk : ∀ x ∈ (runP (cutC C) (cutS S) (G.take 4)).2, Mk rk ((cutC C).ins.getD x zI) := by
        rw [unhide HPE, ← hrk]
        intro x hx
        obtain ⟨j, hj, rfl⟩ := List.getElem_of_mem hx
        have hb : ∀ x ∈ P, ((cutC C).ins.getD x zI) 0 = 3 → (((cutC C).ins.getD x zI) 5).toNat < 64 := fun x hx h3 => by
          have hl := (unhide HPL x hx).1
          rw [show (cutC C).ins.getD x zI = (cutC C).ins[x] by simp [hl]] at h3 ⊢
          have := load_64 (unhide HFIT).1 x hl h3
          omega
        have := rdK_mk hb k (by rw [unhide HNN]; exact Nat.le_refl _) j (by rw [unhide HNN]; exact hj)
        rwa [show P.getD j 0 = P[j] by simp [hj]] at this
      have HRE := hide (runP_mix (unhide HFIT).1 (cutS S) (cutS SF) (G.take 4) (GF.take 4) rk hmk)
      rw [hrk] at R0 HLEN ⊢
      have HP := hide ((unhide HPB).ext (unhide R0).1)
      have HQ := hide ((unhide HQB).ext (unhide R0).1)
      have HF := hide ((unhide HFB).ext (unhide R0).1)
      have HO := hide ((unhide HOB).ext (unhide R0).1)
      have HM := hide ((unhide HMB).ext (unhide R0).1)
      have HV := hide ((unhide HVB).ext (unhide R0).1)
      have HVF := hide ((unhide HVFB).ext (unhide R0).1)
      have HVO := hide (GO.ext (unhide HVOB) (unhide R0).1)
      have HXr := hide ((unhide HXW).trans (unhide R0).1)
      have HAR3 := hide (around18_any E2 (cutS S) (G.take 4) wr (envIn_of (unhide HEI) (unhide HV) (unhide HVI) (unhide HXr)))
      have HSH : Hid (∃ ao n c, cutI E2.vi 4 = .slice ao n c) := by
        obtain ⟨ao, cap, e, _⟩ := (unhide HEI).gi.2
        rw [Hid, unhide HVI, e]
        exact ⟨ao, _, cap, rfl⟩
      obtain ⟨fco, hfco⟩ : ∃ b, rk.co = b := ⟨_, rfl⟩
      obtain ⟨ffr, hffr⟩ : ∃ b, rk.fr = b := ⟨_, rfl⟩
      obtain ⟨fpt, hfpt⟩ : ∃ b, rk.pt = b := ⟨_, rfl⟩
      obtain ⟨ftx, hftx⟩ : ∃ b, rk.tx = b := ⟨_, rfl⟩
      rw [hfco, hffr, hfpt, hftx]
      have HFL := hide (And.intro hfco (And.intro hffr (And.intro hfpt hftx)))
      clear hfco hffr hfpt hftx hmk hrk HPB HQB HFB HOB HMB HVB HVFB HVOB HXW HG7
      go_upto_region 30 with (first
        | refine wpList_load_row rfl 31 (.tmp 4) rfl (W.heap.size + 1) rfl 31 (envA E2) (0, 0) _ (unhide HQ) Tryz.underlying31 rfl sizeEnv ?_
        | (go_at_call 11; refine (unhide HAR3).mono ?_; rintro e wD ⟨E3, rfl, hv3, hg3, hx3⟩; have HVI3 := hide hg3; have X3 := hide hx3; have HONE3 : Hid ((envA E3).all (·.oneCell') = true) := (by obtain ⟨_, _, r1, _⟩ := GO.shape hv3.va; obtain ⟨_, _, r2, _⟩ := GO.shape hv3.vu; obtain ⟨_, _, r3, _⟩ := GO.shape hv3.vv; obtain ⟨_, _, _, r4⟩ := unhide HSH; rw [← hg3] at r4; simp [Hid, envA, r1, r2, r3, r4, Value.oneCell']); have HV3 := hide hv3; clear hv3 hg3 hx3)
        | refine wpList_store_row rfl 31 (.tmp 21) (.tmp 96) rfl wD.heap.size (envA E3) rfl rfl 31 (envA envZ) (Blk.new wD (envA envZ) 31) sizeEnv rfl (unhide HONE3) ?_)
      have hv3 := unhide HV3
      rw [cutS_idem] at hv3
      have HK3 : Hid (∀ (v : Value) (M : List (Nat → Int)), OV wD wr.heap.size v M → OV ((wD.alloc (.cells (envA envZ) 31)).setRow wD.heap.size (envA E3)) 0 v M) := fun v M h => GO.lower (GO.keep (GO.ext h ((Ext.refl _).alloc _)) (row_grown _ _ _) (fun b hb => by have := (GO.lt h b hb).2; omega)) (Nat.zero_le _)
      have HBM : Hid (Blk ((wD.alloc (.cells (envA envZ) 31)).setRow wD.heap.size (envA E3)) wD.heap.size (envA E3) 31) := Blk.rowC (Blk.new wD (envA envZ) 31)
      have HXE : Hid (Ext wr ((wD.alloc (.cells (envA envZ) 31)).setRow wD.heap.size (envA E3))) := extRow ((unhide X3).alloc _) (unhide X3).size
      have HCF := hide (And.intro hv3.co (And.intro hv3.fr hv3.pt))
      have HDI := hide (And.intro hv3.au (And.intro hv3.av hv3.uv))
      have HA := hide (unhide HK3 _ _ hv3.va)
      have HLA : Hid (∀ b, E3.va.ownBlock = some b → wr.heap.size ≤ b ∧ b < wD.heap.size) := fun b hb => GO.lt hv3.va b hb
      have HGA := hide (GO.lower (b2 := 0) (unhide HVF).va (Nat.zero_le _))
      have HHA : Hid (∀ b, F2.va.ownBlock = some b → b < wr.heap.size) := fun b hb => (GO.lt (unhide HVF).va b hb).2
      obtain ⟨TA, hTA⟩ : ∃ t, (cutS S).att = t := ⟨_, rfl⟩
      obtain ⟨QA, hQA⟩ : ∃ t, (cutS SF).att = t := ⟨_, rfl⟩
      have hT40A : TA.length ≤ 40 := by rw [← hTA]; show (S.att.take 40).length ≤ 40; rw [List.length_take]; omega
      have hQ40A : QA.length ≤ 40 := by rw [← hQA]; show (SF.att.take 40).length ≤ 40; rw [List.length_take]; omega
      rw [hTA] at HA
      rw [hQA] at HGA
      have HTA := hide (And.intro hTA hQA)
      clear hTA hQA
      obtain ⟨ta, da, sa, _⟩ := GO.shape (unhide HA)
      obtain ⟨qa, ga, ya, _⟩ := GO.shape (unhide HGA)
      obtain ⟨nat, hnat⟩ : ∃ n, TA.length = n := ⟨_, rfl⟩
      obtain ⟨naq, hnaq⟩ : ∃ n, QA.length = n := ⟨_, rfl⟩
      rw [hnat] at sa hT40A
      rw [hnaq] at ya hQ40A
      have HSLA := hide (And.intro sa ya)
      have HNTA := hide (And.intro hnat hnaq)
      rw [sa] at HA
      rw [ya] at HGA
      clear sa ya hnat hnaq
      have hszA : (Tryz.prog.info? 60).map (·.size) = some (bcells rk.a).size := by rw [size64B]; simp [bcells, (unhide HLEN).1]
      have HU := hide (unhide HK3 _ _ hv3.vu)
      have HLU : Hid (∀ b, E3.vu.ownBlock = some b → wr.heap.size ≤ b ∧ b < wD.heap.size) := fun b hb => GO.lt hv3.vu b hb
      have HGU := hide (GO.lower (b2 := 0) (unhide HVF).vu (Nat.zero_le _))
      have HHU : Hid (∀ b, F2.vu.ownBlock = some b → b < wr.heap.size) := fun b hb => (GO.lt (unhide HVF).vu b hb).2
      obtain ⟨TU, hTU⟩ : ∃ t, (cutS S).uni = t := ⟨_, rfl⟩
      obtain ⟨QU, hQU⟩ : ∃ t, (cutS SF).uni = t := ⟨_, rfl⟩
      have hT40U : TU.length ≤ 40 := by rw [← hTU]; show (S.uni.take 40).length ≤ 40; rw [List.length_take]; omega
      have hQ40U : QU.length ≤ 40 := by rw [← hQU]; show (SF.uni.take 40).length ≤ 40; rw [List.length_take]; omega
      rw [hTU] at HU
      rw [hQU] at HGU
      have HTU := hide (And.intro hTU hQU)
      clear hTU hQU
      obtain ⟨tu, du, su, _⟩ := GO.shape (unhide HU)
      obtain ⟨qu, gu, yu, _⟩ := GO.shape (unhide HGU)
      obtain ⟨nut, hnut⟩ : ∃ n, TU.length = n := ⟨_, rfl⟩
      obtain ⟨nuq, hnuq⟩ : ∃ n, QU.length = n := ⟨_, rfl⟩
      rw [hnut] at su hT40U
      rw [hnuq] at yu hQ40U
      have HSLU := hide (And.intro su yu)
      have HNTU := hide (And.intro hnut hnuq)
      rw [su] at HU
      rw [yu] at HGU
      clear su yu hnut hnuq
      have hszU : (Tryz.prog.info? 60).map (·.size) = some (bcells rk.u).size := by rw [size64B]; simp [bcells, (unhide HLEN).2.1]
      have HY := hide (unhide HK3 _ _ hv3.vv)
      have HLY : Hid (∀ b, E3.vv.ownBlock = some b → wr.heap.size ≤ b ∧ b < wD.heap.size) := fun b hb => GO.lt hv3.vv b hb
      have HGY := hide (GO.lower (b2 := 0) (unhide HVF).vv (Nat.zero_le _))
      have HHY : Hid (∀ b, F2.vv.ownBlock = some b → b < wr.heap.size) := fun b hb => (GO.lt (unhide HVF).vv b hb).2
      obtain ⟨TY, hTY⟩ : ∃ t, (cutS S).vry = t := ⟨_, rfl⟩
      obtain ⟨QY, hQY⟩ : ∃ t, (cutS SF).vry = t := ⟨_, rfl⟩
      have hT40Y : TY.length ≤ 40 := by rw [← hTY]; show (S.vry.take 40).length ≤ 40; rw [List.length_take]; omega
      have hQ40Y : QY.length ≤ 40 := by rw [← hQY]; show (SF.vry.take 40).length ≤ 40; rw [List.length_take]; omega
      rw [hTY] at HY
      rw [hQY] at HGY
      have HTY := hide (And.intro hTY hQY)
      clear hTY hQY
      obtain ⟨tv, dv, sv, _⟩ := GO.shape (unhide HY)
      obtain ⟨qv, gv, yv, _⟩ := GO.shape (unhide HGY)
      obtain ⟨nvt, hnvt⟩ : ∃ n, TY.length = n := ⟨_, rfl⟩
      obtain ⟨nvq, hnvq⟩ : ∃ n, QY.length = n := ⟨_, rfl⟩
      rw [hnvt] at sv hT40Y
      rw [hnvq] at yv hQ40Y
      have HSLY := hide (And.intro sv yv)
      have HNTY := hide (And.intro hnvt hnvq)
      rw [sv] at HY
      rw [yv] at HGY
      clear sv yv hnvt hnvq
      have hszY : (Tryz.prog.info? 60).map (·.size) = some (bcells rk.v).size := by rw [size64B]; simp [bcells, (unhide HLEN).2.2]
      obtain ⟨mb, hmb⟩ : ∃ b, wD.heap.size = b := ⟨_, rfl⟩
      have hmbr : wr.heap.size ≤ mb := by rw [← hmb]; exact (unhide X3).size
      generalize hwE : (wD.alloc (.cells (envA envZ) 31)).setRow wD.heap.size (envA E3) = wE at HBM HXE HA HU HY
      try rw [show (wD.alloc (.cells (envA envZ) 31)).setRow wD.heap.size (envA E3) = wE from hwE]
      try rw [show (wD.alloc (.cells #[.slice none 0 0, .slice none 0 0, .slice none 0 0, .int .i32 0, .int .i32 0, .int .i32 0, .int .i32 0, .bool false, .int .i32 0, .int .i32 0, .int .i32 0, .int .i32 0, .slice none 0 0] 31)).setRow wD.heap.size (envA E3) = wE from hwE]
      try rw [show Value.pointer (some ⟨wD.heap.size, 0, none⟩) = Value.pointer (some ⟨mb, 0, none⟩) by rw [hmb]]
      rw [hmb] at HBM HLA HLU HLY
      clear hwE hmb hv3 HK3 HV3 X3 HAR3 HQ HV HONE3 HSH
      have eg := enters_of Tryz.func23 (by kernel_rfl) rfl
      have ma := (unhide HBM).cell (i := 0) (v := .slice ta nat da) (by rw [← (unhide HSLA).1]; rfl)
      have ka := ((unhide HF).ext (unhide HXE)).cell (i := 0) (v := .slice qa naq ga) (by rw [← (unhide HSLA).2]; rfl)
      have HBA := hide ((unhide R0).2.1.ext (unhide HXE))
      have HLAYA := hide (lay18_any TA QA rk.a ta qa nat naq da ga 0 wE (unhide HA) (GO.ext (unhide HGA) (unhide HXE)) (unhide HNTA).1.symm (unhide HNTA).2.symm hT40A hQ40A (unhide HLEN).1 (fun b hb hq => by
        rw [← (unhide HSLA).1] at hb
        rw [← (unhide HSLA).2] at hq
        have h1 := (unhide HLA b hb).1
        have h2 := unhide HHA b hq
        omega))
      go_upto_region 32 with (first
        | refine wpList_load_row rfl 60 (.tmp 11) rfl A rfl 60 (bcells rk.a) (0, 0) _ (unhide HBA) Tryz.underlying60 rfl hszA ?_)
      refine (unhide HLAYA).mono ?_
      rintro e wF ⟨rfl, hta, hgr⟩
      have LTz := hide hta
      have LGz := hide hgr
      clear hta hgr
      go_upto_region 32 with fail
      rw [← (unhide HSLA).1] at LTz LGz
      have HXE2 : Hid (Ext wr wF) := (unhide HXE).grown (unhide LGz) (unhide HXE).size (fun b e => (unhide HLA b e).1)
      have HBM2 := hide ((unhide HBM).grownO (unhide LGz) (fun e => by have := (unhide HLA mb e).2; omega))
      clear HXE HBM HBA HLAYA HA ma ka hszA HGA
      have HA := LTz
      have HU2 := hide (GO.keepO (unhide HU) (unhide LGz) (fun b hb he => by rw [← (unhide HSLU).1] at hb; exact (unhide HDI).1 b he hb))
      clear HU
      have HU := HU2
      clear HU2
      have HY2 := hide (GO.keepO (unhide HY) (unhide LGz) (fun b hb he => by rw [← (unhide HSLY).1] at hb; exact (unhide HDI).2.1 b he hb))
      clear HY
      have HY := HY2
      clear HY2
      clear LTz LGz
      have HXE := HXE2
      have HBM := HBM2
      clear HXE2 HBM2
      have mu := (unhide HBM).cell (i := 1) (v := .slice tu nut du) (by rw [← (unhide HSLU).1]; rfl)
      have ku := ((unhide HF).ext (unhide HXE)).cell (i := 1) (v := .slice qu nuq gu) (by rw [← (unhide HSLU).2]; rfl)
      have HBU := hide ((unhide R0).2.2.1.ext (unhide HXE))
      have HLAYU := hide (lay18_any TU QU rk.u tu qu nut nuq du gu 0 wF (unhide HU) (GO.ext (unhide HGU) (unhide HXE)) (unhide HNTU).1.symm (unhide HNTU).2.symm hT40U hQ40U (unhide HLEN).2.1 (fun b hb hq => by
        rw [← (unhide HSLU).1] at hb
        rw [← (unhide HSLU).2] at hq
        have h1 := (unhide HLU b hb).1
        have h2 := unhide HHU b hq
        omega))
      go_upto_region 33 with (first
        | refine wpList_load_row rfl 60 (.tmp 12) rfl (A + 1) rfl 60 (bcells rk.u) (0, 0) _ (unhide HBU) Tryz.underlying60 rfl hszU ?_)
      refine (unhide HLAYU).mono ?_
      rintro e wG ⟨rfl, hta, hgr⟩
      have LTz := hide hta
      have LGz := hide hgr
      clear hta hgr
      go_upto_region 33 with fail
      rw [← (unhide HSLU).1] at LTz LGz
      have HXE2 : Hid (Ext wr wG) := (unhide HXE).grown (unhide LGz) (unhide HXE).size (fun b e => (unhide HLU b e).1)
      have HBM2 := hide ((unhide HBM).grownO (unhide LGz) (fun e => by have := (unhide HLU mb e).2; omega))
      clear HXE HBM HBU HLAYU HU mu ku hszU HGU
      have HU := LTz
      have HA2 := hide (GO.keepO (unhide HA) (unhide LGz) (fun b hb he => by exact (unhide HDI).1 b hb he))
      clear HA
      have HA := HA2
      clear HA2
      have HY2 := hide (GO.keepO (unhide HY) (unhide LGz) (fun b hb he => by rw [← (unhide HSLY).1] at hb; exact (unhide HDI).2.2 b he hb))
      clear HY
      have HY := HY2
      clear HY2
      clear LTz LGz
      have HXE := HXE2
      have HBM := HBM2
      clear HXE2 HBM2
      have mv := (unhide HBM).cell (i := 2) (v := .slice tv nvt dv) (by rw [← (unhide HSLY).1]; rfl)
      have kv := ((unhide HF).ext (unhide HXE)).cell (i := 2) (v := .slice qv nvq gv) (by rw [← (unhide HSLY).2]; rfl)
      have HBY := hide ((unhide R0).2.2.2.ext (unhide HXE))
      have HLAYY := hide (lay18_any TY QY rk.v tv qv nvt nvq dv gv 0 wG (unhide HY) (GO.ext (unhide HGY) (unhide HXE)) (unhide HNTY).1.symm (unhide HNTY).2.symm hT40Y hQ40Y (unhide HLEN).2.2 (fun b hb hq => by
        rw [← (unhide HSLY).1] at hb
        rw [← (unhide HSLY).2] at hq
        have h1 := (unhide HLY b hb).1
        have h2 := unhide HHY b hq
        omega))
      go_upto_region 34 with (first
        | refine wpList_load_row rfl 60 (.tmp 13) rfl (A + 1 + 1) rfl 60 (bcells rk.v) (0, 0) _ (unhide HBY) Tryz.underlying60 rfl hszY ?_)
      refine (unhide HLAYY).mono ?_
      rintro e wH ⟨rfl, hta, hgr⟩
      have LTz := hide hta
      have LGz := hide hgr
      clear hta hgr
      go_upto_region 34 with fail
      rw [← (unhide HSLY).1] at LTz LGz
      have HXE2 : Hid (Ext wr wH) := (unhide HXE).grown (unhide LGz) (unhide HXE).size (fun b e => (unhide HLY b e).1)
      have HBM2 := hide ((unhide HBM).grownO (unhide LGz) (fun e => by have := (unhide HLY mb e).2; omega))
      clear HXE HBM HBY HLAYY HY mv kv hszY HGY
      have HY := LTz
      have HA2 := hide (GO.keepO (unhide HA) (unhide LGz) (fun b hb he => by exact (unhide HDI).2.1 b hb he))
      clear HA
      have HA := HA2
      clear HA2
      have HU2 := hide (GO.keepO (unhide HU) (unhide LGz) (fun b hb he => by exact (unhide HDI).2.2 b hb he))
      clear HU
      have HU := HU2
      clear HU2
      clear LTz LGz
      have HXE := HXE2
      have HBM := HBM2
      clear HXE2 HBM2
      clear eg
      have ST := hide (show Blk wH mb (envA E3) 31 ∧ Ext wr wH ∧ OV wH 0 E3.va (mixTo TA QA rk.a nat) ∧ OV wH 0 E3.vu (mixTo TU QU rk.u nut) ∧ OV wH 0 E3.vv (mixTo TY QY rk.v nvt) from ⟨unhide HBM, unhide HXE, unhide HA, unhide HU, unhide HY⟩)
      clear HBM HXE HA HU HY
      go_upto_if 119 with fail
      go_cut [8] from 120 to 122 (fun e wc => e = .int .i64 0 ∧ ∃ wz, wz = wc ∧ Hid (Blk wz mb (envA (setCo4 E3 (if fco then E3.co else F2.co))) 31 ∧ Ext wr wz ∧ OV wz 0 E3.va (mixTo TA QA rk.a nat) ∧ OV wz 0 E3.vu (mixTo TU QU rk.u nut) ∧ OV wz 0 E3.vv (mixTo TY QY rk.v nvt)))
      case first =>
        cases fco
        case true =>
          go_wp2
          go_meet
          exact ⟨rfl, _, rfl, unhide ST⟩
        case false =>
          have HFE := hide ((unhide HF).ext (unhide ST).2.1)
          obtain ⟨y0, y1, y2, y3, y4, y5, y6, y7, y8, y9, y10, y11, y12⟩ := envA_cells (unhide HFE)
          obtain ⟨u0, u1, u2, u3, u4, u5, u6, u7, u8, u9, u10, u11, u12⟩ := envA_cells (unhide ST).1
          clear y0 y1 y2 u0 u1 u2 y7 u7 y8 u8 y9 u9 y10 u10 y11 u11 y12 u12
          have z3 := (unhide ST).1.free 3
          have z4 := (unhide ST).1.free 4
          have z5 := (unhide ST).1.free 5
          have z6 := (unhide ST).1.free 6
          have ST2 : Hid (Blk ((((wH.setCell ⟨mb, 3, none⟩ (.int .i32 (F2.co 0))).setCell ⟨mb, 4, none⟩ (.int .i32 (F2.co 1))).setCell ⟨mb, 5, none⟩ (.int .i32 (F2.co 2))).setCell ⟨mb, 6, none⟩ (.int .i32 (F2.co 3))) mb (envA (setCo4 E3 (if false = true then E3.co else F2.co))) 31 ∧ Ext wr ((((wH.setCell ⟨mb, 3, none⟩ (.int .i32 (F2.co 0))).setCell ⟨mb, 4, none⟩ (.int .i32 (F2.co 1))).setCell ⟨mb, 5, none⟩ (.int .i32 (F2.co 2))).setCell ⟨mb, 6, none⟩ (.int .i32 (F2.co 3))) ∧ OV ((((wH.setCell ⟨mb, 3, none⟩ (.int .i32 (F2.co 0))).setCell ⟨mb, 4, none⟩ (.int .i32 (F2.co 1))).setCell ⟨mb, 5, none⟩ (.int .i32 (F2.co 2))).setCell ⟨mb, 6, none⟩ (.int .i32 (F2.co 3))) 0 E3.va (mixTo TA QA rk.a nat) ∧ OV ((((wH.setCell ⟨mb, 3, none⟩ (.int .i32 (F2.co 0))).setCell ⟨mb, 4, none⟩ (.int .i32 (F2.co 1))).setCell ⟨mb, 5, none⟩ (.int .i32 (F2.co 2))).setCell ⟨mb, 6, none⟩ (.int .i32 (F2.co 3))) 0 E3.vu (mixTo TU QU rk.u nut) ∧ OV ((((wH.setCell ⟨mb, 3, none⟩ (.int .i32 (F2.co 0))).setCell ⟨mb, 4, none⟩ (.int .i32 (F2.co 1))).setCell ⟨mb, 5, none⟩ (.int .i32 (F2.co 2))).setCell ⟨mb, 6, none⟩ (.int .i32 (F2.co 3))) 0 E3.vv (mixTo TY QY rk.v nvt)) := by
            have hg : wH.grownBy ((((wH.setCell ⟨mb, 3, none⟩ (.int .i32 (F2.co 0))).setCell ⟨mb, 4, none⟩ (.int .i32 (F2.co 1))).setCell ⟨mb, 5, none⟩ (.int .i32 (F2.co 2))).setCell ⟨mb, 6, none⟩ (.int .i32 (F2.co 3))) (some mb) := (((((extGrownG (Ext.refl wH) (some mb)).trans (grownBy_set _ mb 3 _)).trans (grownBy_set _ mb 4 _)).trans (grownBy_set _ mb 5 _)).trans (grownBy_set _ mb 6 _))
            skip
            exact ⟨(((((unhide ST).1.set 3 (.int .i32 (F2.co 0))).set 4 (.int .i32 (F2.co 1))).set 5 (.int .i32 (F2.co 2))).set 6 (.int .i32 (F2.co 3))), (unhide ST).2.1.grown hg (unhide ST).2.1.size (fun b e => by cases e; exact hmbr), GO.keep (unhide ST).2.2.1 hg (fun b hb => by have := (unhide HLA b hb).2; omega), GO.keep (unhide ST).2.2.2.1 hg (fun b hb => by have := (unhide HLU b hb).2; omega), GO.keep (unhide ST).2.2.2.2 hg (fun b hb => by have := (unhide HLY b hb).2; omega)⟩
          clear ST
          go_wp2
          go_meet
          exact ⟨rfl, _, rfl, unhide ST2⟩
      case rest =>
      obtain ⟨rfl, wI, hwz9, hcut⟩ := hcut
      subst hwz9
      have ST2 := hide (unhide hcut)
      clear ST hcut
      have ST := ST2
      clear ST2
      go_upto_if 124 with fail
      go_cut [8] from 125 to 127 (fun e wc => e = .int .i64 0 ∧ ∃ wz, wz = wc ∧ Hid (Blk wz mb (envA (setFr4 (setCo4 E3 (if fco then E3.co else F2.co)) (if ffr then E3.fr else F2.fr))) 31 ∧ Ext wr wz ∧ OV wz 0 E3.va (mixTo TA QA rk.a nat) ∧ OV wz 0 E3.vu (mixTo TU QU rk.u nut) ∧ OV wz 0 E3.vv (mixTo TY QY rk.v nvt)))
      case first =>
        cases ffr
        case true =>
          go_wp2
          go_meet
          exact ⟨rfl, _, rfl, unhide ST⟩
        case false =>
          have HFE := hide ((unhide HF).ext (unhide ST).2.1)
          obtain ⟨y0, y1, y2, y3, y4, y5, y6, y7, y8, y9, y10, y11, y12⟩ := envA_cells (unhide HFE)
          obtain ⟨u0, u1, u2, u3, u4, u5, u6, u7, u8, u9, u10, u11, u12⟩ := envA_cells (unhide ST).1
          clear y0 y1 y2 u0 u1 u2 y3 u3 y4 u4 y5 u5 y6 u6 y8 u8 y9 u9 y10 u10 y11 u11 y12 u12
          have z7 := (unhide ST).1.free 7
          have ST2 : Hid (Blk (wI.setCell ⟨mb, 7, none⟩ (.bool F2.fr)) mb (envA (setFr4 (setCo4 E3 (if fco then E3.co else F2.co)) (if false = true then E3.fr else F2.fr))) 31 ∧ Ext wr (wI.setCell ⟨mb, 7, none⟩ (.bool F2.fr)) ∧ OV (wI.setCell ⟨mb, 7, none⟩ (.bool F2.fr)) 0 E3.va (mixTo TA QA rk.a nat) ∧ OV (wI.setCell ⟨mb, 7, none⟩ (.bool F2.fr)) 0 E3.vu (mixTo TU QU rk.u nut) ∧ OV (wI.setCell ⟨mb, 7, none⟩ (.bool F2.fr)) 0 E3.vv (mixTo TY QY rk.v nvt)) := by
            have hg : wI.grownBy (wI.setCell ⟨mb, 7, none⟩ (.bool F2.fr)) (some mb) := ((extGrownG (Ext.refl wI) (some mb)).trans (grownBy_set _ mb 7 _))
            skip
            exact ⟨((unhide ST).1.set 7 (.bool F2.fr)), (unhide ST).2.1.grown hg (unhide ST).2.1.size (fun b e => by cases e; exact hmbr), GO.keep (unhide ST).2.2.1 hg (fun b hb => by have := (unhide HLA b hb).2; omega), GO.keep (unhide ST).2.2.2.1 hg (fun b hb => by have := (unhide HLU b hb).2; omega), GO.keep (unhide ST).2.2.2.2 hg (fun b hb => by have := (unhide HLY b hb).2; omega)⟩
          clear ST
          go_wp2
          go_meet
          exact ⟨rfl, _, rfl, unhide ST2⟩
      case rest =>
      obtain ⟨rfl, wJ, hwz9, hcut⟩ := hcut
      subst hwz9
      have ST2 := hide (unhide hcut)
      clear ST hcut
      have ST := ST2
      clear ST2
      go_upto_if 129 with fail
      go_cut [8] from 130 to 132 (fun e wc => e = .int .i64 0 ∧ ∃ wz, wz = wc ∧ Hid (Blk wz mb (envA (setPt4 (setFr4 (setCo4 E3 (if fco then E3.co else F2.co)) (if ffr then E3.fr else F2.fr)) (if fpt then E3.pt else F2.pt))) 31 ∧ Ext wr wz ∧ OV wz 0 E3.va (mixTo TA QA rk.a nat) ∧ OV wz 0 E3.vu (mixTo TU QU rk.u nut) ∧ OV wz 0 E3.vv (mixTo TY QY rk.v nvt)))
      case first =>
        cases fpt
        case true =>
          go_wp2
          go_meet
          exact ⟨rfl, _, rfl, unhide ST⟩
        case false =>
          have HFE := hide ((unhide HF).ext (unhide ST).2.1)
          obtain ⟨y0, y1, y2, y3, y4, y5, y6, y7, y8, y9, y10, y11, y12⟩ := envA_cells (unhide HFE)
          obtain ⟨u0, u1, u2, u3, u4, u5, u6, u7, u8, u9, u10, u11, u12⟩ := envA_cells (unhide ST).1
          clear y0 y1 y2 u0 u1 u2 y3 u3 y4 u4 y5 u5 y6 u6 y7 u7 y12 u12
          have z8 := (unhide ST).1.free 8
          have z9 := (unhide ST).1.free 9
          have z10 := (unhide ST).1.free 10
          have z11 := (unhide ST).1.free 11
          have ST2 : Hid (Blk ((((wJ.setCell ⟨mb, 8, none⟩ (.int .i32 (F2.pt 0))).setCell ⟨mb, 9, none⟩ (.int .i32 (F2.pt 1))).setCell ⟨mb, 10, none⟩ (.int .i32 (F2.pt 2))).setCell ⟨mb, 11, none⟩ (.int .i32 (F2.pt 3))) mb (envA (setPt4 (setFr4 (setCo4 E3 (if fco then E3.co else F2.co)) (if ffr then E3.fr else F2.fr)) (if false = true then E3.pt else F2.pt))) 31 ∧ Ext wr ((((wJ.setCell ⟨mb, 8, none⟩ (.int .i32 (F2.pt 0))).setCell ⟨mb, 9, none⟩ (.int .i32 (F2.pt 1))).setCell ⟨mb, 10, none⟩ (.int .i32 (F2.pt 2))).setCell ⟨mb, 11, none⟩ (.int .i32 (F2.pt 3))) ∧ OV ((((wJ.setCell ⟨mb, 8, none⟩ (.int .i32 (F2.pt 0))).setCell ⟨mb, 9, none⟩ (.int .i32 (F2.pt 1))).setCell ⟨mb, 10, none⟩ (.int .i32 (F2.pt 2))).setCell ⟨mb, 11, none⟩ (.int .i32 (F2.pt 3))) 0 E3.va (mixTo TA QA rk.a nat) ∧ OV ((((wJ.setCell ⟨mb, 8, none⟩ (.int .i32 (F2.pt 0))).setCell ⟨mb, 9, none⟩ (.int .i32 (F2.pt 1))).setCell ⟨mb, 10, none⟩ (.int .i32 (F2.pt 2))).setCell ⟨mb, 11, none⟩ (.int .i32 (F2.pt 3))) 0 E3.vu (mixTo TU QU rk.u nut) ∧ OV ((((wJ.setCell ⟨mb, 8, none⟩ (.int .i32 (F2.pt 0))).setCell ⟨mb, 9, none⟩ (.int .i32 (F2.pt 1))).setCell ⟨mb, 10, none⟩ (.int .i32 (F2.pt 2))).setCell ⟨mb, 11, none⟩ (.int .i32 (F2.pt 3))) 0 E3.vv (mixTo TY QY rk.v nvt)) := by
            have hg : wJ.grownBy ((((wJ.setCell ⟨mb, 8, none⟩ (.int .i32 (F2.pt 0))).setCell ⟨mb, 9, none⟩ (.int .i32 (F2.pt 1))).setCell ⟨mb, 10, none⟩ (.int .i32 (F2.pt 2))).setCell ⟨mb, 11, none⟩ (.int .i32 (F2.pt 3))) (some mb) := (((((extGrownG (Ext.refl wJ) (some mb)).trans (grownBy_set _ mb 8 _)).trans (grownBy_set _ mb 9 _)).trans (grownBy_set _ mb 10 _)).trans (grownBy_set _ mb 11 _))
            skip
            exact ⟨(((((unhide ST).1.set 8 (.int .i32 (F2.pt 0))).set 9 (.int .i32 (F2.pt 1))).set 10 (.int .i32 (F2.pt 2))).set 11 (.int .i32 (F2.pt 3))), (unhide ST).2.1.grown hg (unhide ST).2.1.size (fun b e => by cases e; exact hmbr), GO.keep (unhide ST).2.2.1 hg (fun b hb => by have := (unhide HLA b hb).2; omega), GO.keep (unhide ST).2.2.2.1 hg (fun b hb => by have := (unhide HLU b hb).2; omega), GO.keep (unhide ST).2.2.2.2 hg (fun b hb => by have := (unhide HLY b hb).2; omega)⟩
          clear ST
          go_wp2
          go_meet
          exact ⟨rfl, _, rfl, unhide ST2⟩
      case rest =>
      obtain ⟨rfl, wK, hwz9, hcut⟩ := hcut
      subst hwz9
      have ST2 := hide (unhide hcut)
      clear ST hcut
      have ST := ST2
      clear ST2
      go_upto_if 134 with fail
      go_cut [8] from 135 to 137 (fun e wc => e = .int .i64 0 ∧ ∃ wz, wz = wc ∧ Hid (Blk wz mb (envA (setI (setPt4 (setFr4 (setCo4 E3 (if fco then E3.co else F2.co)) (if ffr then E3.fr else F2.fr)) (if fpt then E3.pt else F2.pt)) (if ftx then E3.vi else F2.vi))) 31 ∧ Ext wr wz ∧ OV wz 0 E3.va (mixTo TA QA rk.a nat) ∧ OV wz 0 E3.vu (mixTo TU QU rk.u nut) ∧ OV wz 0 E3.vv (mixTo TY QY rk.v nvt)))
      case first =>
        cases ftx
        case true =>
          go_wp2
          go_meet
          exact ⟨rfl, _, rfl, unhide ST⟩
        case false =>
          have HFE := hide ((unhide HF).ext (unhide ST).2.1)
          obtain ⟨y0, y1, y2, y3, y4, y5, y6, y7, y8, y9, y10, y11, y12⟩ := envA_cells (unhide HFE)
          obtain ⟨u0, u1, u2, u3, u4, u5, u6, u7, u8, u9, u10, u11, u12⟩ := envA_cells (unhide ST).1
          obtain ⟨ao7, cp7, e7, _⟩ := unhide HGFX _ ((unhide HXr).trans (unhide ST).2.1)
          obtain ⟨gl7, hgl7⟩ : ∃ n, (GF.take 4).length = n := ⟨_, rfl⟩
          rw [hgl7] at e7
          clear hgl7
          rw [e7] at y12
          have E7 := hide e7
          clear e7
          clear y0 y1 y2 u0 u1 u2 y3 u3 y4 u4 y5 u5 y6 u6 y7 u7 y8 u8 y9 u9 y10 u10 y11 u11
          have z12 := (unhide ST).1.free 12
          have ST2 : Hid (Blk (wK.setCell ⟨mb, 12, none⟩ (.slice ao7 gl7 cp7)) mb (envA (setI (setPt4 (setFr4 (setCo4 E3 (if fco then E3.co else F2.co)) (if ffr then E3.fr else F2.fr)) (if fpt then E3.pt else F2.pt)) (if false = true then E3.vi else F2.vi))) 31 ∧ Ext wr (wK.setCell ⟨mb, 12, none⟩ (.slice ao7 gl7 cp7)) ∧ OV (wK.setCell ⟨mb, 12, none⟩ (.slice ao7 gl7 cp7)) 0 E3.va (mixTo TA QA rk.a nat) ∧ OV (wK.setCell ⟨mb, 12, none⟩ (.slice ao7 gl7 cp7)) 0 E3.vu (mixTo TU QU rk.u nut) ∧ OV (wK.setCell ⟨mb, 12, none⟩ (.slice ao7 gl7 cp7)) 0 E3.vv (mixTo TY QY rk.v nvt)) := by
            have hg : wK.grownBy (wK.setCell ⟨mb, 12, none⟩ (.slice ao7 gl7 cp7)) (some mb) := ((extGrownG (Ext.refl wK) (some mb)).trans (grownBy_set _ mb 12 _))
            rw [show (if false = true then E3.vi else F2.vi) = Value.slice ao7 gl7 cp7 from unhide E7]
            exact ⟨((unhide ST).1.set 12 (.slice ao7 gl7 cp7)), (unhide ST).2.1.grown hg (unhide ST).2.1.size (fun b e => by cases e; exact hmbr), GO.keep (unhide ST).2.2.1 hg (fun b hb => by have := (unhide HLA b hb).2; omega), GO.keep (unhide ST).2.2.2.1 hg (fun b hb => by have := (unhide HLU b hb).2; omega), GO.keep (unhide ST).2.2.2.2 hg (fun b hb => by have := (unhide HLY b hb).2; omega)⟩
          clear ST
          go_wp2
          go_meet
          exact ⟨rfl, _, rfl, unhide ST2⟩
      case rest =>
      obtain ⟨rfl, wL, hwz9, hcut⟩ := hcut
      subst hwz9
      have ST2 := hide (unhide hcut)
      clear ST hcut
      have ST := ST2
      clear ST2
      have HXz := hide (unhide ST).2.1
      have HPz := hide ((unhide HP).ext (unhide HXz))
      have HOz := hide ((unhide HO).ext (unhide HXz))
      have HMz := hide ((unhide HM).ext (unhide HXz))
      have HVOz := hide (GO.ext (unhide HVO) (unhide HXz))
      have HXWz := hide ((unhide HXr).trans (unhide HXz))
      have HSA : Hid (SurAt wL (setI (setPt4 (setFr4 (setCo4 E3 (if fco then E3.co else F2.co)) (if ffr then E3.fr else F2.fr)) (if fpt then E3.pt else F2.pt)) (if ftx then E3.vi else F2.vi)) (mixS (cutS S) (cutS SF) rk)) := by
        refine ⟨?_, ?_, ?_, ?_, ?_, ?_⟩
        · show VRow wL E3.va (mixTo (cutS S).att (cutS SF).att rk.a (cutS S).att.length)
          rw [(unhide HTA).1, (unhide HTA).2, (unhide HNTA).1]
          exact (unhide ST).2.2.1.row
        · show VRow wL E3.vu (mixTo (cutS S).uni (cutS SF).uni rk.u (cutS S).uni.length)
          rw [(unhide HTU).1, (unhide HTU).2, (unhide HNTU).1]
          exact (unhide ST).2.2.2.1.row
        · show VRow wL E3.vv (mixTo (cutS S).vry (cutS SF).vry rk.v (cutS S).vry.length)
          rw [(unhide HTY).1, (unhide HTY).2, (unhide HNTY).1]
          exact (unhide ST).2.2.2.2.row
        · show (if fco then E3.co else F2.co) = (if rk.co then (cutS S).co else (cutS SF).co)
          rw [(unhide HCF).1, (unhide HVF).co, (unhide HFL).1]
        · show (if ffr then E3.fr else F2.fr) = (if rk.fr then (cutS S).fr else (cutS SF).fr)
          rw [(unhide HCF).2.1, (unhide HVF).fr, (unhide HFL).2.1]
        · show (if fpt then E3.pt else F2.pt) = (if rk.pt then (cutS S).pt else (cutS SF).pt)
          rw [(unhide HCF).2.2, (unhide HVF).pt, (unhide HFL).2.2.1]
      have HGA : Hid (GR wL (setI (setPt4 (setFr4 (setCo4 E3 (if fco then E3.co else F2.co)) (if ffr then E3.fr else F2.fr)) (if fpt then E3.pt else F2.pt)) (if ftx then E3.vi else F2.vi)).vi (if rk.tx then (G.take 4) else (GF.take 4))) := by
        show GR wL (if ftx then E3.vi else F2.vi) (if rk.tx then (G.take 4) else (GF.take 4))
        rw [(unhide HFL).2.2.2]
        cases ftx
        · exact unhide HGFX _ (unhide HXWz)
        · show GR wL E3.vi (G.take 4)
          rw [unhide HVI3, unhide HVI, cutI_idem (unhide HEI)]
          have := unhide HGX _ (unhide HXWz)
          rwa [unhide HVI] at this
      have HS4 := hide (mixS_32 (r := rk) (unhide HS32) (unhide HSF32))
      have HRF : Hid (refI (cutC C) (mixS (cutS S) (cutS SF) rk).att.length (mixS (cutS S) (cutS SF) rk).uni.length (mixS (cutS S) (cutS SF) rk).vry.length = 0) := by
        show refI (cutC C) (mixTo (cutS S).att (cutS SF).att rk.a (cutS S).att.length).length (mixTo (cutS S).uni (cutS SF).uni rk.u (cutS S).uni.length).length (mixTo (cutS S).vry (cutS SF).vry rk.v (cutS S).vry.length).length = 0
        rw [mixTo_len, mixTo_len, mixTo_len]
        exact (unhide HR).symm
      obtain ⟨E4, hE4⟩ : ∃ x, (setI (setPt4 (setFr4 (setCo4 E3 (if fco then E3.co else F2.co)) (if ffr then E3.fr else F2.fr)) (if fpt then E3.pt else F2.pt)) (if ftx then E3.vi else F2.vi)) = x := ⟨_, rfl⟩
      rw [hE4] at HSA HGA
      have HBz : Hid (Blk wL mb (envA E4) 31) := by rw [← hE4]; exact (unhide ST).1
      have HRUN := hide ((runV_any (cutC C) _ E4 (mixS (cutS S) (cutS SF) rk) (if rk.tx then (G.take 4) else (GF.take 4)) wL (unhide HMz).ir (unhide HOK) (unhide HSA) (unhide HGA) (unhide HS4)).mono fun e w' h => RunQ.shape h)
      clear hE4 HSA HGA HS4 HF HP HO HM HVO ST
      go_upto_region 43 with (first
        | refine wpList_load_row rfl 24 (.tmp 3) rfl W.heap.size rfl 24 #[.int .i64 ((cutC C)).stage, .slice am (cutC C).ins.length cm, .int .i64 ((cutC C)).regs, .int .i64 ((cutC C)).attr, .int .i64 ((cutC C)).unif, .int .i64 ((cutC C)).vary] (0, 0) _ (unhide HPz) Tryz.underlying24 rfl size6 ?_
        | refine wpList_load_row rfl 31 (.tmp 21) rfl mb rfl 31 (envA E4) (0, 0) _ (unhide HBz) Tryz.underlying31 rfl sizeEnv ?_
        | (go_at_call 12; refine (unhide HRUN).mono ?_; rintro e wM ⟨O2, r2, rfl, hrs⟩; have RS2 := hide hrs; clear hrs; have H1O2 : Hid ((outA O2).all (·.oneCell') = true) := (by obtain ⟨a9, n9, c9, h9⟩ := (unhide RS2).vy; exact outA_one O2 a9 n9 c9 h9))
        | refine wpList_store_row rfl 36 (.tmp 23) (.tmp 142) rfl wM.heap.size (outA O2) rfl rfl 36 (outA outZ) (Blk.new wM (outA outZ) 36) sizeOut rfl (unhide H1O2) ?_)
      have hr2 : r2 = 0 := (unhide RS2).err.trans (unhide HRF)
      have HOB2 : Hid (Blk ((wM.alloc (.cells (outA outZ) 36)).setRow wM.heap.size (outA O2)) rb (outA O) 36) := (setRow_other _ wM.heap.size rb _ (by have := (unhide HOz).lt; have := (unhide RS2).ext.size; omega)).trans (((unhide HOz).ext (unhide RS2).ext).alloc _)
      have HO2B : Hid (Blk ((wM.alloc (.cells (outA outZ) 36)).setRow wM.heap.size (outA O2)) wM.heap.size (outA O2) 36) := Blk.rowC (Blk.new wM (outA outZ) 36)
      have HX9B : Hid (Ext wL ((wM.alloc (.cells (outA outZ) 36)).setRow wM.heap.size (outA O2))) := extRow ((unhide RS2).ext.alloc _) (unhide RS2).ext.size
      have HV2B : Hid (OV ((wM.alloc (.cells (outA outZ) 36)).setRow wM.heap.size (outA O2)) wL.heap.size O2.vy (runP (cutC C) (mixS (cutS S) (cutS SF) rk) (if rk.tx then (G.take 4) else (GF.take 4))).1.V) := GO.keep (GO.ext ((unhide RS2).ok hr2).2.2.2.2 ((Ext.refl _).alloc _)) (row_grown _ _ _) (fun b hb => by have := (GO.lt ((unhide RS2).ok hr2).2.2.2.2 b hb).2; omega)
      have HVOB := hide (GO.ext (unhide HVOz) (unhide HX9B))
      have HXB := hide ((unhide HXWz).trans (unhide HX9B))
      obtain ⟨sb, hsb⟩ : ∃ b, wM.heap.size = b := ⟨_, rfl⟩
      generalize hwB : (wM.alloc (.cells (outA outZ) 36)).setRow wM.heap.size (outA O2) = wN at HOB2 HO2B HV2B HVOB HXB
      try rw [show (wM.alloc (.cells (outA outZ) 36)).setRow wM.heap.size (outA O2) = wN from hwB]
      try rw [show (wM.alloc (.cells #[.int .i32 0, .int .i32 0, .int .i32 0, .int .i32 0, .int .i32 0, .slice none 0 0, .int .i32 0, .int .i32 0, .int .i32 0, .int .i32 0, .bool false] 36)).setRow wM.heap.size (outA O2) = wN from hwB]
      try rw [show Value.pointer (some ⟨wM.heap.size, 0, none⟩) = Value.pointer (some ⟨sb, 0, none⟩) by rw [hsb]]
      rw [hsb] at HO2B
      have HE2 := hide ((unhide RS2).ok hr2)
      rw [unhide HRE] at HE2 HV2B
      have HSM : Hid (sameO O O2 (runP (cutC C) (cutS S) (G.take 4)).1.V (runP (cutC C) (cutS S) (G.take 4)).1.V = true) := by
        obtain ⟨p1, p2, p3, p4, _⟩ := unhide HOKR
        obtain ⟨q1, q2, q3, q4, _⟩ := unhide HE2
        exact sameO_of _ (p1.trans q1.symm) (p2.trans q2.symm) (p3.trans q3.symm) (p4.trans q4.symm)
      have HCS := hide (vmSame_any O O2 _ _ wN (OV.row (unhide HVOB)) (OV.row (unhide HV2B)) (Nat.le_trans (runP_V (unhide HFIT).1 (cutS S) (G.take 4)) (by omega)))
      rw [unhide HSM] at HCS
      clear hwB hsb HRUN HPz HBz HOz HMz HVOz HE2 HV2B HVOB HX9B RS2 HOKR HSM
      subst hr2
      obtain ⟨⟨a0, a1, a2, a3⟩, a4, a5, ⟨a6, a7, a8, a9⟩, a10⟩ := outA_cells (unhide HOB2)
      obtain ⟨⟨b0, b1, b2, b3⟩, b4, b5, ⟨b6, b7, b8, b9⟩, b10⟩ := outA_cells (unhide HO2B)
      go_wp2_with (go_at_call 20; refine (unhide HCS).mono ?_; rintro e wO ⟨rfl, hxC⟩; have XC := hide hxC; clear hxC)
      go_ret
      exact ⟨rfl, (unhide HXB).trans (unhide XC)⟩

set_option maxRecDepth 100000 in
theorem vmhangs_owes (H : Type) (enc : TypeId × Value → H) (W : World) (base : Nat) (args : Array Value) (ds : List (DataW H)) (p : List MemPlace) : Owes H enc Tryz.prog 7 Tryz.f7 Rows.vmHangsSpec W base args ds p := by
  intro hval hA hsz
  rw [Tryz.params7] at hA hval hsz
  obtain ⟨v0, vs0, d0, ds0, p0, q0, hargs, rfl, rfl, h0, r0⟩ := trodAll_cons hA
  obtain ⟨v1, vs1, d1, ds1, p1, q1, rfl, rfl, rfl, h1, r1⟩ := trodAll_cons r0
  obtain ⟨v2, vs2, d2, ds2, p2, q2, rfl, rfl, rfl, h2, r2⟩ := trodAll_cons r1
  obtain ⟨rfl, rfl, rfl⟩ := trodAll_nil r2
  obtain rfl : args = #[v0, v1, v2] := by cases args; simp_all
  obtain ⟨C, u, rfl, hC, hok⟩ := open_codA (hval 0 24 v0 rfl rfl) h0
  obtain ⟨E, S, G, rfl, hE⟩ := open_env (hval 1 31 v1 rfl rfl) h1 (Wgt.arg hsz (j := 1) rfl rfl)
  obtain ⟨F, SF, GF, rfl, hF⟩ := open_env (hval 2 31 v2 rfl rfl) h2 (Wgt.arg hsz (j := 2) rfl rfl)
  exact ⟨⟨rfl, rfl, rfl⟩, hangsLaw_any C u E S G F SF GF W hC hok hE hF⟩

set_option maxRecDepth 100000 in
theorem vmhangs_lifted (os : Os) (started : os.Started) (H : Type) (enc : TypeId × Value → H) :
    ReturnsInHanded {} Tryz.checked os 7 .any (Rows.vmHangsSpec.pre6 enc Tryz.prog Tryz.f7 [] false) (Rows.vmHangsSpec.post enc Tryz.prog Tryz.f7 false true false false) :=
  lift_law (C := Tryz.checked) own laidOut started (by kernel_rfl) Tryz.func7 (T := 4) rfl Tryz.underlying4 rfl (by kernel_rfl)
    (ChangeSpec.witness6 (enc := enc) (C := Tryz.checked) false ⟨#[], #[.agg #[.int .i64 0, .slice none 0 0, .int .i64 0, .int .i64 0, .int .i64 0, .int .i64 0], .agg #[.slice none 0 0, .slice none 0 0, .slice none 0 0, .int .i32 0, .int .i32 0, .int .i32 0, .int .i32 0, .bool false, .int .i32 0, .int .i32 0, .int .i32 0, .int .i32 0, .slice none 0 0], .agg #[.slice none 0 0, .slice none 0 0, .slice none 0 0, .int .i32 0, .int .i32 0, .int .i32 0, .int .i32 0, .bool false, .int .i32 0, .int .i32 0, .int .i32 0, .int .i32 0, .slice none 0 0]], []⟩ 8 (by kernel_rfl) (by kernel_rfl) (by kernel_rfl) (by kernel_rfl)) (vmhangs_owes H enc)

theorem vmHangs_holds : Rows.VmHangsSaid :=
  OpenClaim.holds_of_wide 7 Tryz.f7 rfl rfl rfl rfl rfl rfl rfl ⟨rfl, rfl, rfl, rfl, rfl⟩ rfl rfl rfl rfl rfl (by kernel_rfl) Tryz.func7 (by kernel_rfl)
    (of_decide_eq_true (by kernel_rfl)) (by unfold Func.isWrapper; rw [if_neg (of_decide_eq_false (by kernel_rfl))]; exact ⟨rfl, rfl⟩)
    (fun os started H enc _ => vmhangs_lifted os started H enc)
#print axioms vmHangs_holds
end Go.Proofs.YtglfhmlcmffoaaaGreat

