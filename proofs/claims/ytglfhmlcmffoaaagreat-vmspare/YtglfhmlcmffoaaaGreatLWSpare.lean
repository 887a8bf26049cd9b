/-
  Proved: VmSpare answers true for every code and surroundings: a register more changes nothing of what comes out. No condition.
-/
import Derived.Test.YtglfhmlcmffoaaaGreatVFeJ
import Derived.Test.YtglfhmlcmffoaaaGreatVFw
import Derived.Test.YtglfhmlcmffoaaaGreatCZaJ
import Derived.Test.YtglfhmlcmffoaaaGreatVWk
namespace Go.Proofs.YtglfhmlcmffoaaaGreat
open Go.ChangeShapes Go.WideShapes Go.ChangeAt Go.RowKit
set_option linter.unusedVariables false
set_option linter.unusedSimpArgs false

set_option maxRecDepth 10000 in
set_option maxHeartbeats 1000000 in
theorem spareLaw_any (C : Cod) (v : Value) (E : EnvC) (S : Sur) (G : List (Img × Value × List Ent)) (W : World) (hI : IR W v C.ins) (hok : ∀ I ∈ C.ins, OkI I) (hE : EnvIn W E S G) :
    Calls Tryz.prog 8 #[.agg #[.int .i64 (C).stage, v, .int .i64 (C).regs, .int .i64 (C).attr, .int .i64 (C).unif, .int .i64 (C).vary], .agg (envA E)] W fun e w' => e = .returned (.bool true) ∧ Ext W w' := by
  have HX0 : Hid (Ext W ((W.alloc (.cells #[.int .i64 (C).stage, v, .int .i64 (C).regs, .int .i64 (C).attr, .int .i64 (C).unif, .int .i64 (C).vary] 24)).alloc (.cells (envA E) 31))) := ((Ext.refl W).alloc _).alloc _
  have HP0 : Hid (Blk ((W.alloc (.cells #[.int .i64 (C).stage, v, .int .i64 (C).regs, .int .i64 (C).attr, .int .i64 (C).unif, .int .i64 (C).vary] 24)).alloc (.cells (envA E) 31)) W.heap.size #[.int .i64 (C).stage, v, .int .i64 (C).regs, .int .i64 (C).attr, .int .i64 (C).unif, .int .i64 (C).vary] 24) := (Blk.new W _ _).alloc _
  have HQ0 : Hid (Blk ((W.alloc (.cells #[.int .i64 (C).stage, v, .int .i64 (C).regs, .int .i64 (C).attr, .int .i64 (C).unif, .int .i64 (C).vary] 24)).alloc (.cells (envA E) 31)) (W.heap.size + 1) (envA E) 31) := Blk.at (by simp)
  have HS32 := hide (sur32_cut hE)
  have HGR := hide (gr_cut hE)
  have HOK := hide (cutC_ok hok)
  have HFW := hide (fun wx (hx : Ext W wx) => few18_any C v wx (hI.ext hx))
  have HAR := hide (fun wx (hx : Ext W wx) => around18_any E S G wx (hE.ext hx))
  clear hI hE hok
  go_enter Tryz.func8, Tryz.ntmps8
  go_upto_region 1 with fail
  generalize hw0 : ((W.alloc (.cells #[.int .i64 (C).stage, v, .int .i64 (C).regs, .int .i64 (C).attr, .int .i64 (C).unif, .int .i64 (C).vary] 24)).alloc (.cells (envA E) 31)) = w0 at HX0 HP0 HQ0
  try rw [show ((W.alloc (.cells #[.int .i64 (C).stage, v, .int .i64 (C).regs, .int .i64 (C).attr, .int .i64 (C).unif, .int .i64 (C).vary] 24)).alloc (.cells (envA E) 31)) = w0 from hw0]
  clear hw0
  have HWK := hide (wakes18_any w0)
  go_upto_region 3 with (go_at_call 9; refine (unhide HWK).mono ?_; rintro e w1 ⟨rfl, hx1⟩; have X1 := hide hx1; clear hx1)
  have HX1 := hide ((unhide HX0).trans (unhide X1))
  have HP1 := hide ((unhide HP0).ext (unhide X1))
  have HQ1 := hide ((unhide HQ0).ext (unhide X1))
  clear HX0 HP0 HQ0 X1 HWK
  refine wp_region_noPanic ?_
  refine wp_regionL (S := SL 4 5 5 (fun wx => Blk wx W.heap.size #[.int .i64 (C).stage, v, .int .i64 (C).regs, .int .i64 (C).attr, .int .i64 (C).unif, .int .i64 (C).vary] 24) (fun wx => Blk wx (W.heap.size + 1) (envA E) 31) (fun wx => Blk wx (W.heap.size + 1) (envA E) 31)) (by kernel_rfl) ?_
  have P2 : Blk w1.drew W.heap.size #[.int .i64 (C).stage, v, .int .i64 (C).regs, .int .i64 (C).attr, .int .i64 (C).unif, .int .i64 (C).vary] 24 := unhide HP1
  have Q2 : Blk w1.drew (W.heap.size + 1) (envA E) 31 := unhide HQ1
  have X2 : Ext W w1.drew := (unhide HX1).drew
  generalize w1.drew = w2 at P2 Q2 X2 ⊢
  clear HX1 HP1 HQ1
  refine wpAnyL_take (fun wx => Blk wx W.heap.size #[.int .i64 (C).stage, v, .int .i64 (C).regs, .int .i64 (C).attr, .int .i64 (C).unif, .int .i64 (C).vary] 24) [4] (i := 0) (oi := { dst := some 10, op := Op.load _ (Operand.tmp 2), type := _, pos := _, after := _, guard := none }) (v := .agg #[.int .i64 (C).stage, v, .int .i64 (C).regs, .int .i64 (C).attr, .int .i64 (C).unif, .int .i64 (C).vary]) rfl (by kernel_rfl) (by kernel_rfl) (by kernel_rfl) (by kernel_rfl) (by kernel_rfl) (fun _ _ _ h => h) (SL.ind (by decide) (by decide) (by decide)) (SL.get1) (yieldsIf_load_mid (by rfl) 24 (.tmp 2) rfl W.heap.size 0 rfl (#[.int .i64 (C).stage, v, .int .i64 (C).regs, .int .i64 (C).attr, .int .i64 (C).unif, .int .i64 (C).vary] : Array Value).toList _ (fun wx hx => hx.rng0) Tryz.underlying24 rfl size6) (SL.all P2 Q2 Q2) (SL.all P2 Q2 Q2)  ?_
  simp only [Act.put, List.setIfInBounds_toArray, List.set_cons_zero, List.set_cons_succ]
  refine wpAnyL_take (fun wx => Blk wx (W.heap.size + 1) (envA E) 31) [5] (i := 2) (oi := { dst := some 12, op := Op.load _ (Operand.tmp 3), type := _, pos := _, after := _, guard := none }) (v := .agg (envA E)) rfl (by kernel_rfl) (by kernel_rfl) (by kernel_rfl) (by kernel_rfl) (by kernel_rfl) (fun _ _ _ h => h) (SL.ind (by decide) (by decide) (by decide)) (SL.get2) (yieldsIf_load_mid (by rfl) 31 (.tmp 3) rfl (W.heap.size + 1) 0 rfl ((envA E) : Array Value).toList _ (fun wx hx => hx.rng0) Tryz.underlying31 rfl sizeEnv) (SL.all P2 Q2 Q2) (SL.all P2 Q2 Q2)  ?_
  simp only [Act.put, List.setIfInBounds_toArray, List.set_cons_zero, List.set_cons_succ]
  refine wpAnyL_next (i := 1) (o := { dst := some 11, op := Op.call { callee := Callee.value (Operand.func _), args := #[Operand.tmp 10], argTypes := _ }, type := _, pos := _, after := _, guard := none }) (by kernel_rfl) rfl (by rfl) (fun KK hK => ?_)
  go_simp
  refine (unhide HFW _ X2).mono ?_
  rintro e w3 ⟨am, cm, rfl, hm3, hx3⟩
  have P3 := P2.ext hx3
  have Q3 := Q2.ext hx3
  have X3 := X2.trans hx3
  have hsw : W.heap.size + 2 ≤ w2.heap.size := by have := Q2.lt; omega
  have hb3 := hx3.size
  clear hx3 P2 Q2 X2
  refine unhide hK _ _ (SL.all P3 Q3 Q3) ?_
  clear hK KK
  try simp only [Act.put, List.setIfInBounds_toArray, List.set_cons_zero, List.set_cons_succ]
  refine wpAnyL_next (i := 3) (o := { dst := some 13, op := Op.call { callee := Callee.value (Operand.func _), args := #[Operand.tmp 12], argTypes := _ }, type := _, pos := _, after := _, guard := none }) (by kernel_rfl) rfl (by rfl) (fun KK hK => ?_)
  go_simp
  refine (unhide HAR _ X3).mono ?_
  rintro e w4 ⟨E2, rfl, hv4, hg4, hx4⟩
  have HVI := hide hg4
  have P4 := P3.ext hx4
  have Q4 := Q3.ext hx4
  have X4 := X3.trans hx4
  have hm4 := hm3.ext hx4
  clear hx4 P3 Q3 hm3 hg4
  clear X3
  refine unhide hK _ _ (SL.all P4 Q4 Q4) ?_
  clear hK KK
  try simp only [Act.put, List.setIfInBounds_toArray, List.set_cons_zero, List.set_cons_succ]
  have hone : (envA E2).all (·.oneCell') = true := by
    obtain ⟨_, _, r1, _⟩ := GO.shape hv4.va
    obtain ⟨_, _, r2, _⟩ := GO.shape hv4.vu
    obtain ⟨_, _, r3, _⟩ := GO.shape hv4.vv
    obtain ⟨_, _, r4, _⟩ := unhide HGR _ X4
    rw [← unhide HVI] at r4
    simp [envA, r1, r2, r3, r4, Value.oneCell']
  have HONE := hide hone
  clear hone
  refine wpAnyL_next (i := 4) (o := { dst := none, op := Op.store _ (Operand.tmp 2) (Operand.tmp 11), type := _, pos := _, after := _, guard := none }) (by kernel_rfl) rfl (by rfl) (fun KK hK => ?_)
  refine wp_store_row 24 (.tmp 2) (.tmp 11) rfl W.heap.size #[.int .i64 ((cutC C)).stage, .slice am (cutC C).ins.length cm, .int .i64 ((cutC C)).regs, .int .i64 ((cutC C)).attr, .int .i64 ((cutC C)).unif, .int .i64 ((cutC C)).vary] rfl rfl 24 _ P4 size6 rfl (by simp [Value.oneCell']) ?_
  have P5 := P4.rowC (cs' := #[.int .i64 ((cutC C)).stage, .slice am (cutC C).ins.length cm, .int .i64 ((cutC C)).regs, .int .i64 ((cutC C)).attr, .int .i64 ((cutC C)).unif, .int .i64 ((cutC C)).vary])
  have Q5 : Blk (w4.setRow W.heap.size #[.int .i64 ((cutC C)).stage, .slice am (cutC C).ins.length cm, .int .i64 ((cutC C)).regs, .int .i64 ((cutC C)).attr, .int .i64 ((cutC C)).unif, .int .i64 ((cutC C)).vary]) (W.heap.size + 1) (envA E) 31 := (setRow_other w4 W.heap.size (W.heap.size + 1) _ (by omega)).trans Q4
  have X5 := extRow (cs := #[.int .i64 ((cutC C)).stage, .slice am (cutC C).ins.length cm, .int .i64 ((cutC C)).regs, .int .i64 ((cutC C)).attr, .int .i64 ((cutC C)).unif, .int .i64 ((cutC C)).vary]) X4 (Nat.le_refl W.heap.size)
  have hm5 := hm4.kept9 (row_grown w4 W.heap.size #[.int .i64 ((cutC C)).stage, .slice am (cutC C).ins.length cm, .int .i64 ((cutC C)).regs, .int .i64 ((cutC C)).attr, .int .i64 ((cutC C)).unif, .int .i64 ((cutC C)).vary]) (hm4.neB P4 (by decide))
  have hv5 := hv4.keep (row_grown w4 W.heap.size #[.int .i64 ((cutC C)).stage, .slice am (cutC C).ins.length cm, .int .i64 ((cutC C)).regs, .int .i64 ((cutC C)).attr, .int .i64 ((cutC C)).unif, .int .i64 ((cutC C)).vary]) (by omega)
  generalize w4.setRow W.heap.size #[.int .i64 ((cutC C)).stage, .slice am (cutC C).ins.length cm, .int .i64 ((cutC C)).regs, .int .i64 ((cutC C)).attr, .int .i64 ((cutC C)).unif, .int .i64 ((cutC C)).vary] = w5 at P5 Q5 X5 hm5 hv5 ⊢
  clear P4 Q4 X4 hm4 hv4
  refine unhide hK _ _ (SL.mk1 (getD_self _ _) Q5 Q5) ?_
  clear hK KK
  try simp only [Act.put, List.setIfInBounds_toArray, List.set_cons_zero, List.set_cons_succ]
  refine wpAnyL_next (i := 5) (o := { dst := none, op := Op.store _ (Operand.tmp 3) (Operand.tmp 13), type := _, pos := _, after := _, guard := none }) (by kernel_rfl) rfl (by rfl) (fun KK hK => ?_)
  refine wp_store_row 31 (.tmp 3) (.tmp 13) rfl (W.heap.size + 1) (envA E2) rfl rfl 31 _ Q5 sizeEnv rfl (unhide HONE) ?_
  have P6 : Blk (w5.setRow (W.heap.size + 1) (envA E2)) W.heap.size #[.int .i64 ((cutC C)).stage, .slice am (cutC C).ins.length cm, .int .i64 ((cutC C)).regs, .int .i64 ((cutC C)).attr, .int .i64 ((cutC C)).unif, .int .i64 ((cutC C)).vary] 24 := (setRow_other w5 (W.heap.size + 1) W.heap.size _ (by omega)).trans P5
  have Q6 := Q5.rowC (cs' := envA E2)
  have X6 := extRow (cs := envA E2) X5 (show W.heap.size ≤ W.heap.size + 1 by omega)
  have hm6 := hm5.kept9 (row_grown w5 (W.heap.size + 1) (envA E2)) (hm5.neB Q5 (by decide))
  have hv6 := hv5.keep (row_grown w5 (W.heap.size + 1) (envA E2)) (by omega)
  generalize w5.setRow (W.heap.size + 1) (envA E2) = w6 at P6 Q6 X6 hm6 hv6 ⊢
  clear P5 Q5 X5 hm5 hv5
  refine unhide hK _ _ (SL.mk3 (by kernel_rfl) (getD_self _ _) (getD_self _ _)) ?_
  clear hK KK
  try simp only [Act.put, List.setIfInBounds_toArray, List.set_cons_zero, List.set_cons_succ]
  refine wpAnyL_done (by kernel_rfl) ?_ _
  refine NoPanic.normal ?_
  have HP := hide P6
  have HQ := hide Q6
  have HX := hide X6
  have HV := hide hv6
  have HM := hide hm6
  have hbw : W.heap.size + 2 ≤ w2.heap.size ∧ w2.heap.size ≤ w3.heap.size := ⟨hsw, hb3⟩
  have HGX : Hid (∀ wx, Ext W wx → GR wx E2.vi (G.take 4)) := fun wx hx => by rw [unhide HVI]; exact unhide HGR _ hx
  have HGI := hide (unhide HGX _ X6)
  clear P6 Q6 X6 hm6 hv6 HONE HFW HAR HVI HGR
  have HRUN := hide ((runV_any (cutC C) _ E2 (cutS S) (G.take 4) w6 (unhide HM).ir (unhide HOK) (unhide HV).sur (unhide HGI) (unhide HS32)).mono fun e w' h => RunQ.shape h)
  go_upto_region 5 with (first
    | refine wpList_load_row rfl 24 (.tmp 2) rfl W.heap.size rfl 24 #[.int .i64 ((cutC C)).stage, .slice am (cutC C).ins.length cm, .int .i64 ((cutC C)).regs, .int .i64 ((cutC C)).attr, .int .i64 ((cutC C)).unif, .int .i64 ((cutC C)).vary] (0, 0) _ (unhide HP) Tryz.underlying24 rfl size6 ?_
    | refine wpList_load_row rfl 31 (.tmp 3) rfl (W.heap.size + 1) rfl 31 (envA E2) (0, 0) _ (unhide HQ) Tryz.underlying31 rfl sizeEnv ?_
    | (go_at_call 12; refine (unhide HRUN).mono ?_; rintro e w7 ⟨O, r, rfl, hrs⟩; have RS := hide hrs; clear hrs; have H1O : Hid ((outA O).all (·.oneCell') = true) := (by obtain ⟨a9, n9, c9, h9⟩ := (unhide RS).vy; exact outA_one O a9 n9 c9 h9))
    | refine wpList_store_row rfl 36 (.tmp 5) (.tmp 18) rfl w7.heap.size (outA O) rfl rfl 36 (outA outZ) (Blk.new w7 (outA outZ) 36) sizeOut rfl (unhide H1O) ?_)
  have HP8 : Hid (Blk ((w7.alloc (.cells (outA outZ) 36)).setRow w7.heap.size (outA O)) W.heap.size #[.int .i64 ((cutC C)).stage, .slice am (cutC C).ins.length cm, .int .i64 ((cutC C)).regs, .int .i64 ((cutC C)).attr, .int .i64 ((cutC C)).unif, .int .i64 ((cutC C)).vary] 24) := (setRow_other _ w7.heap.size W.heap.size _ (by have := (unhide HP).lt; have := (unhide RS).ext.size; omega)).trans (((unhide HP).ext (unhide RS).ext).alloc _)
  have HQ8 : Hid (Blk ((w7.alloc (.cells (outA outZ) 36)).setRow w7.heap.size (outA O)) (W.heap.size + 1) (envA E2) 31) := (setRow_other _ w7.heap.size (W.heap.size + 1) _ (by have := (unhide HQ).lt; have := (unhide RS).ext.size; omega)).trans (((unhide HQ).ext (unhide RS).ext).alloc _)
  have HO8 : Hid (Blk ((w7.alloc (.cells (outA outZ) 36)).setRow w7.heap.size (outA O)) w7.heap.size (outA O) 36) := Blk.rowC (Blk.new w7 (outA outZ) 36)
  have HX68 : Hid (Ext w6 ((w7.alloc (.cells (outA outZ) 36)).setRow w7.heap.size (outA O))) := extRow ((unhide RS).ext.alloc _) (unhide RS).ext.size
  have HV8 : Hid (r = 0 → OV ((w7.alloc (.cells (outA outZ) 36)).setRow w7.heap.size (outA O)) w6.heap.size O.vy (runP (cutC C) (cutS S) (G.take 4)).1.V) := fun h => GO.keep (GO.ext ((unhide RS).ok h).2.2.2.2 ((Ext.refl _).alloc _)) (row_grown _ _ _) (fun b hb => by have := (GO.lt ((unhide RS).ok h).2.2.2.2 b hb).2; omega)
  obtain ⟨rb, hrb⟩ : ∃ b, w7.heap.size = b := ⟨_, rfl⟩
  have hrb6 : w6.heap.size ≤ rb := by rw [← hrb]; exact (unhide RS).ext.size
  generalize hw8 : (w7.alloc (.cells (outA outZ) 36)).setRow w7.heap.size (outA O) = w8 at HP8 HQ8 HO8 HX68 HV8
  try rw [show (w7.alloc (.cells (outA outZ) 36)).setRow w7.heap.size (outA O) = w8 from hw8]
  try rw [show (w7.alloc (.cells #[.int .i32 0, .int .i32 0, .int .i32 0, .int .i32 0, .int .i32 0, .slice none 0 0, .int .i32 0, .int .i32 0, .int .i32 0, .int .i32 0, .bool false] 36)).setRow w7.heap.size (outA O) = w8 from hw8]
  try rw [show Value.pointer (some ⟨w7.heap.size, 0, none⟩) = Value.pointer (some ⟨rb, 0, none⟩) by rw [hrb]]
  rw [hrb] at HO8
  clear hw8 hrb HRUN
  have HR := hide (unhide RS).err
  have HX8 := hide ((unhide HX).trans (unhide HX68))
  by_cases h0 : r = 0
  case neg =>
    have d : (r != 0) = true := by simp [h0]
    clear h0
    go_wp2
    go_ret
    exact ⟨rfl, unhide HX8⟩
  case pos =>
  have HOKR := hide ((unhide RS).ok h0)
  have HVO := hide (unhide HV8 h0)
  clear HV8
  subst h0
  have hfit := ref_zero (unhide HR).symm
  have HFIT := hide hfit
  have hrg := (may_regs hfit.1).2
  clear hfit
  obtain ⟨gs, hgs⟩ : ∃ x, (cutC C).regs = x := ⟨_, rfl⟩
  rw [hgs] at hrg
  have HGS := hide hgs
  clear hgs
  have c2 := (unhide HP8).cell (i := 2) (v := .int .i64 gs) (by rw [← unhide HGS]; rfl)
  have f2 := (unhide HP8).free 2
  by_cases h1 : 1024 ≤ gs
  case pos =>
    have d1 : decide (gs ≥ 1024) = true := decide_eq_true h1
    have d2 : decide (1024 ≤ gs) = true := decide_eq_true h1
    go_wp2
    go_ret
    exact ⟨rfl, unhide HX8⟩
  case neg =>
  have d1 : decide (gs ≥ 1024) = false := decide_eq_false h1
  have d2 : decide (1024 ≤ gs) = false := decide_eq_false h1
  have hwr : IntKind.i64.wrap (gs + 1) = gs + 1 := by simp [IntKind.wrap, IntKind.bits, IntKind.signed]; omega
  have HP9 := hide ((unhide HP8).set 2 (.int .i64 (gs + 1)))
  have HQ9 := hide ((unhide HQ8).other (r := W.heap.size) 2 (.int .i64 (gs + 1)) (by omega))
  have HO9 := hide ((unhide HO8).other (r := W.heap.size) 2 (.int .i64 (gs + 1)) (by have := (unhide HP).lt; omega))
  have HVO9 := hide (GO.keep (unhide HVO) (grownBy_set w8 W.heap.size 2 (.int .i64 (gs + 1))) (fun b hb => by have := (GO.lt (unhide HVO) b hb).1; have := (unhide HP).lt; omega))
  have HM9 := hide (((unhide HM).ext (unhide HX68)).kept9 (grownBy_set w8 W.heap.size 2 (.int .i64 (gs + 1))) (((unhide HM).ext (unhide HX68)).neB (unhide HP8) (by decide)))
  have HV9 := hide (((unhide HV).ext (unhide HX68)).keep (grownBy_set w8 W.heap.size 2 (.int .i64 (gs + 1))) (by omega))
  have HX9 := hide (extSet (i := 2) (v := .int .i64 (gs + 1)) (unhide HX8) (Nat.le_refl _))
  have hrb8 := (unhide HO8).lt
  go_upto_region 8 with fail
  have HGI9 : Hid (GR (w8.setCell ⟨W.heap.size, 2, none⟩ (.int .i64 (gs + 1))) E2.vi (G.take 4)) := unhide HGX _ (unhide HX9)
  have hs98 : w8.heap.size ≤ (w8.setCell ⟨W.heap.size, 2, none⟩ (.int .i64 (gs + 1))).heap.size := by simp
  generalize w8.setCell ⟨W.heap.size, 2, none⟩ (.int .i64 (gs + 1)) = w9 at HP9 HQ9 HO9 HVO9 HM9 HV9 HX9 HGI9 hs98 ⊢
  clear c2 f2 HP8 HQ8 HO8 HVO HX8 HX68 HP HQ HM HV HGI HX d1 d2
  have HP10 : Hid (Blk w9 W.heap.size #[.int .i64 ((morC (cutC C))).stage, .slice am (cutC C).ins.length cm, .int .i64 ((morC (cutC C))).regs, .int .i64 ((morC (cutC C))).attr, .int .i64 ((morC (cutC C))).unif, .int .i64 ((morC (cutC C))).vary] 24) := by
    have h := unhide HP9
    rw [← unhide HGS] at h
    exact h
  have HMAY := hide (may_more (unhide HFIT).1 (by rw [unhide HGS]; omega))
  have HRUN2 := hide ((runV_any (morC (cutC C)) _ E2 (cutS S) (G.take 4) w9 (unhide HM9).ir (unhide HOK) (unhide HV9).sur (unhide HGI9) (unhide HS32)).mono fun e w' h => RunQ.shape h)
  go_upto_region 9 with (first
    | refine wpList_load_row rfl 24 (.tmp 2) rfl W.heap.size rfl 24 #[.int .i64 ((morC (cutC C))).stage, .slice am (cutC C).ins.length cm, .int .i64 ((morC (cutC C))).regs, .int .i64 ((morC (cutC C))).attr, .int .i64 ((morC (cutC C))).unif, .int .i64 ((morC (cutC C))).vary] (0, 0) _ (unhide HP10) Tryz.underlying24 rfl size6 ?_
    | refine wpList_load_row rfl 31 (.tmp 3) rfl (W.heap.size + 1) rfl 31 (envA E2) (0, 0) _ (unhide HQ9) Tryz.underlying31 rfl sizeEnv ?_
    | (go_at_call 12; refine (unhide HRUN2).mono ?_; rintro e wa ⟨O2, r2, rfl, hrs⟩; have RS2 := hide hrs; clear hrs; have H1O2 : Hid ((outA O2).all (·.oneCell') = true) := (by obtain ⟨a9, n9, c9, h9⟩ := (unhide RS2).vy; exact outA_one O2 a9 n9 c9 h9))
    | refine wpList_store_row rfl 36 (.tmp 7) (.tmp 35) rfl wa.heap.size (outA O2) rfl rfl 36 (outA outZ) (Blk.new wa (outA outZ) 36) sizeOut rfl (unhide H1O2) ?_)
  have HOB : Hid (Blk ((wa.alloc (.cells (outA outZ) 36)).setRow wa.heap.size (outA O2)) rb (outA O) 36) := (setRow_other _ wa.heap.size rb _ (by have := (unhide HO9).lt; have := (unhide RS2).ext.size; omega)).trans (((unhide HO9).ext (unhide RS2).ext).alloc _)
  have HO2B : Hid (Blk ((wa.alloc (.cells (outA outZ) 36)).setRow wa.heap.size (outA O2)) wa.heap.size (outA O2) 36) := Blk.rowC (Blk.new wa (outA outZ) 36)
  have HX9B : Hid (Ext w9 ((wa.alloc (.cells (outA outZ) 36)).setRow wa.heap.size (outA O2))) := extRow ((unhide RS2).ext.alloc _) (unhide RS2).ext.size
  have hr2 : r2 = 0 := by
    rw [(unhide RS2).err]
    unfold refI
    rw [if_neg (by rw [unhide HMAY]; decide)]
    exact if_pos (unhide HFIT).2
  have HV2B : Hid (OV ((wa.alloc (.cells (outA outZ) 36)).setRow wa.heap.size (outA O2)) w9.heap.size O2.vy (runP (morC (cutC C)) (cutS S) (G.take 4)).1.V) := GO.keep (GO.ext ((unhide RS2).ok hr2).2.2.2.2 ((Ext.refl _).alloc _)) (row_grown _ _ _) (fun b hb => by have := (GO.lt ((unhide RS2).ok hr2).2.2.2.2 b hb).2; omega)
  have HVOB : Hid (OV ((wa.alloc (.cells (outA outZ) 36)).setRow wa.heap.size (outA O2)) w6.heap.size O.vy (runP (cutC C) (cutS S) (G.take 4)).1.V) := GO.ext (unhide HVO9) (unhide HX9B)
  have HXB := hide ((unhide HX9).trans (unhide HX9B))
  obtain ⟨sb, hsb⟩ : ∃ b, wa.heap.size = b := ⟨_, rfl⟩
  generalize hwB : (wa.alloc (.cells (outA outZ) 36)).setRow wa.heap.size (outA O2) = wB at HOB HO2B HV2B HVOB HXB
  try rw [show (wa.alloc (.cells (outA outZ) 36)).setRow wa.heap.size (outA O2) = wB from hwB]
  try rw [show (wa.alloc (.cells #[.int .i32 0, .int .i32 0, .int .i32 0, .int .i32 0, .int .i32 0, .slice none 0 0, .int .i32 0, .int .i32 0, .int .i32 0, .int .i32 0, .bool false] 36)).setRow wa.heap.size (outA O2) = wB from hwB]
  try rw [show Value.pointer (some ⟨wa.heap.size, 0, none⟩) = Value.pointer (some ⟨sb, 0, none⟩) by rw [hsb]]
  rw [hsb] at HO2B
  have HE2 := hide ((unhide RS2).ok hr2)
  have hV : (runP (morC (cutC C)) (cutS S) (G.take 4)).1.V = (runP (cutC C) (cutS S) (G.take 4)).1.V := by rw [runP_more (unhide HFIT).1]; rfl
  have HSM : Hid (sameO O O2 (runP (cutC C) (cutS S) (G.take 4)).1.V (runP (morC (cutC C)) (cutS S) (G.take 4)).1.V = true) := by
    rw [Hid, hV]
    obtain ⟨p1, p2, p3, p4, _⟩ := unhide HOKR
    obtain ⟨q1, q2, q3, q4, _⟩ := unhide HE2
    rw [runP_more (unhide HFIT).1] at q1 q2 q3 q4
    exact sameO_of _ (p1.trans q1.symm) (p2.trans q2.symm) (p3.trans q3.symm) (p4.trans q4.symm)
  have HCS := hide (vmSame_any O O2 _ _ wB (unhide HVOB).row (unhide HV2B).row (Nat.le_trans (runP_V (unhide HFIT).1 (cutS S) (G.take 4)) (by omega)))
  rw [unhide HSM] at HCS
  clear hwB hsb HRUN2 HP9 HQ9 HO9 HVO9 HM9 HV9 HX9 HGI9 HP10 HMAY HE2 hV HV2B HVOB HX9B RS2 HOKR HSM hwr
  subst hr2
  obtain ⟨⟨a0, a1, a2, a3⟩, a4, a5, ⟨a6, a7, a8, a9⟩, a10⟩ := outA_cells (unhide HOB)
  obtain ⟨⟨b0, b1, b2, b3⟩, b4, b5, ⟨b6, b7, b8, b9⟩, b10⟩ := outA_cells (unhide HO2B)
  go_wp2_with (go_at_call 20; refine (unhide HCS).mono ?_; rintro e wC ⟨rfl, hxC⟩; have XC := hide hxC; clear hxC)
  go_ret
  exact ⟨rfl, (unhide HXB).trans (unhide XC)⟩

set_option maxRecDepth 100000 in
theorem vmspare_owes (H : Type) (enc : TypeId × Value → H) (W : World) (base : Nat) (args : Array Value) (ds : List (DataW H)) (p : List MemPlace) : Owes H enc Tryz.prog 8 Tryz.f8 Rows.vmSpareSpec W base args ds p := by
  intro hval hA hsz
  rw [Tryz.params8] at hA hval hsz
  obtain ⟨v0, vs0, d0, ds0, p0, q0, hargs, rfl, rfl, h0, r0⟩ := trodAll_cons hA
  obtain ⟨v1, vs1, d1, ds1, p1, q1, rfl, rfl, rfl, h1, r1⟩ := trodAll_cons r0
  obtain ⟨rfl, rfl, rfl⟩ := trodAll_nil r1
  obtain rfl : args = #[v0, v1] := by cases args; simp_all
  obtain ⟨C, u, rfl, hC, hok⟩ := open_codA (hval 0 24 v0 rfl rfl) h0
  obtain ⟨E, S, G, rfl, hE⟩ := open_env (hval 1 31 v1 rfl rfl) h1 (Wgt.arg hsz (j := 1) rfl rfl)
  exact ⟨⟨rfl, rfl, rfl⟩, spareLaw_any C u E S G W hC hok hE⟩

set_option maxRecDepth 100000 in
theorem vmspare_lifted (os : Os) (started : os.Started) (H : Type) (enc : TypeId × Value → H) :
    ReturnsInHanded {} Tryz.checked os 8 .any (Rows.vmSpareSpec.pre6 enc Tryz.prog Tryz.f8 [] false) (Rows.vmSpareSpec.post enc Tryz.prog Tryz.f8 false true false false) :=
  lift_law (C := Tryz.checked) own laidOut started (by kernel_rfl) Tryz.func8 (T := 4) rfl Tryz.underlying4 rfl (by kernel_rfl)
    (ChangeSpec.witness6 (enc := enc) (C := Tryz.checked) false ⟨#[], #[.agg #[.int .i64 0, .slice none 0 0, .int .i64 0, .int .i64 0, .int .i64 0, .int .i64 0], .agg #[.slice none 0 0, .slice none 0 0, .slice none 0 0, .int .i32 0, .int .i32 0, .int .i32 0, .int .i32 0, .bool false, .int .i32 0, .int .i32 0, .int .i32 0, .int .i32 0, .slice none 0 0]], []⟩ 8 (by kernel_rfl) (by kernel_rfl) (by kernel_rfl) (by kernel_rfl)) (vmspare_owes H enc)

theorem vmSpare_holds : Rows.VmSpareSaid :=
  OpenClaim.holds_of_wide 8 Tryz.f8 rfl rfl rfl rfl rfl rfl rfl ⟨rfl, rfl, rfl, rfl, rfl⟩ rfl rfl rfl rfl rfl (by kernel_rfl) Tryz.func8 (by kernel_rfl)
    (of_decide_eq_true (by kernel_rfl)) (by unfold Func.isWrapper; rw [if_neg (of_decide_eq_false (by kernel_rfl))]; exact ⟨rfl, rfl⟩)
    (fun os started H enc _ => vmspare_lifted os started H enc)
#print axioms vmSpare_holds
end Go.Proofs.YtglfhmlcmffoaaaGreat
