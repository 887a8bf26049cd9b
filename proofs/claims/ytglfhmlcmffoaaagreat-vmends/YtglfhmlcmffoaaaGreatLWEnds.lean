/-
  Proved: VmEnds answers true for every code and surroundings: a run ends behind at most as many steps as there are instructions, its places rise and are come to, and the last one tells whether it was discarded. No condition.
-/
import Derived.Test.YtglfhmlcmffoaaaGreatVFeJ
import Derived.Test.YtglfhmlcmffoaaaGreatVFw
import Derived.Test.YtglfhmlcmffoaaaGreatCZaJ
import Derived.Test.YtglfhmlcmffoaaaGreatVWk
import Derived.Test.YtglfhmlcmffoaaaGreatCZb
namespace Go.Proofs.YtglfhmlcmffoaaaGreat
open Go.ChangeShapes Go.WideShapes Go.ChangeAt Go.RowKit
set_option linter.unusedVariables false
set_option linter.unusedSimpArgs false

/-- The last place behind k rounds. -/
def lastI (P : List Nat) (k : Nat) : Int := if k = 0 then -1 else ((P.getD (k - 1) 0 : Nat) : Int)
theorem lastI_succ (P : List Nat) (k : Nat) (h : k < P.length) : lastI P (k + 1) = (P[k] : Int) := by
  unfold lastI
  rw [if_neg (by omega)]
  simp [h]
theorem lastI_lt {P : List Nat} (hp : P.Pairwise (· < ·)) (k : Nat) (h : k < P.length) : lastI P k < (P[k] : Int) := by
  unfold lastI
  split
  · omega
  · have h1 : k - 1 < P.length := by omega
    have h2 := (List.pairwise_iff_getElem.1 hp) (k - 1) k h1 h (by omega)
    rw [show P.getD (k - 1) 0 = P[k - 1] by simp [h1]]
    omega
theorem lastI_last {P : List Nat} (h : P ≠ []) : ∃ x, P.getLast? = some x ∧ lastI P P.length = (x : Int) ∧ x ∈ P := by
  have hl : 0 < P.length := List.length_pos_iff.2 h
  refine ⟨P.getLast h, List.getLast?_eq_some_getLast h, ?_, List.getLast_mem h⟩
  unfold lastI
  rw [if_neg (by omega), List.getLast_eq_getElem]
  simp [show P.length - 1 < P.length by omega]

set_option maxRecDepth 10000 in
set_option maxHeartbeats 1000000 in
theorem endsLaw_any (C : Cod) (v : Value) (E : EnvC) (S : Sur) (G : List (Img × Value × List Ent)) (W : World) (hI : IR W v C.ins) (hok : ∀ I ∈ C.ins, OkI I) (hE : EnvIn W E S G) :
    Calls Tryz.prog 6 #[.agg #[.int .i64 (C).stage, v, .int .i64 (C).regs, .int .i64 (C).attr, .int .i64 (C).unif, .int .i64 (C).vary], .agg (envA E)] W fun e w' => e = .returned (.bool true) ∧ Ext W w' := by
  have HX0 : Hid (Ext W ((W.alloc (.cells #[.int .i64 (C).stage, v, .int .i64 (C).regs, .int .i64 (C).attr, .int .i64 (C).unif, .int .i64 (C).vary] 24)).alloc (.cells (envA E) 31))) := ((Ext.refl W).alloc _).alloc _
  have HP0 : Hid (Blk ((W.alloc (.cells #[.int .i64 (C).stage, v, .int .i64 (C).regs, .int .i64 (C).attr, .int .i64 (C).unif, .int .i64 (C).vary] 24)).alloc (.cells (envA E) 31)) W.heap.size #[.int .i64 (C).stage, v, .int .i64 (C).regs, .int .i64 (C).attr, .int .i64 (C).unif, .int .i64 (C).vary] 24) := (Blk.new W _ _).alloc _
  have HQ0 : Hid (Blk ((W.alloc (.cells #[.int .i64 (C).stage, v, .int .i64 (C).regs, .int .i64 (C).attr, .int .i64 (C).unif, .int .i64 (C).vary] 24)).alloc (.cells (envA E) 31)) (W.heap.size + 1) (envA E) 31) := Blk.at (by simp)
  have HS32 := hide (sur32_cut hE)
  have HGR := hide (gr_cut hE)
  have HOK := hide (cutC_ok hok)
  have HFW := hide (fun wx (hx : Ext W wx) => few18_any C v wx (hI.ext hx))
  have HAR := hide (fun wx (hx : Ext W wx) => around18_any E S G wx (hE.ext hx))
  clear hI hE hok
  go_enter Tryz.func6, Tryz.ntmps6
  go_upto_region 1 with fail
  generalize hw0 : ((W.alloc (.cells #[.int .i64 (C).stage, v, .int .i64 (C).regs, .int .i64 (C).attr, .int .i64 (C).unif, .int .i64 (C).vary] 24)).alloc (.cells (envA E) 31)) = w0 at HX0 HP0 HQ0
  try rw [show ((W.alloc (.cells #[.int .i64 (C).stage, v, .int .i64 (C).regs, .int .i64 (C).attr, .int .i64 (C).unif, .int .i64 (C).vary] 24)).alloc (.cells (envA E) 31)) = w0 from hw0]
  clear hw0
  have HWK := hide (wakes18_any w0)
  go_upto_region 3 with (go_at_call 9; refine (unhide HWK).mono ?_; rintro e w1 ⟨rfl, hx1⟩; have X1 := hide hx1; clear hx1)
  have HX1 := hide ((unhide HX0).trans (unhide X1))
  have HP1 := hide ((unhide HP0).ext (unhide X1))
  have HQ1 := hide ((unhide HQ0).ext (unhide X1))
  clear HX0 HP0 HQ0 X1 HWK
  refine wp_region_noPanic ?_
  refine wp_regionL (S := SL 4 5 5 (fun wx => Blk wx W.heap.size #[.int .i64 (C).stage, v, .int .i64 (C).regs, .int .i64 (C).attr, .int .i64 (C).unif, .int .i64 (C).vary] 24) (fun wx => Blk wx (W.heap.size + 1) (envA E) 31) (fun wx => Blk wx (W.heap.size + 1) (envA E) 31)) (by kernel_rfl) ?_
  have P2 : Blk w1.drew W.heap.size #[.int .i64 (C).stage, v, .int .i64 (C).regs, .int .i64 (C).attr, .int .i64 (C).unif, .int .i64 (C).vary] 24 := unhide HP1
  have Q2 : Blk w1.drew (W.heap.size + 1) (envA E) 31 := unhide HQ1
  have X2 : Ext W w1.drew := (unhide HX1).drew
  generalize w1.drew = w2 at P2 Q2 X2 ⊢
  clear HX1 HP1 HQ1
  refine wpAnyL_take (fun wx => Blk wx W.heap.size #[.int .i64 (C).stage, v, .int .i64 (C).regs, .int .i64 (C).attr, .int .i64 (C).unif, .int .i64 (C).vary] 24) [4] (i := 0) (oi := { dst := some 15, op := Op.load _ (Operand.tmp 2), type := _, pos := _, after := _, guard := none }) (v := .agg #[.int .i64 (C).stage, v, .int .i64 (C).regs, .int .i64 (C).attr, .int .i64 (C).unif, .int .i64 (C).vary]) rfl (by kernel_rfl) (by kernel_rfl) (by kernel_rfl) (by kernel_rfl) (by kernel_rfl) (fun _ _ _ h => h) (SL.ind (by decide) (by decide) (by decide)) (SL.get1) (yieldsIf_load_mid (by rfl) 24 (.tmp 2) rfl W.heap.size 0 rfl (#[.int .i64 (C).stage, v, .int .i64 (C).regs, .int .i64 (C).attr, .int .i64 (C).unif, .int .i64 (C).vary] : Array Value).toList _ (fun wx hx => hx.rng0) Tryz.underlying24 rfl size6) (SL.all P2 Q2 Q2) (SL.all P2 Q2 Q2)  ?_
  simp only [Act.put, List.setIfInBounds_toArray, List.set_cons_zero, List.set_cons_succ]
  refine wpAnyL_take (fun wx => Blk wx (W.heap.size + 1) (envA E) 31) [5] (i := 2) (oi := { dst := some 17, op := Op.load _ (Operand.tmp 3), type := _, pos := _, after := _, guard := none }) (v := .agg (envA E)) rfl (by kernel_rfl) (by kernel_rfl) (by kernel_rfl) (by kernel_rfl) (by kernel_rfl) (fun _ _ _ h => h) (SL.ind (by decide) (by decide) (by decide)) (SL.get2) (yieldsIf_load_mid (by rfl) 31 (.tmp 3) rfl (W.heap.size + 1) 0 rfl ((envA E) : Array Value).toList _ (fun wx hx => hx.rng0) Tryz.underlying31 rfl sizeEnv) (SL.all P2 Q2 Q2) (SL.all P2 Q2 Q2)  ?_
  simp only [Act.put, List.setIfInBounds_toArray, List.set_cons_zero, List.set_cons_succ]
  refine wpAnyL_next (i := 1) (o := { dst := some 16, op := Op.call { callee := Callee.value (Operand.func _), args := #[Operand.tmp 15], argTypes := _ }, type := _, pos := _, after := _, guard := none }) (by kernel_rfl) rfl (by rfl) (fun KK hK => ?_)
  go_simp
  refine (unhide HFW _ X2).mono ?_
  rintro e w3 ⟨am, cm, rfl, hm3, hx3⟩
  have P3 := P2.ext hx3
  have Q3 := Q2.ext hx3
  have X3 := X2.trans hx3
  have hsw : W.heap.size + 2 ≤ w2.heap.size := by have := Q2.lt; omega
  have hb3 := hx3.size
  clear hx3 P2 Q2 X2
  refine unhide hK _ _ (SL.all P3 Q3 Q3) ?_
  clear hK KK
  try simp only [Act.put, List.setIfInBounds_toArray, List.set_cons_zero, List.set_cons_succ]
  refine wpAnyL_next (i := 3) (o := { dst := some 18, op := Op.call { callee := Callee.value (Operand.func _), args := #[Operand.tmp 17], argTypes := _ }, type := _, pos := _, after := _, guard := none }) (by kernel_rfl) rfl (by rfl) (fun KK hK => ?_)
  go_simp
  refine (unhide HAR _ X3).mono ?_
  rintro e w4 ⟨E2, rfl, hv4, hg4, hx4⟩
  have HVI := hide hg4
  have P4 := P3.ext hx4
  have Q4 := Q3.ext hx4
  have X4 := X3.trans hx4
  have hm4 := hm3.ext hx4
  clear hx4 P3 Q3 hm3 hg4
  clear X3
  refine unhide hK _ _ (SL.all P4 Q4 Q4) ?_
  clear hK KK
  try simp only [Act.put, List.setIfInBounds_toArray, List.set_cons_zero, List.set_cons_succ]
  have hone : (envA E2).all (·.oneCell') = true := by
    obtain ⟨_, _, r1, _⟩ := GO.shape hv4.va
    obtain ⟨_, _, r2, _⟩ := GO.shape hv4.vu
    obtain ⟨_, _, r3, _⟩ := GO.shape hv4.vv
    obtain ⟨_, _, r4, _⟩ := unhide HGR _ X4
    rw [← unhide HVI] at r4
    simp [envA, r1, r2, r3, r4, Value.oneCell']
  have HONE := hide hone
  clear hone
  refine wpAnyL_next (i := 4) (o := { dst := none, op := Op.store _ (Operand.tmp 2) (Operand.tmp 16), type := _, pos := _, after := _, guard := none }) (by kernel_rfl) rfl (by rfl) (fun KK hK => ?_)
  refine wp_store_row 24 (.tmp 2) (.tmp 16) rfl W.heap.size #[.int .i64 ((cutC C)).stage, .slice am (cutC C).ins.length cm, .int .i64 ((cutC C)).regs, .int .i64 ((cutC C)).attr, .int .i64 ((cutC C)).unif, .int .i64 ((cutC C)).vary] rfl rfl 24 _ P4 size6 rfl (by simp [Value.oneCell']) ?_
  have P5 := P4.rowC (cs' := #[.int .i64 ((cutC C)).stage, .slice am (cutC C).ins.length cm, .int .i64 ((cutC C)).regs, .int .i64 ((cutC C)).attr, .int .i64 ((cutC C)).unif, .int .i64 ((cutC C)).vary])
  have Q5 : Blk (w4.setRow W.heap.size #[.int .i64 ((cutC C)).stage, .slice am (cutC C).ins.length cm, .int .i64 ((cutC C)).regs, .int .i64 ((cutC C)).attr, .int .i64 ((cutC C)).unif, .int .i64 ((cutC C)).vary]) (W.heap.size + 1) (envA E) 31 := (setRow_other w4 W.heap.size (W.heap.size + 1) _ (by omega)).trans Q4
  have X5 := extRow (cs := #[.int .i64 ((cutC C)).stage, .slice am (cutC C).ins.length cm, .int .i64 ((cutC C)).regs, .int .i64 ((cutC C)).attr, .int .i64 ((cutC C)).unif, .int .i64 ((cutC C)).vary]) X4 (Nat.le_refl W.heap.size)
  have hm5 := hm4.kept9 (row_grown w4 W.heap.size #[.int .i64 ((cutC C)).stage, .slice am (cutC C).ins.length cm, .int .i64 ((cutC C)).regs, .int .i64 ((cutC C)).attr, .int .i64 ((cutC C)).unif, .int .i64 ((cutC C)).vary]) (hm4.neB P4 (by decide))
  have hv5 := hv4.keep (row_grown w4 W.heap.size #[.int .i64 ((cutC C)).stage, .slice am (cutC C).ins.length cm, .int .i64 ((cutC C)).regs, .int .i64 ((cutC C)).attr, .int .i64 ((cutC C)).unif, .int .i64 ((cutC C)).vary]) (by omega)
  generalize w4.setRow W.heap.size #[.int .i64 ((cutC C)).stage, .slice am (cutC C).ins.length cm, .int .i64 ((cutC C)).regs, .int .i64 ((cutC C)).attr, .int .i64 ((cutC C)).unif, .int .i64 ((cutC C)).vary] = w5 at P5 Q5 X5 hm5 hv5 ⊢
  clear P4 Q4 X4 hm4 hv4
  refine unhide hK _ _ (SL.mk1 (getD_self _ _) Q5 Q5) ?_
  clear hK KK
  try simp only [Act.put, List.setIfInBounds_toArray, List.set_cons_zero, List.set_cons_succ]
  refine wpAnyL_next (i := 5) (o := { dst := none, op := Op.store _ (Operand.tmp 3) (Operand.tmp 18), type := _, pos := _, after := _, guard := none }) (by kernel_rfl) rfl (by rfl) (fun KK hK => ?_)
  refine wp_store_row 31 (.tmp 3) (.tmp 18) rfl (W.heap.size + 1) (envA E2) rfl rfl 31 _ Q5 sizeEnv rfl (unhide HONE) ?_
  have P6 : Blk (w5.setRow (W.heap.size + 1) (envA E2)) W.heap.size #[.int .i64 ((cutC C)).stage, .slice am (cutC C).ins.length cm, .int .i64 ((cutC C)).regs, .int .i64 ((cutC C)).attr, .int .i64 ((cutC C)).unif, .int .i64 ((cutC C)).vary] 24 := (setRow_other w5 (W.heap.size + 1) W.heap.size _ (by omega)).trans P5
  have Q6 := Q5.rowC (cs' := envA E2)
  have X6 := extRow (cs := envA E2) X5 (show W.heap.size ≤ W.heap.size + 1 by omega)
  have hm6 := hm5.kept9 (row_grown w5 (W.heap.size + 1) (envA E2)) (hm5.neB Q5 (by decide))
  have hv6 := hv5.keep (row_grown w5 (W.heap.size + 1) (envA E2)) (by omega)
  generalize w5.setRow (W.heap.size + 1) (envA E2) = w6 at P6 Q6 X6 hm6 hv6 ⊢
  clear P5 Q5 X5 hm5 hv5
  refine unhide hK _ _ (SL.mk3 (by kernel_rfl) (getD_self _ _) (getD_self _ _)) ?_
  clear hK KK
  try simp only [Act.put, List.setIfInBounds_toArray, List.set_cons_zero, List.set_cons_succ]
  refine wpAnyL_done (by kernel_rfl) ?_ _
  refine NoPanic.normal ?_
  have HP := hide P6
  have HQ := hide Q6
  have HX := hide X6
  have HV := hide hv6
  have HM := hide hm6
  have hbw : W.heap.size + 2 ≤ w2.heap.size ∧ w2.heap.size ≤ w3.heap.size := ⟨hsw, hb3⟩
  have HGX : Hid (∀ wx, Ext W wx → GR wx E2.vi (G.take 4)) := fun wx hx => by rw [unhide HVI]; exact unhide HGR _ hx
  have HGI := hide (unhide HGX _ X6)
  clear P6 Q6 X6 hm6 hv6 HONE HFW HAR HVI HGR
  have HTRC := hide ((trace_any (cutC C) _ E2 (cutS S) (G.take 4) w6 (unhide HM).ir (unhide HOK) (unhide HV).sur (unhide HGI) (unhide HS32)).mono fun e w' h => TrcQ.shape h)
  have HFT := hide (fun wx (hx : Ext w6 wx) => fits_any (cutC C) _ E2 (cutS S) wx ((unhide HM).ir.ext hx) ((unhide HV).sur.ext hx))
  go_upto_region 5 with (first
    | refine wpList_load_row rfl 24 (.tmp 2) rfl W.heap.size rfl 24 #[.int .i64 ((cutC C)).stage, .slice am (cutC C).ins.length cm, .int .i64 ((cutC C)).regs, .int .i64 ((cutC C)).attr, .int .i64 ((cutC C)).unif, .int .i64 ((cutC C)).vary] (0, 0) _ (unhide HP) Tryz.underlying24 rfl size6 ?_
    | refine wpList_load_row rfl 31 (.tmp 3) rfl (W.heap.size + 1) rfl 31 (envA E2) (0, 0) _ (unhide HQ) Tryz.underlying31 rfl sizeEnv ?_
    | (go_at_call 13; refine (unhide HTRC).mono ?_; rintro e w7 ⟨lo, ln, lc, r, rfl, hts⟩; have TS := hide hts; clear hts))
  have HP7 := hide ((unhide HP).ext (unhide TS).ext)
  have HQ7 := hide ((unhide HQ).ext (unhide TS).ext)
  have HX7 := hide ((unhide HX).trans (unhide TS).ext)
  have HR := hide (unhide TS).err
  by_cases h0 : r = 0
  case neg =>
    have d : (r != 0) = true := by simp [h0]
    obtain ⟨rfl, rfl, rfl⟩ := (unhide TS).bad h0
    have hrf : (refI (cutC C) (cutS S).att.length (cutS S).uni.length (cutS S).vry.length == 0) = false := by rw [← unhide HR]; simp [h0]
    have HFT7 := hide (unhide HFT w7 (unhide TS).ext)
    rw [hrf] at HFT7
    obtain ⟨z0, z1, z2, z3, z4, z5⟩ := cellC (unhide HP7)
    obtain ⟨y0, y1, y2, y3, y4, y5, y6, y7, y8, y9, y10, y11, y12⟩ := envA_cells (unhide HQ7)
    clear hrf HFT HP HQ HX h0 HTRC HR TS
    go_wp2_with (go_at_call 14; refine (unhide HFT7).mono ?_; rintro e w8 ⟨rfl, hx8⟩; have X8 := hide hx8; clear hx8)
    go_ret
    exact ⟨rfl, (unhide HX7).trans (unhide X8)⟩
  case pos =>
  obtain ⟨hln, hG7⟩ := (unhide TS).ok h0
  have hfit := ref_zero ((unhide HR).symm.trans h0)
  subst h0
  have HFIT := hide hfit
  obtain ⟨P, hP⟩ : ∃ P, (runP (cutC C) (cutS S) (G.take 4)).2 = P := ⟨_, rfl⟩
  have HPF := hide (runP_facts hfit.1 (cutS S) (G.take 4))
  rw [hP] at hln hG7 HPF
  have HPE := hide hP
  have HRC := hide (fun wx (hx : Ext w6 wx) => reach_ok (cutC C) _ wx ((unhide HM).ir.ext hx) hfit.1)
  have HRC7 := hide (unhide HRC w7 (unhide TS).ext)
  have HX67 := hide (unhide TS).ext
  have HG7 := hide hG7
  have HLN := hide hln
  have hil : (cutC C).ins.length ≤ 4096 := (may_regs hfit.1).1
  clear HFT HTRC HR hfit hP hG7 hln TS HRC
  have HM7 := hide ((unhide HM).ext (unhide HX67))
  have HV7 := hide ((unhide HV).ext (unhide HX67))
  have HGI7 := hide (unhide HGX _ (unhide HX7))
  go_upto_region 8 with (first
    | refine wpList_load_row rfl 24 (.tmp 2) rfl W.heap.size rfl 24 #[.int .i64 ((cutC C)).stage, .slice am (cutC C).ins.length cm, .int .i64 ((cutC C)).regs, .int .i64 ((cutC C)).attr, .int .i64 ((cutC C)).unif, .int .i64 ((cutC C)).vary] (0, 0) _ (unhide HP7) Tryz.underlying24 rfl size6 ?_
    | (go_at_call 22; refine (unhide HRC7).mono ?_; rintro e w8 ⟨g, rfl, hgb, hgl, hx8⟩; have X8 := hide hx8; have HB8 := hide hgb; clear hx8 hgb))
  have HP8 := hide ((unhide HP7).ext (unhide X8))
  have HQ8 := hide ((unhide HQ7).ext (unhide X8))
  have HX8 := hide ((unhide HX7).trans (unhide X8))
  have HM8 := hide ((unhide HM7).ext (unhide X8))
  have HV8 := hide ((unhide HV7).ext (unhide X8))
  have HGI8 := hide (unhide HGX _ (unhide HX8))
  have HG8 := hide (GO.ext (unhide HG7) (unhide X8))
  clear HP HQ HX HP7 HQ7 HX7 HM HM7 HV HV7 HGI HGI7 HRC7 HX67 HG7 X8
  have HPW := hide (unhide HPF).1
  have HPA := hide (unhide HPF).2.1
  have hpl : P.length ≤ (cutC C).ins.length := (unhide HPF).2.2.1
  have HDC := hide (unhide HPF).2.2.2
  obtain ⟨nn, hnn⟩ : ∃ nn, P.length = nn := ⟨_, rfl⟩
  have HNN := hide hnn
  have e9 : ln = nn := by rw [unhide HLN, hnn]
  rw [hnn] at hpl
  clear hnn HPF HLN
  subst e9
  obtain ⟨mm, hmm⟩ : ∃ mm, (cutC C).ins.length = mm := ⟨_, rfl⟩
  have HMM := hide hmm
  rw [hmm] at hpl hil
  have z1 := (unhide HP8).cell (i := 1) (v := .slice am mm cm) (by rw [← hmm]; rfl)
  clear hmm
  go_wp2
  go_loopw [8, 40] (fun a p wr => ∃ k : Nat, k ≤ ln ∧ a = .int .i64 (lastI P k) ∧ p = .int .i64 (k : Int) ∧ wr = w8) (fun _ p _ => ln - (intOf p).toNat)
  case atStart => exact ⟨0, Nat.zero_le _, rfl, rfl, rfl⟩
  case round =>
    obtain ⟨k, hk, rfl, rfl, rfl⟩ := hrel
    by_cases hlt : k < ln
    case pos =>
      have hkP : k < P.length := by rw [unhide HNN]; exact hlt
      have hki : (k : Int) < (ln : Int) := by omega
      obtain ⟨gl, rfl, _, _, ck⟩ := nrow_at (unhide HG8) k hkP
      have h1 := lastI_lt (unhide HPW) k hkP
      obtain ⟨h2, h3⟩ := unhide HPA _ (List.getElem_mem hkP)
      have HLS := hide (lastI_succ P k hkP)
      have hbr : P[k] < (reachP (cutC C).ins).length := by unfold reachP; rw [reachTo_len]; omega
      have cb := (unhide HB8).cell (bcells_at hbr)
      rw [h3] at cb
      rw [unhide HMM] at h2
      obtain ⟨x, hx⟩ : ∃ x, P[k] = x := ⟨_, rfl⟩
      obtain ⟨y, hy⟩ : ∃ y, lastI P k = y := ⟨_, rfl⟩
      rw [hx] at ck h1 h2 cb HLS
      rw [hy] at h1 ⊢
      have d1 : decide ((x : Int) ≤ y) = false := decide_eq_false (by omega)
      have d2 : decide ((x : Int) ≥ (mm : Int)) = false := decide_eq_false (by omega)
      have d3 : decide ((mm : Int) ≤ (x : Int)) = false := decide_eq_false (by omega)
      have hxm : (x : Int) < (mm : Int) + 1 := by omega
      have hxi : (x : Int) < ((cutC C).ins.length : Int) + 1 := by have := unhide HMM; omega
      have hmx : ¬ (mm : Int) ≤ (x : Int) := by omega
      have hxy : ¬ (x : Int) ≤ y := by omega
      clear hx hy h3 hbr
      go_wp2
      go_roundw
      case rel => exact ⟨k + 1, by omega, by rw [unhide HLS], by go_num, by first | rfl | trivial⟩
      case measure => simp [intOf]; omega
    case neg =>
      obtain rfl : k = ln := by omega
      have HRUN := hide ((runV_any (cutC C) _ E2 (cutS S) (G.take 4) wr (unhide HM8).ir (unhide HOK) (unhide HV8).sur (unhide HGI8) (unhide HS32)).mono fun e w' h => RunQ.shape h)
      have HP := hide (unhide HP8)
      have HQ := hide (unhide HQ8)
      go_upto_region 17 with (first
    | refine wpList_load_row rfl 24 (.tmp 2) rfl W.heap.size rfl 24 #[.int .i64 ((cutC C)).stage, .slice am (cutC C).ins.length cm, .int .i64 ((cutC C)).regs, .int .i64 ((cutC C)).attr, .int .i64 ((cutC C)).unif, .int .i64 ((cutC C)).vary] (0, 0) _ (unhide HP) Tryz.underlying24 rfl size6 ?_
    | refine wpList_load_row rfl 31 (.tmp 3) rfl (W.heap.size + 1) rfl 31 (envA E2) (0, 0) _ (unhide HQ) Tryz.underlying31 rfl sizeEnv ?_
    | (go_at_call 12; refine (unhide HRUN).mono ?_; rintro e wa ⟨O, r2, rfl, hrs⟩; have RS := hide hrs; clear hrs; have H1O : Hid ((outA O).all (·.oneCell') = true) := (by obtain ⟨a9, n9, c9, h9⟩ := (unhide RS).vy; exact outA_one O a9 n9 c9 h9))
    | refine wpList_store_row rfl 36 (.tmp 11) (.tmp 67) rfl wa.heap.size (outA O) rfl rfl 36 (outA outZ) (Blk.new wa (outA outZ) 36) sizeOut rfl (unhide H1O) ?_)
      have HP9 : Hid (Blk ((wa.alloc (.cells (outA outZ) 36)).setRow wa.heap.size (outA O)) W.heap.size #[.int .i64 ((cutC C)).stage, .slice am (cutC C).ins.length cm, .int .i64 ((cutC C)).regs, .int .i64 ((cutC C)).attr, .int .i64 ((cutC C)).unif, .int .i64 ((cutC C)).vary] 24) := (setRow_other _ wa.heap.size W.heap.size _ (by have := (unhide HP).lt; have := (unhide RS).ext.size; omega)).trans (((unhide HP).ext (unhide RS).ext).alloc _)
      have HO9 : Hid (Blk ((wa.alloc (.cells (outA outZ) 36)).setRow wa.heap.size (outA O)) wa.heap.size (outA O) 36) := Blk.rowC (Blk.new wa (outA outZ) 36)
      have HX9 : Hid (Ext wr ((wa.alloc (.cells (outA outZ) 36)).setRow wa.heap.size (outA O))) := extRow ((unhide RS).ext.alloc _) (unhide RS).ext.size
      obtain ⟨rb, hrb⟩ : ∃ b, wa.heap.size = b := ⟨_, rfl⟩
      generalize hwB : (wa.alloc (.cells (outA outZ) 36)).setRow wa.heap.size (outA O) = wB at HP9 HO9 HX9
      try rw [show (wa.alloc (.cells (outA outZ) 36)).setRow wa.heap.size (outA O) = wB from hwB]
      try rw [show (wa.alloc (.cells #[.int .i32 0, .int .i32 0, .int .i32 0, .int .i32 0, .int .i32 0, .slice none 0 0, .int .i32 0, .int .i32 0, .int .i32 0, .int .i32 0, .bool false] 36)).setRow wa.heap.size (outA O) = wB from hwB]
      try rw [show Value.pointer (some ⟨wa.heap.size, 0, none⟩) = Value.pointer (some ⟨rb, 0, none⟩) by rw [hrb]]
      rw [hrb] at HO9
      have hr2 : r2 = 0 := by
        rw [(unhide RS).err]
        unfold refI
        rw [if_neg (by rw [(unhide HFIT).1]; decide)]
        exact if_pos (unhide HFIT).2
      have hdc := ((unhide RS).ok hr2).2.2.2.1
      rw [unhide HDC] at hdc
      have HM9 := hide ((unhide HM8).ir.ext (unhide HX9))
      have HXB := hide ((unhide HX8).trans (unhide HX9))
      have a10 := (unhide HO9).cell (i := 10) (v := .bool O.dc) rfl
      have z1b := (unhide HP9).cell (i := 1) (v := .slice am mm cm) (by rw [← unhide HMM]; rfl)
      have dle : decide ((k : Int) ≤ (mm : Int)) = true := decide_eq_true (by omega)
      have dle2 : (k : Int) ≤ (mm : Int) := by omega
      clear hwB hrb HRUN HP HQ HP8 HQ8 HM8 HV8 HGI8 HX8 HG8 RS z1
      subst hr2
      by_cases hk0 : k = 0
      case pos =>
        subst hk0
        have hPn : P = [] := List.length_eq_zero_iff.1 (unhide HNN)
        rw [hPn] at hdc
        have hdc2 : O.dc = false := hdc
        rw [hdc2] at a10
        clear hdc hdc2 hPn
        go_wp2
        go_ret
        exact ⟨rfl, unhide HXB⟩
      case neg =>
        have hPn : P ≠ [] := fun e => hk0 (by rw [← unhide HNN, e]; rfl)
        obtain ⟨x, hx1, hx2, hx3⟩ := lastI_last hPn
        rw [unhide HNN] at hx2
        rw [hx1] at hdc
        rw [hx2]
        have hxl := (unhide HPA x hx3).1
        obtain ⟨ao9, cp9, e9, _, _, _, hat⟩ := unhide HM9
        have e9' := (Value.slice.inj e9).1
        obtain ⟨b9, of9, e8, hrr⟩ := hat x hxl
        rw [← e9'] at e8
        subst e8
        have c9 : wB.cell? ⟨b9, of9 + x * 16, none⟩ = some (.int .i64 ((cutC C).ins[x] 0)) := by
          have := hrr 0 (.int .i64 ((cutC C).ins[x] 0)) rfl
          simpa using this
        have hdc3 : O.dc = decide ((cutC C).ins[x] 0 = 12) := by
          rw [hdc]
          show decide ((cutC C).ins.getD x zI 0 = 12) = decide ((cutC C).ins[x] 0 = 12)
          rw [show (cutC C).ins.getD x zI = (cutC C).ins[x] by simp [hxl]]
        obtain ⟨o9, ho9⟩ : ∃ o, (cutC C).ins[x] 0 = o := ⟨_, rfl⟩
        rw [ho9] at c9 hdc3
        obtain ⟨q, hq⟩ : ∃ q, (o9 == 12) = q := ⟨_, rfl⟩
        have hdc4 : O.dc = q := by rw [hdc3, ← hq]; by_cases h : o9 = 12 <;> simp [h]
        rw [hdc4] at a10
        have hxmm : (x : Int) < (mm : Int) := by rw [unhide HMM] at hxl; omega
        have dgt : decide ((k : Int) > 0) = true := decide_eq_true (by omega)
        have dgt2 : (0 : Int) < (k : Int) := by omega
        clear hdc hdc3 hdc4 ho9 hx1 hx2 hx3 hPn hk0 e9 e9' hat hrr
        go_wp2
        go_ret
        exact ⟨by simp, unhide HXB⟩

set_option maxRecDepth 100000 in
theorem vmends_owes (H : Type) (enc : TypeId × Value → H) (W : World) (base : Nat) (args : Array Value) (ds : List (DataW H)) (p : List MemPlace) : Owes H enc Tryz.prog 6 Tryz.f6 Rows.vmEndsSpec W base args ds p := by
  intro hval hA hsz
  rw [Tryz.params6] at hA hval hsz
  obtain ⟨v0, vs0, d0, ds0, p0, q0, hargs, rfl, rfl, h0, r0⟩ := trodAll_cons hA
  obtain ⟨v1, vs1, d1, ds1, p1, q1, rfl, rfl, rfl, h1, r1⟩ := trodAll_cons r0
  obtain ⟨rfl, rfl, rfl⟩ := trodAll_nil r1
  obtain rfl : args = #[v0, v1] := by cases args; simp_all
  obtain ⟨C, u, rfl, hC, hok⟩ := open_codA (hval 0 24 v0 rfl rfl) h0
  obtain ⟨E, S, G, rfl, hE⟩ := open_env (hval 1 31 v1 rfl rfl) h1 (Wgt.arg hsz (j := 1) rfl rfl)
  exact ⟨⟨rfl, rfl, rfl⟩, endsLaw_any C u E S G W hC hok hE⟩

set_option maxRecDepth 100000 in
theorem vmends_lifted (os : Os) (started : os.Started) (H : Type) (enc : TypeId × Value → H) :
    ReturnsInHanded {} Tryz.checked os 6 .any (Rows.vmEndsSpec.pre6 enc Tryz.prog Tryz.f6 [] false) (Rows.vmEndsSpec.post enc Tryz.prog Tryz.f6 false true false false) :=
  lift_law (C := Tryz.checked) own laidOut started (by kernel_rfl) Tryz.func6 (T := 4) rfl Tryz.underlying4 rfl (by kernel_rfl)
    (ChangeSpec.witness6 (enc := enc) (C := Tryz.checked) false ⟨#[], #[.agg #[.int .i64 0, .slice none 0 0, .int .i64 0, .int .i64 0, .int .i64 0, .int .i64 0], .agg #[.slice none 0 0, .slice none 0 0, .slice none 0 0, .int .i32 0, .int .i32 0, .int .i32 0, .int .i32 0, .bool false, .int .i32 0, .int .i32 0, .int .i32 0, .int .i32 0, .slice none 0 0]], []⟩ 8 (by kernel_rfl) (by kernel_rfl) (by kernel_rfl) (by kernel_rfl)) (vmends_owes H enc)

theorem vmEnds_holds : Rows.VmEndsSaid :=
  OpenClaim.holds_of_wide 6 Tryz.f6 rfl rfl rfl rfl rfl rfl rfl ⟨rfl, rfl, rfl, rfl, rfl⟩ rfl rfl rfl rfl rfl (by kernel_rfl) Tryz.func6 (by kernel_rfl)
    (of_decide_eq_true (by kernel_rfl)) (by unfold Func.isWrapper; rw [if_neg (of_decide_eq_false (by kernel_rfl))]; exact ⟨rfl, rfl⟩)
    (fun os started H enc _ => vmends_lifted os started H enc)
#print axioms vmEnds_holds
end Go.Proofs.YtglfhmlcmffoaaaGreat
