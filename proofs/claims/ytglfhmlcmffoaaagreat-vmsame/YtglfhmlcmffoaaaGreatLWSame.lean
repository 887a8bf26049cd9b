/-
  Proved: VmSame answers true for every two results: which are the same is told as the document says, and each is the same as itself. No condition.
-/
import Derived.Test.YtglfhmlcmffoaaaGreatVFeJ
import Derived.Test.YtglfhmlcmffoaaaGreatVWk
import Derived.Test.YtglfhmlcmffoaaaGreatVFw
import Derived.Test.YtglfhmlcmffoaaaGreatUZJ
namespace Go.Proofs.YtglfhmlcmffoaaaGreat
open Go.ChangeShapes Go.WideShapes Go.ChangeAt Go.RowKit
set_option linter.unusedVariables false
set_option linter.unusedSimpArgs false

def setVy (A : OutC) (v : Value) : OutC := ⟨A.po, A.sz, v, A.cl, A.dc⟩

set_option maxRecDepth 10000 in
set_option maxHeartbeats 4000000 in
theorem vmSameLaw_any (A B : OutC) (V U : List (Nat → Int)) (W : World) (hA : VIn W A.vy V) (hB : VIn W B.vy U) :
    Calls Tryz.prog 5 #[.agg (outA A), .agg (outA B)] W fun e w' => e = .returned (.bool true) ∧ Ext W w' := by
  obtain ⟨oa, ca, ea, _, la, ma⟩ := hA.2.2
  obtain ⟨M, hM⟩ : ∃ M, V.take 20 = M := ⟨_, rfl⟩
  obtain ⟨na, hna⟩ : ∃ n, M.length = n := ⟨_, rfl⟩
  obtain ⟨hna3, hna4, hmia⟩ : na ≤ V.length ∧ na ≤ 20 ∧ min (V.length : Int) 20 = (na : Int) := by
    rw [← hna, ← hM, List.length_take]
    omega
  have HTKa : Hid (∀ wx, Ext W wx → VRow wx (.slice oa na ca) M) := fun wx hx => by
    have := hA.1.ext hx
    rw [ea] at this
    rw [← hna, ← hM]
    exact this.first 20
  obtain ⟨ob, cb, eb, _, lb, mb⟩ := hB.2.2
  obtain ⟨N, hN⟩ : ∃ M, U.take 20 = M := ⟨_, rfl⟩
  obtain ⟨nb, hnb⟩ : ∃ n, N.length = n := ⟨_, rfl⟩
  obtain ⟨hnb3, hnb4, hmib⟩ : nb ≤ U.length ∧ nb ≤ 20 ∧ min (U.length : Int) 20 = (nb : Int) := by
    rw [← hnb, ← hN, List.length_take]
    omega
  have HTKb : Hid (∀ wx, Ext W wx → VRow wx (.slice ob nb cb) N) := fun wx hx => by
    have := hB.1.ext hx
    rw [eb] at this
    rw [← hnb, ← hN]
    exact this.first 20
  have hM20 : M.length ≤ 1000000 := by omega
  clear hA hB hM hN hna hnb
  unfold maxLen at ma mb
  have HX0 := hide (show Ext W ((W.alloc (.cells (outA A) 36)).alloc (.cells (outA B) 36)) from ((Ext.refl W).alloc _).alloc _)
  have HA0 := hide (show Blk ((W.alloc (.cells (outA A) 36)).alloc (.cells (outA B) 36)) W.heap.size (outA A) 36 from (Blk.new W _ _).alloc _)
  have HB0 := hide (show Blk ((W.alloc (.cells (outA A) 36)).alloc (.cells (outA B) 36)) (W.heap.size + 1) (outA B) 36 from Blk.at (by simp))
  go_enter Tryz.func5, Tryz.ntmps5
  go_upto_region 1 with fail
  generalize hw2 : ((W.alloc (.cells (outA A) 36)).alloc (.cells (outA B) 36)) = w0 at HX0 HA0 HB0
  try rw [show ((W.alloc (.cells (outA A) 36)).alloc (.cells (outA B) 36)) = w0 from hw2]
  clear hw2
  have HWK := hide (wakes18_any w0)
  go_upto_region 3 with (go_at_call 9; refine (unhide HWK).mono ?_; rintro e w1 ⟨rfl, hx1⟩; have X1 := hide hx1; clear hx1)
  have HX1 := hide ((unhide HX0).trans (unhide X1))
  have HA1 := hide ((unhide HA0).ext (unhide X1))
  have HB1 := hide ((unhide HB0).ext (unhide X1))
  clear HX0 HA0 HB0 X1 HWK
  have a5 := (unhide HA1).cell (i := 5) (v := .slice oa V.length ca) (by rw [← ea]; rfl)
  have b5 := (unhide HB1).cell (i := 5) (v := .slice ob U.length cb) (by rw [← eb]; rfl)
  have f5 := (unhide HA1).free 5
  have g5 := (unhide HB1).free 5
  have hca9 : na ≤ ca := by omega
  have hcb9 : nb ≤ cb := by omega
  have hEA := hide ea
  have hEB := hide eb
  clear ea eb
  go_cut [12, 19] (fun p q wc => wc = (w1.drew.setCell ⟨W.heap.size, 5, none⟩ (.slice oa na ca)).setCell ⟨W.heap.size + 1, 5, none⟩ (.slice ob nb cb))
  case first =>
    refine wp_region_noPanic ?_
    refine wp_regionL (S := SL 15 17 17 (fun wx => wx.cell? ⟨W.heap.size, 5, none⟩ = some (.slice oa V.length ca)) (fun wx => wx.cell? ⟨W.heap.size + 1, 5, none⟩ = some (.slice ob U.length cb)) (fun wx => wx.cell? ⟨W.heap.size + 1, 5, none⟩ = some (.slice ob U.length cb))) (by kernel_rfl) ?_
    have F1 : w1.drew.cell? ⟨W.heap.size, 5, none⟩ = some (.slice oa V.length ca) := a5
    have F2 : w1.drew.cell? ⟨W.heap.size + 1, 5, none⟩ = some (.slice ob U.length cb) := b5
    have z1 : w1.drew.frozen? ⟨W.heap.size, 5, none⟩ = false := f5
    have z2 : w1.drew.frozen? ⟨W.heap.size + 1, 5, none⟩ = false := g5
    clear a5 b5 f5 g5
    generalize hwd : w1.drew = wd at F1 F2 z1 z2 ⊢
    have HWD := hide hwd
    clear hwd
    have HS0 : ∀ Lx, SL 15 17 17 (fun wx => wx.cell? ⟨W.heap.size, 5, none⟩ = some (.slice oa V.length ca)) (fun wx => wx.cell? ⟨W.heap.size + 1, 5, none⟩ = some (.slice ob U.length cb)) (fun wx => wx.cell? ⟨W.heap.size + 1, 5, none⟩ = some (.slice ob U.length cb)) Lx wd := fun Lx => SL.all F1 F2 F2
    refine wpAnyL_take (fun _ => True) [] (i := 0) (oi := { dst := some 7, op := Op.fieldAddr _ (Operand.tmp 2) 2, type := _, pos := _, after := _, guard := none }) (v := .pointer (some ⟨W.heap.size, 5, none⟩)) rfl (by kernel_rfl) (by kernel_rfl) (by kernel_rfl) (by kernel_rfl) (by kernel_rfl) (fun _ _ _ h => h) (SL.ind (by decide) (by decide) (by decide)) (fun _ _ _ _ => trivial) (Or.inl ⟨by rfl, fun _ _ => rfl⟩) (HS0 _) (HS0 _) ?_
    simp only [Act.put, List.setIfInBounds_toArray, List.set_cons_zero, List.set_cons_succ]
    refine wpAnyL_take (fun wx => wx.cell? ⟨W.heap.size, 5, none⟩ = some (.slice oa V.length ca)) [15] (i := 1) (oi := { dst := some 8, op := Op.load _ (Operand.tmp 7), type := _, pos := _, after := _, guard := none }) (v := .slice oa V.length ca) rfl (by kernel_rfl) (by kernel_rfl) (by kernel_rfl) (by kernel_rfl) (by kernel_rfl) (fun _ _ _ h => h) (SL.ind (by decide) (by decide) (by decide)) (SL.get1) (Or.inl ⟨by rfl, fun wx hx => by go_simp⟩) (HS0 _) (HS0 _) ?_
    simp only [Act.put, List.setIfInBounds_toArray, List.set_cons_zero, List.set_cons_succ]
    refine wpAnyL_take (fun _ => True) [] (i := 2) (oi := { dst := some 9, op := Op.fieldAddr _ (Operand.tmp 2) 2, type := _, pos := _, after := _, guard := none }) (v := .pointer (some ⟨W.heap.size, 5, none⟩)) rfl (by kernel_rfl) (by kernel_rfl) (by kernel_rfl) (by kernel_rfl) (by kernel_rfl) (fun _ _ _ h => h) (SL.ind (by decide) (by decide) (by decide)) (fun _ _ _ _ => trivial) (Or.inl ⟨by rfl, fun _ _ => rfl⟩) (HS0 _) (HS0 _) ?_
    simp only [Act.put, List.setIfInBounds_toArray, List.set_cons_zero, List.set_cons_succ]
    refine wpAnyL_take (fun wx => wx.cell? ⟨W.heap.size, 5, none⟩ = some (.slice oa V.length ca)) [15] (i := 3) (oi := { dst := some 10, op := Op.load _ (Operand.tmp 9), type := _, pos := _, after := _, guard := none }) (v := .slice oa V.length ca) rfl (by kernel_rfl) (by kernel_rfl) (by kernel_rfl) (by kernel_rfl) (by kernel_rfl) (fun _ _ _ h => h) (SL.ind (by decide) (by decide) (by decide)) (SL.get1) (Or.inl ⟨by rfl, fun wx hx => by go_simp⟩) (HS0 _) (HS0 _) ?_
    simp only [Act.put, List.setIfInBounds_toArray, List.set_cons_zero, List.set_cons_succ]
    refine wpAnyL_take (fun _ => True) [] (i := 4) (oi := { dst := some 11, op := Op.call { callee := Callee.builtin Builtin.len, args := #[Operand.tmp 10], argTypes := _ }, type := _, pos := _, after := _, guard := none }) (v := .int .i64 (V.length : Int)) rfl (by kernel_rfl) (by kernel_rfl) (by kernel_rfl) (by kernel_rfl) (by kernel_rfl) (fun _ _ _ h => h) (SL.ind (by decide) (by decide) (by decide)) (fun _ _ _ _ => trivial) (Or.inl ⟨by rfl, fun wx hx => by go_simp⟩) (HS0 _) (HS0 _) ?_
    simp only [Act.put, List.setIfInBounds_toArray, List.set_cons_zero, List.set_cons_succ]
    refine wpAnyL_take (fun _ => True) [] (i := 5) (oi := { dst := some 12, op := Op.call { callee := Callee.builtin Builtin.min, args := #[Operand.tmp 11, Operand.const (Value.int IntKind.i64 20)], argTypes := _ }, type := _, pos := _, after := _, guard := none }) (v := .int .i64 (na : Int)) rfl (by kernel_rfl) (by kernel_rfl) (by kernel_rfl) (by kernel_rfl) (by kernel_rfl) (fun _ _ _ h => h) (SL.ind (by decide) (by decide) (by decide)) (fun _ _ _ _ => trivial) (Or.inl ⟨by rfl, fun wx hx => by go_simp <;> omega⟩) (HS0 _) (HS0 _) ?_
    simp only [Act.put, List.setIfInBounds_toArray, List.set_cons_zero, List.set_cons_succ]
    refine wpAnyL_take (fun _ => True) [] (i := 6) (oi := { dst := some 13, op := Op.slice _ (Operand.tmp 8) none (some (Operand.tmp 12)) none, type := _, pos := _, after := _, guard := none }) (v := .slice oa na ca) rfl (by kernel_rfl) (by kernel_rfl) (by kernel_rfl) (by kernel_rfl) (by kernel_rfl) (fun _ _ _ h => h) (SL.ind (by decide) (by decide) (by decide)) (fun _ _ _ _ => trivial) (Or.inl ⟨by rfl, fun wx hx => by go_simp <;> omega⟩) (HS0 _) (HS0 _) ?_
    simp only [Act.put, List.setIfInBounds_toArray, List.set_cons_zero, List.set_cons_succ]
    refine wpAnyL_take (fun _ => True) [] (i := 7) (oi := { dst := some 14, op := Op.fieldAddr _ (Operand.tmp 3) 2, type := _, pos := _, after := _, guard := none }) (v := .pointer (some ⟨W.heap.size + 1, 5, none⟩)) rfl (by kernel_rfl) (by kernel_rfl) (by kernel_rfl) (by kernel_rfl) (by kernel_rfl) (fun _ _ _ h => h) (SL.ind (by decide) (by decide) (by decide)) (fun _ _ _ _ => trivial) (Or.inl ⟨by rfl, fun _ _ => rfl⟩) (HS0 _) (HS0 _) ?_
    simp only [Act.put, List.setIfInBounds_toArray, List.set_cons_zero, List.set_cons_succ]
    refine wpAnyL_take (fun wx => wx.cell? ⟨W.heap.size + 1, 5, none⟩ = some (.slice ob U.length cb)) [17] (i := 8) (oi := { dst := some 15, op := Op.load _ (Operand.tmp 14), type := _, pos := _, after := _, guard := none }) (v := .slice ob U.length cb) rfl (by kernel_rfl) (by kernel_rfl) (by kernel_rfl) (by kernel_rfl) (by kernel_rfl) (fun _ _ _ h => h) (SL.ind (by decide) (by decide) (by decide)) (SL.get2) (Or.inl ⟨by rfl, fun wx hx => by go_simp⟩) (HS0 _) (HS0 _) ?_
    simp only [Act.put, List.setIfInBounds_toArray, List.set_cons_zero, List.set_cons_succ]
    refine wpAnyL_take (fun _ => True) [] (i := 9) (oi := { dst := some 16, op := Op.fieldAddr _ (Operand.tmp 3) 2, type := _, pos := _, after := _, guard := none }) (v := .pointer (some ⟨W.heap.size + 1, 5, none⟩)) rfl (by kernel_rfl) (by kernel_rfl) (by kernel_rfl) (by kernel_rfl) (by kernel_rfl) (fun _ _ _ h => h) (SL.ind (by decide) (by decide) (by decide)) (fun _ _ _ _ => trivial) (Or.inl ⟨by rfl, fun _ _ => rfl⟩) (HS0 _) (HS0 _) ?_
    simp only [Act.put, List.setIfInBounds_toArray, List.set_cons_zero, List.set_cons_succ]
    refine wpAnyL_take (fun wx => wx.cell? ⟨W.heap.size + 1, 5, none⟩ = some (.slice ob U.length cb)) [17] (i := 10) (oi := { dst := some 17, op := Op.load _ (Operand.tmp 16), type := _, pos := _, after := _, guard := none }) (v := .slice ob U.length cb) rfl (by kernel_rfl) (by kernel_rfl) (by kernel_rfl) (by kernel_rfl) (by kernel_rfl) (fun _ _ _ h => h) (SL.ind (by decide) (by decide) (by decide)) (SL.get2) (Or.inl ⟨by rfl, fun wx hx => by go_simp⟩) (HS0 _) (HS0 _) ?_
    simp only [Act.put, List.setIfInBounds_toArray, List.set_cons_zero, List.set_cons_succ]
    refine wpAnyL_take (fun _ => True) [] (i := 11) (oi := { dst := some 18, op := Op.call { callee := Callee.builtin Builtin.len, args := #[Operand.tmp 17], argTypes := _ }, type := _, pos := _, after := _, guard := none }) (v := .int .i64 (U.length : Int)) rfl (by kernel_rfl) (by kernel_rfl) (by kernel_rfl) (by kernel_rfl) (by kernel_rfl) (fun _ _ _ h => h) (SL.ind (by decide) (by decide) (by decide)) (fun _ _ _ _ => trivial) (Or.inl ⟨by rfl, fun wx hx => by go_simp⟩) (HS0 _) (HS0 _) ?_
    simp only [Act.put, List.setIfInBounds_toArray, List.set_cons_zero, List.set_cons_succ]
    refine wpAnyL_take (fun _ => True) [] (i := 12) (oi := { dst := some 19, op := Op.call { callee := Callee.builtin Builtin.min, args := #[Operand.tmp 18, Operand.const (Value.int IntKind.i64 20)], argTypes := _ }, type := _, pos := _, after := _, guard := none }) (v := .int .i64 (nb : Int)) rfl (by kernel_rfl) (by kernel_rfl) (by kernel_rfl) (by kernel_rfl) (by kernel_rfl) (fun _ _ _ h => h) (SL.ind (by decide) (by decide) (by decide)) (fun _ _ _ _ => trivial) (Or.inl ⟨by rfl, fun wx hx => by go_simp <;> omega⟩) (HS0 _) (HS0 _) ?_
    simp only [Act.put, List.setIfInBounds_toArray, List.set_cons_zero, List.set_cons_succ]
    refine wpAnyL_take (fun _ => True) [] (i := 13) (oi := { dst := some 20, op := Op.slice _ (Operand.tmp 15) none (some (Operand.tmp 19)) none, type := _, pos := _, after := _, guard := none }) (v := .slice ob nb cb) rfl (by kernel_rfl) (by kernel_rfl) (by kernel_rfl) (by kernel_rfl) (by kernel_rfl) (fun _ _ _ h => h) (SL.ind (by decide) (by decide) (by decide)) (fun _ _ _ _ => trivial) (Or.inl ⟨by rfl, fun wx hx => by go_simp <;> omega⟩) (HS0 _) (HS0 _) ?_
    simp only [Act.put, List.setIfInBounds_toArray, List.set_cons_zero, List.set_cons_succ]
    refine wpAnyL_take (fun _ => True) [] (i := 14) (oi := { dst := some 21, op := Op.fieldAddr _ (Operand.tmp 2) 2, type := _, pos := _, after := _, guard := none }) (v := .pointer (some ⟨W.heap.size, 5, none⟩)) rfl (by kernel_rfl) (by kernel_rfl) (by kernel_rfl) (by kernel_rfl) (by kernel_rfl) (fun _ _ _ h => h) (SL.ind (by decide) (by decide) (by decide)) (fun _ _ _ _ => trivial) (Or.inl ⟨by rfl, fun _ _ => rfl⟩) (HS0 _) (HS0 _) ?_
    simp only [Act.put, List.setIfInBounds_toArray, List.set_cons_zero, List.set_cons_succ]
    refine wpAnyL_next (i := 15) (o := { dst := none, op := Op.store _ (Operand.tmp 21) (Operand.tmp 13), type := _, pos := _, after := _, guard := none }) (by kernel_rfl) rfl (by rfl) (fun KK hK => ?_)
    go_simp
    have G2 : (wd.setCell ⟨W.heap.size, 5, none⟩ (.slice oa na ca)).cell? ⟨W.heap.size + 1, 5, none⟩ = some (.slice ob U.length cb) := by rw [World.cell?_setCell_other _ _ _ _ (by intro e; simp only [Addr.mk.injEq] at e; omega)]; exact F2
    have y2 : (wd.setCell ⟨W.heap.size, 5, none⟩ (.slice oa na ca)).frozen? ⟨W.heap.size + 1, 5, none⟩ = false := by rw [froz_set]; exact z2
    obtain ⟨w5, hw5⟩ : ∃ w5, w5 = wd.setCell ⟨W.heap.size, 5, none⟩ (.slice oa na ca) := ⟨_, rfl⟩
    rw [← hw5] at G2 y2 ⊢
    have HW5 := hide hw5
    clear hw5 F1 F2 z1 z2 HS0
    refine unhide hK _ _ (SL.mk1 (getD_self _ _) G2 G2) ?_
    clear hK KK
    try simp only [Act.put, List.setIfInBounds_toArray, List.set_cons_zero, List.set_cons_succ]
    refine wpAnyL_take (fun _ => True) [] (i := 16) (oi := { dst := some 22, op := Op.fieldAddr _ (Operand.tmp 3) 2, type := _, pos := _, after := _, guard := none }) (v := .pointer (some ⟨W.heap.size + 1, 5, none⟩)) rfl (by kernel_rfl) (by kernel_rfl) (by kernel_rfl) (by kernel_rfl) (by kernel_rfl) (fun _ _ _ h => h) (SL.ind (by decide) (by decide) (by decide)) (fun _ _ _ _ => trivial) (Or.inl ⟨by rfl, fun _ _ => rfl⟩) (SL.mk1 (by kernel_rfl) G2 G2) (SL.mk1 (by kernel_rfl) G2 G2) ?_
    simp only [Act.put, List.setIfInBounds_toArray, List.set_cons_zero, List.set_cons_succ]
    refine wpAnyL_next (i := 17) (o := { dst := none, op := Op.store _ (Operand.tmp 22) (Operand.tmp 20), type := _, pos := _, after := _, guard := none }) (by kernel_rfl) rfl (by rfl) (fun KK hK => ?_)
    go_simp
    rw [unhide HW5]
    refine unhide hK _ _ (SL.mk3 (by kernel_rfl) (getD_self _ _) (getD_self _ _)) ?_
    clear hK KK
    try simp only [Act.put, List.setIfInBounds_toArray, List.set_cons_zero, List.set_cons_succ]
    refine wpAnyL_done (by kernel_rfl) ?_ _
    refine NoPanic.normal ?_
    go_wp2
    go_meet
    rw [unhide HWD]
  case rest =>
  subst hcut
  have HP0 := hide ((Blk.set (unhide HA1 : Blk w1.drew W.heap.size (outA A) 36) 5 (.slice oa na ca)).other (r := W.heap.size + 1) 5 (.slice ob nb cb) (by omega))
  have HQ0 := hide ((Blk.other (unhide HB1 : Blk w1.drew (W.heap.size + 1) (outA B) 36) (r := W.heap.size) 5 (.slice oa na ca) (by omega)).set 5 (.slice ob nb cb))
  have HX3 := hide (below_grown (below_grown ((unhide HX1).drew) (grownBy_set w1.drew W.heap.size 5 (.slice oa na ca)) (unhide HX1).drew.size (Nat.le_refl _)) (grownBy_set _ (W.heap.size + 1) 5 (.slice ob nb cb)) (by simp; exact (unhide HX1).size) (by omega))
  generalize (w1.drew.setCell ⟨W.heap.size, 5, none⟩ (.slice oa na ca)).setCell ⟨W.heap.size + 1, 5, none⟩ (.slice ob nb cb) = w3 at HP0 HQ0 HX3 ⊢
  obtain ⟨A', hA'⟩ : ∃ X, setVy A (.slice oa na ca) = X := ⟨_, rfl⟩
  obtain ⟨B', hB'⟩ : ∃ X, setVy B (.slice ob nb cb) = X := ⟨_, rfl⟩
  have HP : Hid (Blk w3 W.heap.size (outA A') 36) := by rw [← hA']; exact unhide HP0
  have HQ : Hid (Blk w3 (W.heap.size + 1) (outA B') 36) := by rw [← hB']; exact unhide HQ0
  have HLA : Hid (VRow w3 A'.vy M) := by rw [← hA']; exact unhide HTKa _ (unhide HX3)
  have HLB : Hid (VRow w3 B'.vy N) := by rw [← hB']; exact unhide HTKb _ (unhide HX3)
  have HX := hide (unhide HX3)
  clear HP0 HQ0 HX3 hA' hB' HA1 HB1 HX1 hEA hEB HTKa HTKb
  go_upto_region 4 with fail
  refine wp_region_noPanic ?_
  refine wp_region_held_drew (S := fun wx => Ext w3 wx) (by kernel_rfl) ((Ext.refl _).drew) (fun HS => ?_)
  refine wpAnyH_take (i := 0) (oi := { dst := some 23, op := Op.load _ (Operand.tmp 2), type := _, pos := _, after := _, guard := none }) (v := .agg (outA A')) rfl (by kernel_rfl) (by kernel_rfl) (by kernel_rfl) (fun _ _ _ h => h) (yieldsIf_load_mid (by rfl) 36 (.tmp 2) rfl W.heap.size 0 rfl (outA A').toList _ (fun wx hx => ((unhide HP).ext hx).rng0) Tryz.underlying36 rfl sizeOut) HS ?_
  simp only [Act.put, List.setIfInBounds_toArray, List.set_cons_zero, List.set_cons_succ]
  refine wpAnyH_take (i := 1) (oi := { dst := some 24, op := Op.load _ (Operand.tmp 3), type := _, pos := _, after := _, guard := none }) (v := .agg (outA B')) rfl (by kernel_rfl) (by kernel_rfl) (by kernel_rfl) (fun _ _ _ h => h) (yieldsIf_load_mid (by rfl) 36 (.tmp 3) rfl (W.heap.size + 1) 0 rfl (outA B').toList _ (fun wx hx => ((unhide HQ).ext hx).rng0) Tryz.underlying36 rfl sizeOut) HS ?_
  simp only [Act.put, List.setIfInBounds_toArray, List.set_cons_zero, List.set_cons_succ]
  refine wpAnyH_take (i := 3) (oi := { dst := some 26, op := Op.load _ (Operand.tmp 2), type := _, pos := _, after := _, guard := none }) (v := .agg (outA A')) rfl (by kernel_rfl) (by kernel_rfl) (by kernel_rfl) (fun _ _ _ h => h) (yieldsIf_load_mid (by rfl) 36 (.tmp 2) rfl W.heap.size 0 rfl (outA A').toList _ (fun wx hx => ((unhide HP).ext hx).rng0) Tryz.underlying36 rfl sizeOut) HS ?_
  simp only [Act.put, List.setIfInBounds_toArray, List.set_cons_zero, List.set_cons_succ]
  refine wpAnyH_take (i := 4) (oi := { dst := some 27, op := Op.load _ (Operand.tmp 3), type := _, pos := _, after := _, guard := none }) (v := .agg (outA B')) rfl (by kernel_rfl) (by kernel_rfl) (by kernel_rfl) (fun _ _ _ h => h) (yieldsIf_load_mid (by rfl) 36 (.tmp 3) rfl (W.heap.size + 1) 0 rfl (outA B').toList _ (fun wx hx => ((unhide HQ).ext hx).rng0) Tryz.underlying36 rfl sizeOut) HS ?_
  simp only [Act.put, List.setIfInBounds_toArray, List.set_cons_zero, List.set_cons_succ]
  refine wpAnyH_ready (rs := [2]) (by kernel_rfl) (by simp) (AllReadyH.cons (o := { dst := some 25, op := Op.call { callee := Callee.value (Operand.func _), args := #[Operand.tmp 23, Operand.tmp 24], argTypes := _ }, type := _, pos := _, after := _, guard := none }) rfl (fun KK hK => ?_) AllReadyH.nil)
  go_simp
  refine (vmSame_any A' B' M N _ ((unhide HLA).ext HS) ((unhide HLB).ext HS) hM20).mono ?_
  rintro e ws ⟨rfl, hxs⟩
  have HS2 := HS.trans hxs
  clear hxs HS
  have HS := HS2
  clear HS2
  refine hK.out _ _ HS (fun _ => ?_)
  clear hK KK
  try simp only [Act.put, List.setIfInBounds_toArray, List.set_cons_zero, List.set_cons_succ]
  refine wpAnyH_ready (rs := [5]) (by kernel_rfl) (by simp) (AllReadyH.cons (o := { dst := some 28, op := Op.call { callee := Callee.value (Operand.func _), args := #[Operand.tmp 26, Operand.tmp 27], argTypes := _ }, type := _, pos := _, after := _, guard := none }) rfl (fun KK hK => ?_) AllReadyH.nil)
  go_simp
  refine (ref15Same_any A' B' M N _ ((unhide HLA).ext HS) ((unhide HLB).ext HS) hM20).mono ?_
  rintro e wt ⟨rfl, hxs⟩
  have HS2 := HS.trans hxs
  clear hxs HS
  have HS := HS2
  clear HS2
  refine hK.out _ _ HS (fun _ => ?_)
  clear hK KK
  try simp only [Act.put, List.setIfInBounds_toArray, List.set_cons_zero, List.set_cons_succ]
  generalize sameO A' B' M N = sb
  refine wpAnyH_take (i := 6) (oi := { dst := some 29, op := Op.binOp BinOp.eql _ (Operand.tmp 25) (Operand.tmp 28) _, type := _, pos := _, after := _, guard := none }) (v := .bool true) rfl (by kernel_rfl) (by kernel_rfl) (by kernel_rfl) (fun _ _ _ h => h) (Or.inl ⟨by rfl, fun wx hx => by go_simp⟩) HS ?_
  simp only [Act.put, List.setIfInBounds_toArray, List.set_cons_zero, List.set_cons_succ]
  refine wpAnyH_take (i := 7) (oi := { dst := some 30, op := Op.move (Operand.tmp 29), type := _, pos := _, after := _, guard := none }) (v := .bool true) rfl (by kernel_rfl) (by kernel_rfl) (by kernel_rfl) (fun _ _ _ h => h) (Or.inl ⟨by rfl, fun _ _ => rfl⟩) HS ?_
  simp only [Act.put, List.setIfInBounds_toArray, List.set_cons_zero, List.set_cons_succ]
  refine wpAnyH_take (i := 8) (oi := { dst := some 31, op := Op.load _ (Operand.tmp 2), type := _, pos := _, after := _, guard := some (7, true) }) (v := .agg (outA A')) rfl (by kernel_rfl) (by kernel_rfl) (by kernel_rfl) (fun _ _ _ h => h) (yieldsIf_load_mid (by rfl) 36 (.tmp 2) rfl W.heap.size 0 rfl (outA A').toList _ (fun wx hx => ((unhide HP).ext hx).rng0) Tryz.underlying36 rfl sizeOut) HS ?_
  simp only [Act.put, List.setIfInBounds_toArray, List.set_cons_zero, List.set_cons_succ]
  refine wpAnyH_take (i := 9) (oi := { dst := some 32, op := Op.load _ (Operand.tmp 2), type := _, pos := _, after := _, guard := some (7, true) }) (v := .agg (outA A')) rfl (by kernel_rfl) (by kernel_rfl) (by kernel_rfl) (fun _ _ _ h => h) (yieldsIf_load_mid (by rfl) 36 (.tmp 2) rfl W.heap.size 0 rfl (outA A').toList _ (fun wx hx => ((unhide HP).ext hx).rng0) Tryz.underlying36 rfl sizeOut) HS ?_
  simp only [Act.put, List.setIfInBounds_toArray, List.set_cons_zero, List.set_cons_succ]
  refine wpAnyH_ready (rs := [10]) (by kernel_rfl) (by simp) (AllReadyH.cons (o := { dst := some 33, op := Op.call { callee := Callee.value (Operand.func _), args := #[Operand.tmp 31, Operand.tmp 32], argTypes := _ }, type := _, pos := _, after := _, guard := some (7, true) }) rfl (fun KK hK => ?_) AllReadyH.nil)
  go_simp
  refine (vmSame_any A' A' M M _ ((unhide HLA).ext HS) ((unhide HLA).ext HS) hM20).mono ?_
  rintro e wu ⟨rfl, hxs⟩
  rw [sameO_self]
  have HS2 := HS.trans hxs
  clear hxs HS
  have HS := HS2
  clear HS2
  refine hK.out _ _ HS (fun _ => ?_)
  clear hK KK
  try simp only [Act.put, List.setIfInBounds_toArray, List.set_cons_zero, List.set_cons_succ]
  refine wpAnyH_take (i := 11) (oi := { dst := some 34, op := Op.pick (Operand.tmp 30) (Operand.tmp 33) (Operand.const (Value.bool false)), type := _, pos := _, after := _, guard := none }) (v := .bool true) rfl (by kernel_rfl) (by kernel_rfl) (by kernel_rfl) (fun _ _ _ h => h) (Or.inl ⟨by rfl, fun _ _ => rfl⟩) HS ?_
  simp only [Act.put, List.setIfInBounds_toArray, List.set_cons_zero, List.set_cons_succ]
  refine wpAnyH_take (i := 12) (oi := { dst := some 4, op := Op.assign (Operand.tmp 34), type := _, pos := _, after := _, guard := none }) (v := .bool true) rfl (by kernel_rfl) (by kernel_rfl) (by kernel_rfl) (fun _ _ _ h => h) (Or.inl ⟨by rfl, fun _ _ => rfl⟩) HS ?_
  simp only [Act.put, List.setIfInBounds_toArray, List.set_cons_zero, List.set_cons_succ]
  refine wpAnyH_done (by kernel_rfl) ?_ _
  refine NoPanic.normal ?_
  go_wp2
  go_ret
  exact ⟨rfl, (show Ext W w3 from unhide HX).trans HS⟩

/-- Eleven cells that came in as a result. -/
theorem cells_resE : Tryz.prog.cellsOf 36 = 11 := by kernel_rfl
theorem cells_fixE : Tryz.prog.cellsOf 26 = 1 := by kernel_rfl
theorem array11 {α : Type} {cs : Array α} (h : cs.size = 11) : ∃ c0 c1 c2 c3 c4 c5 c6 c7 c8 c9 c10, cs = #[c0, c1, c2, c3, c4, c5, c6, c7, c8, c9, c10] := by
  obtain ⟨l⟩ := cs
  match l, h with
  | [c0, c1, c2, c3, c4, c5, c6, c7, c8, c9, c10], _ => exact ⟨c0, c1, c2, c3, c4, c5, c6, c7, c8, c9, c10, rfl⟩
section
variable {H : Type} {enc : TypeId × Value → H}
set_option maxRecDepth 100000 in
theorem open_res {W : World} {base : Nat} {v : Value} {d : DataW H} {p : List MemPlace} (hv : Value.okWide Tryz.prog W .any base 36 v) (h : DataW.Trod enc Tryz.prog W 0 (fun _ => true) true 36 v d p) :
    ∃ (A : OutC) (V : List (Nat → Int)), v = .agg (outA A) ∧ VIn W A.vy V := by
  obtain ⟨cs, rfl, hsz⟩ := okWide_struct Tryz.underlying36 hv
  rw [cells_resE] at hsz
  obtain ⟨c0, c1, c2, c3, c4, c5, c6, c7, c8, c9, c10, rfl⟩ := array11 hsz
  obtain ⟨fuel, hf⟩ := h
  have hf2 : DataW.trod enc Tryz.prog W 0 (fun _ => true) true fuel 36 [c0, c1, c2, c3, c4, c5, c6, c7, c8, c9, c10] = some (d, p) := by simpa [Value.cells] using hf
  obtain ⟨xs, n, _, hx, hl, hlen, hfs⟩ := DataW.trod_struct Tryz.underlying36 hf2
  match xs, hlen with
  | [y0, y1, y2, y3, y4], _ =>
    have t0 : DataW.trod enc Tryz.prog W 0 (fun _ => true) true n 28 [c0, c1, c2, c3] = some y0 := by simpa [cells_vecE] using hfs 0 _ rfl
    have t1 : DataW.trod enc Tryz.prog W 0 (fun _ => true) true n 26 [c4] = some y1 := by simpa [cells_fixE] using hfs 1 _ rfl
    have t2 : DataW.trod enc Tryz.prog W 0 (fun _ => true) true n 25 [c5] = some y2 := by simpa [cells_vecsE] using hfs 2 _ rfl
    have t3 : DataW.trod enc Tryz.prog W 0 (fun _ => true) true n 28 [c6, c7, c8, c9] = some y3 := by simpa [cells_vecE] using hfs 3 _ rfl
    have t4 : DataW.trod enc Tryz.prog W 0 (fun _ => true) true n 4 [c10] = some y4 := by simpa [cells_boolE] using hfs 4 _ rfl
    obtain ⟨a, rfl, rfl, rfl, rfl, ha⟩ := four_cells t0
    obtain ⟨z, e1, _⟩ := DataW.trod_int Tryz.underlying26 t1
    obtain ⟨V, hV⟩ := open_vecs t2
    obtain ⟨b, rfl, rfl, rfl, rfl, hb⟩ := four_cells t3
    obtain ⟨q, e4, _⟩ := DataW.trod_bool Tryz.underlying4 t4
    simp only [List.cons.injEq, and_true] at e1 e4
    subst e1 e4
    exact ⟨⟨a, z, c5, b, q⟩, V, rfl, hV⟩
end

set_option maxRecDepth 100000 in
theorem vmsame_owes (H : Type) (enc : TypeId × Value → H) (W : World) (base : Nat) (args : Array Value) (ds : List (DataW H)) (p : List MemPlace) : Owes H enc Tryz.prog 5 Tryz.f5 Rows.vmSameSpec W base args ds p := by
  intro hval hA hsz
  rw [Tryz.params5] at hA hval hsz
  obtain ⟨v0, vs0, d0, ds0, p0, q0, hargs, rfl, rfl, h0, r0⟩ := trodAll_cons hA
  obtain ⟨v1, vs1, d1, ds1, p1, q1, rfl, rfl, rfl, h1, r1⟩ := trodAll_cons r0
  obtain ⟨rfl, rfl, rfl⟩ := trodAll_nil r1
  obtain rfl : args = #[v0, v1] := by cases args; simp_all
  obtain ⟨A, V, rfl, hV⟩ := open_res (hval 0 36 v0 rfl rfl) h0
  obtain ⟨B, U, rfl, hU⟩ := open_res (hval 1 36 v1 rfl rfl) h1
  refine ⟨⟨rfl, rfl, rfl⟩, ?_⟩
  exact vmSameLaw_any A B V U W hV hU

set_option maxRecDepth 100000 in
theorem vmsame_lifted (os : Os) (started : os.Started) (H : Type) (enc : TypeId × Value → H) :
    ReturnsInHanded {} Tryz.checked os 5 .any (Rows.vmSameSpec.pre6 enc Tryz.prog Tryz.f5 [] false) (Rows.vmSameSpec.post enc Tryz.prog Tryz.f5 false true false false) :=
  lift_law (C := Tryz.checked) own laidOut started (by kernel_rfl) Tryz.func5 (T := 4) rfl Tryz.underlying4 rfl (by kernel_rfl)
    (ChangeSpec.witness6 (enc := enc) (C := Tryz.checked) false ⟨#[], #[.agg #[.int .i32 0, .int .i32 0, .int .i32 0, .int .i32 0, .int .i32 0, .slice none 0 0, .int .i32 0, .int .i32 0, .int .i32 0, .int .i32 0, .bool false], .agg #[.int .i32 0, .int .i32 0, .int .i32 0, .int .i32 0, .int .i32 0, .slice none 0 0, .int .i32 0, .int .i32 0, .int .i32 0, .int .i32 0, .bool false]], []⟩ 8 (by kernel_rfl) (by kernel_rfl) (by kernel_rfl) (by kernel_rfl)) (vmsame_owes H enc)

theorem vmSame_holds : Rows.VmSameSaid :=
  OpenClaim.holds_of_wide 5 Tryz.f5 rfl rfl rfl rfl rfl rfl rfl ⟨rfl, rfl, rfl, rfl, rfl⟩ rfl rfl rfl rfl rfl (by kernel_rfl) Tryz.func5 (by kernel_rfl)
    (of_decide_eq_true (by kernel_rfl)) (by unfold Func.isWrapper; rw [if_neg (of_decide_eq_false (by kernel_rfl))]; exact ⟨rfl, rfl⟩)
    (fun os started H enc _ => vmsame_lifted os started H enc)
#print axioms vmSame_holds
end Go.Proofs.YtglfhmlcmffoaaaGreat
