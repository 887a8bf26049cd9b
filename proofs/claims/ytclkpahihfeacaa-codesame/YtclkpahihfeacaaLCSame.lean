/-
  The statement CodeSame: which codes are the same. No conditions.
-/
import Derived.Test.YtclkpahihfeacaaCFy
import Derived.Test.YtclkpahihfeacaaFrC
namespace Go.Proofs.Ytclkpahihfeacaa
open Go.ChangeShapes Go.WideShapes Go.ChangeAt Go.RowKit
set_option linter.unusedVariables false
set_option linter.unusedSimpArgs false

theorem sameC_self (C : Cod) : sameC C C = true := (sameC_iff C C).2 ⟨rfl, rfl, rfl, rfl, rfl, rfl, fun _ _ _ _ => rfl⟩
theorem few_read {w : World} {b : Nat} {am : Option Addr} {cm : Nat} {L : List (Nat → Int)} (h : OI w b (.slice am (L.length + 1) cm) (L ++ [i77])) : IR w (.slice am L.length cm) L := by
  have h2 := h.ir.take L.length (by simp)
  simpa using h2
def FewR (F : Cod) (wx : World) (e : Ending) (w' : World) : Prop := ∃ am cm, e = .returned (.agg #[.int .i64 (F).stage, .slice am F.ins.length cm, .int .i64 (F).regs, .int .i64 (F).attr, .int .i64 (F).unif, .int .i64 (F).vary]) ∧ OI w' wx.heap.size (.slice am (F.ins.length + 1) cm) (F.ins ++ [i77]) ∧ Ext wx w'

set_option maxRecDepth 10000 in
set_option maxHeartbeats 8000000 in
theorem codeSame_walk (C D : Cod) (v u : Value) (w : World) (hC : IR w v C.ins) (hD : IR w u D.ins) : Calls Try.prog 6 #[.agg #[.int .i64 (C).stage, v, .int .i64 (C).regs, .int .i64 (C).attr, .int .i64 (C).unif, .int .i64 (C).vary], .agg #[.int .i64 (D).stage, u, .int .i64 (D).regs, .int .i64 (D).attr, .int .i64 (D).unif, .int .i64 (D).vary]] w fun e w' => e = .returned (.bool true) ∧ Ext w w' := by
  have HA := hide hC
  have HB := hide hD
  obtain ⟨ao, ca, rfl, _⟩ := hC
  obtain ⟨bo, cb, rfl, _⟩ := hD
  have HX : Hid (Ext w ((w.alloc (.cells #[.int .i64 (C).stage, .slice ao C.ins.length ca, .int .i64 (C).regs, .int .i64 (C).attr, .int .i64 (C).unif, .int .i64 (C).vary] 26)).alloc (.cells #[.int .i64 (D).stage, .slice bo D.ins.length cb, .int .i64 (D).regs, .int .i64 (D).attr, .int .i64 (D).unif, .int .i64 (D).vary] 26))) := ((Ext.refl w).alloc _).alloc _
  have HCA : Hid (Blk ((w.alloc (.cells #[.int .i64 (C).stage, .slice ao C.ins.length ca, .int .i64 (C).regs, .int .i64 (C).attr, .int .i64 (C).unif, .int .i64 (C).vary] 26)).alloc (.cells #[.int .i64 (D).stage, .slice bo D.ins.length cb, .int .i64 (D).regs, .int .i64 (D).attr, .int .i64 (D).unif, .int .i64 (D).vary] 26)) w.heap.size #[.int .i64 (C).stage, .slice ao C.ins.length ca, .int .i64 (C).regs, .int .i64 (C).attr, .int .i64 (C).unif, .int .i64 (C).vary] 26) := (Blk.new w _ _).alloc _
  have HCB : Hid (Blk ((w.alloc (.cells #[.int .i64 (C).stage, .slice ao C.ins.length ca, .int .i64 (C).regs, .int .i64 (C).attr, .int .i64 (C).unif, .int .i64 (C).vary] 26)).alloc (.cells #[.int .i64 (D).stage, .slice bo D.ins.length cb, .int .i64 (D).regs, .int .i64 (D).attr, .int .i64 (D).unif, .int .i64 (D).vary] 26)) (w.heap.size + 1) #[.int .i64 (D).stage, .slice bo D.ins.length cb, .int .i64 (D).regs, .int .i64 (D).attr, .int .i64 (D).unif, .int .i64 (D).vary] 26) := Blk.here (by simp)
  obtain ⟨F, hF⟩ : ∃ F, F = fewC C := ⟨_, rfl⟩
  obtain ⟨G, hG⟩ : ∃ G, G = fewC D := ⟨_, rfl⟩
  have HFL : Hid (F.ins.length ≤ 4097) := by
    show F.ins.length ≤ 4097
    rw [hF]; unfold fewC
    simp only [List.length_take]; omega
  have HFC : Hid (∀ wx, Ext w wx → Calls Try.prog 18 #[.agg #[.int .i64 (C).stage, .slice ao C.ins.length ca, .int .i64 (C).regs, .int .i64 (C).attr, .int .i64 (C).unif, .int .i64 (C).vary]] wx (FewR F wx)) := fun wx hx => by subst hF; exact few_any C _ wx ((unhide HA).ext hx)
  have HFD : Hid (∀ wx, Ext w wx → Calls Try.prog 18 #[.agg #[.int .i64 (D).stage, .slice bo D.ins.length cb, .int .i64 (D).regs, .int .i64 (D).attr, .int .i64 (D).unif, .int .i64 (D).vary]] wx (FewR G wx)) := fun wx hx => by subst hG; exact few_any D _ wx ((unhide HB).ext hx)
  clear hF hG HA HB
  go_enter Try.func6, Try.ntmps6
  go_wp2_with (go_at_call 9999)
  generalize ((w.alloc (.cells #[.int .i64 (C).stage, .slice ao C.ins.length ca, .int .i64 (C).regs, .int .i64 (C).attr, .int .i64 (C).unif, .int .i64 (C).vary] 26)).alloc (.cells #[.int .i64 (D).stage, .slice bo D.ins.length cb, .int .i64 (D).regs, .int .i64 (D).attr, .int .i64 (D).unif, .int .i64 (D).vary] 26)) = w2 at HCA HCB HX ⊢
  refine (wakes_any _).mono ?_
  rintro e w1 ⟨rfl, hx1⟩
  have HCA := hide ((unhide HCA).ext hx1)
  have HCB := hide ((unhide HCB).ext hx1)
  have HX := hide ((unhide HX).trans hx1)
  clear hx1
  go_upto_region 3 with fail
  go_cut [7] (fun p wc => ∃ (am : Option Addr) (cm : Nat) (an : Option Addr) (cn : Nat), Blk wc w.heap.size #[.int .i64 (F).stage, .slice am F.ins.length cm, .int .i64 (F).regs, .int .i64 (F).attr, .int .i64 (F).unif, .int .i64 (F).vary] 26 ∧ Blk wc (w.heap.size + 1) #[.int .i64 (G).stage, .slice an G.ins.length cn, .int .i64 (G).regs, .int .i64 (G).attr, .int .i64 (G).unif, .int .i64 (G).vary] 26 ∧ IR wc (.slice am F.ins.length cm) F.ins ∧ IR wc (.slice an G.ins.length cn) G.ins ∧ Ext w wc)
  case first =>
    refine wp_region_noPanic ?_
    refine wp_region_held_drew (S := fun wx => Ext w wx) (by kernel_rfl) ((unhide HX).drew) (fun HS => ?_)
    have HCA2 : Hid (Blk w1.drew w.heap.size #[.int .i64 (C).stage, .slice ao C.ins.length ca, .int .i64 (C).regs, .int .i64 (C).attr, .int .i64 (C).unif, .int .i64 (C).vary] 26) := unhide HCA
    have HCB2 : Hid (Blk w1.drew (w.heap.size + 1) #[.int .i64 (D).stage, .slice bo D.ins.length cb, .int .i64 (D).regs, .int .i64 (D).attr, .int .i64 (D).unif, .int .i64 (D).vary] 26) := unhide HCB
    clear HCA
    have HCA := HCA2
    clear HCA2
    clear HCB
    have HCB := HCB2
    clear HCB2
    generalize w1.drew = wa at HS HCA HCB ⊢
    refine wpAnyH_ready (rs := [0, 2]) (by kernel_rfl) (by simp) (AllReadyH.cons (o := { dst := some 7, op := Op.load _ (Operand.tmp 2), type := _, pos := _, after := _, guard := none }) rfl (fun KK hK => ?_) (AllReadyH.cons (o := { dst := some 9, op := Op.load _ (Operand.tmp 3), type := _, pos := _, after := _, guard := none }) rfl (fun KK hK => ?_) AllReadyH.nil))
    · refine Eq.mpr (if_pos (by rfl)) ?_
      refine wp_load_row 26 (.tmp 2) rfl w.heap.size rfl 26 #[.int .i64 (C).stage, .slice ao C.ins.length ca, .int .i64 (C).regs, .int .i64 (C).attr, .int .i64 (C).unif, .int .i64 (C).vary] (0, 0) _ (unhide HCA) Try.underlying26 rfl size6 ?_
      refine hK.out _ _ HS (fun _ => ?_)
      clear hK KK
      try simp only [Act.put, List.setIfInBounds_toArray, List.set_cons_zero, List.set_cons_succ]
      refine wpAnyH_ready (rs := [1, 2]) (by kernel_rfl) (by simp) (AllReadyH.cons (o := { dst := some 8, op := Op.call { callee := Callee.value (Operand.func _), args := #[Operand.tmp 7], argTypes := _ }, type := _, pos := _, after := _, guard := none }) rfl (fun KK hK => ?_) (AllReadyH.cons (o := { dst := some 9, op := Op.load _ (Operand.tmp 3), type := _, pos := _, after := _, guard := none }) rfl (fun KK hK => ?_) AllReadyH.nil))
      · go_simp
        refine (unhide HFC _ HS).mono ?_
        rintro e ws ⟨am, cm, rfl, hio, hxs⟩
        have HIF := hide hio
        have HCA2 := hide ((unhide HCA).ext hxs)
        have HCB2 := hide ((unhide HCB).ext hxs)
        have HS2 := HS.trans hxs
        clear hio hxs
        clear HCA
        have HCA := HCA2
        clear HCA2
        clear HCB
        have HCB := HCB2
        clear HCB2
        clear HS
        have HS := HS2
        clear HS2
        refine hK.out _ _ HS (fun _ => ?_)
        clear hK KK
        try simp only [Act.put, List.setIfInBounds_toArray, List.set_cons_zero, List.set_cons_succ]
        refine wpAnyH_ready (rs := [2]) (by kernel_rfl) (by simp) (AllReadyH.cons (o := { dst := some 9, op := Op.load _ (Operand.tmp 3), type := _, pos := _, after := _, guard := none }) rfl (fun KK hK => ?_) AllReadyH.nil)
        refine Eq.mpr (if_pos (by rfl)) ?_
        refine wp_load_row 26 (.tmp 3) rfl (w.heap.size + 1) rfl 26 #[.int .i64 (D).stage, .slice bo D.ins.length cb, .int .i64 (D).regs, .int .i64 (D).attr, .int .i64 (D).unif, .int .i64 (D).vary] (0, 0) _ (unhide HCB) Try.underlying26 rfl size6 ?_
        refine hK.out _ _ HS (fun _ => ?_)
        clear hK KK
        try simp only [Act.put, List.setIfInBounds_toArray, List.set_cons_zero, List.set_cons_succ]
        refine wpAnyH_ready (rs := [3]) (by kernel_rfl) (by simp) (AllReadyH.cons (o := { dst := some 10, op := Op.call { callee := Callee.value (Operand.func _), args := #[Operand.tmp 9], argTypes := _ }, type := _, pos := _, after := _, guard := none }) rfl (fun KK hK => ?_) AllReadyH.nil)
        go_simp
        refine (unhide HFD _ HS).mono ?_
        rintro e wt ⟨an, cn, rfl, hio, hxs⟩
        have HIG := hide hio
        have HIF2 := hide ((unhide HIF).ext hxs)
        have HCA2 := hide ((unhide HCA).ext hxs)
        have HCB2 := hide ((unhide HCB).ext hxs)
        have HS2 := HS.trans hxs
        clear hio hxs
        clear HCA
        have HCA := HCA2
        clear HCA2
        clear HCB
        have HCB := HCB2
        clear HCB2
        clear HIF
        have HIF := HIF2
        clear HIF2
        clear HS
        have HS := HS2
        clear HS2
        refine hK.out _ _ HS (fun _ => ?_)
        clear hK KK
        try simp only [Act.put, List.setIfInBounds_toArray, List.set_cons_zero, List.set_cons_succ]
        refine wpAnyH_ready (rs := [4]) (by kernel_rfl) (by simp) (AllReadyH.cons (o := { dst := none, op := Op.store _ (Operand.tmp 2) (Operand.tmp 8), type := _, pos := _, after := _, guard := none }) rfl (fun KK hK => ?_) AllReadyH.nil)
        refine Eq.mpr (if_pos (by rfl)) ?_
        refine wp_store_row 26 (.tmp 2) (.tmp 8) rfl w.heap.size #[.int .i64 (F).stage, .slice am F.ins.length cm, .int .i64 (F).regs, .int .i64 (F).attr, .int .i64 (F).unif, .int .i64 (F).vary] rfl rfl 26 _ (unhide HCA) size6 rfl (by simp [Value.oneCell']) ?_
        have HIF2 := hide ((unhide HIF).kept9 (grownBy_row _ _ #[.int .i64 (F).stage, .slice am F.ins.length cm, .int .i64 (F).regs, .int .i64 (F).attr, .int .i64 (F).unif, .int .i64 (F).vary]) ((unhide HIF).neB (unhide HCA) (by decide)))
        have HIG2 := hide ((unhide HIG).kept9 (grownBy_row _ _ #[.int .i64 (F).stage, .slice am F.ins.length cm, .int .i64 (F).regs, .int .i64 (F).attr, .int .i64 (F).unif, .int .i64 (F).vary]) ((unhide HIG).neB (unhide HCA) (by decide)))
        have HCA2 := hide ((unhide HCA).rowC (cs' := #[.int .i64 (F).stage, .slice am F.ins.length cm, .int .i64 (F).regs, .int .i64 (F).attr, .int .i64 (F).unif, .int .i64 (F).vary]))
        have HCB2 := hide ((unhide HCB).rowO (r := w.heap.size) (cs' := #[.int .i64 (F).stage, .slice am F.ins.length cm, .int .i64 (F).regs, .int .i64 (F).attr, .int .i64 (F).unif, .int .i64 (F).vary]) (by omega))
        have HS2 := extRow (b := w.heap.size) (cs := #[.int .i64 (F).stage, .slice am F.ins.length cm, .int .i64 (F).regs, .int .i64 (F).attr, .int .i64 (F).unif, .int .i64 (F).vary]) HS (by omega)
        clear HCA
        have HCA := HCA2
        clear HCA2
        clear HCB
        have HCB := HCB2
        clear HCB2
        clear HIF
        have HIF := HIF2
        clear HIF2
        clear HIG
        have HIG := HIG2
        clear HIG2
        clear HS
        have HS := HS2
        clear HS2
        refine hK.out _ _ HS (fun _ => ?_)
        clear hK KK
        try simp only [Act.put, List.setIfInBounds_toArray, List.set_cons_zero, List.set_cons_succ]
        refine wpAnyH_ready (rs := [5]) (by kernel_rfl) (by simp) (AllReadyH.cons (o := { dst := none, op := Op.store _ (Operand.tmp 3) (Operand.tmp 10), type := _, pos := _, after := _, guard := none }) rfl (fun KK hK => ?_) AllReadyH.nil)
        refine Eq.mpr (if_pos (by rfl)) ?_
        refine wp_store_row 26 (.tmp 3) (.tmp 10) rfl (w.heap.size + 1) #[.int .i64 (G).stage, .slice an G.ins.length cn, .int .i64 (G).regs, .int .i64 (G).attr, .int .i64 (G).unif, .int .i64 (G).vary] rfl rfl 26 _ (unhide HCB) size6 rfl (by simp [Value.oneCell']) ?_
        have HIF2 := hide ((unhide HIF).kept9 (grownBy_row _ _ #[.int .i64 (G).stage, .slice an G.ins.length cn, .int .i64 (G).regs, .int .i64 (G).attr, .int .i64 (G).unif, .int .i64 (G).vary]) ((unhide HIF).neB (unhide HCB) (by decide)))
        have HIG2 := hide ((unhide HIG).kept9 (grownBy_row _ _ #[.int .i64 (G).stage, .slice an G.ins.length cn, .int .i64 (G).regs, .int .i64 (G).attr, .int .i64 (G).unif, .int .i64 (G).vary]) ((unhide HIG).neB (unhide HCB) (by decide)))
        have HCA2 := hide ((unhide HCA).rowO (r := (w.heap.size + 1)) (cs' := #[.int .i64 (G).stage, .slice an G.ins.length cn, .int .i64 (G).regs, .int .i64 (G).attr, .int .i64 (G).unif, .int .i64 (G).vary]) (by omega))
        have HCB2 := hide ((unhide HCB).rowC (cs' := #[.int .i64 (G).stage, .slice an G.ins.length cn, .int .i64 (G).regs, .int .i64 (G).attr, .int .i64 (G).unif, .int .i64 (G).vary]))
        have HS2 := extRow (b := (w.heap.size + 1)) (cs := #[.int .i64 (G).stage, .slice an G.ins.length cn, .int .i64 (G).regs, .int .i64 (G).attr, .int .i64 (G).unif, .int .i64 (G).vary]) HS (by omega)
        clear HCA
        have HCA := HCA2
        clear HCA2
        clear HCB
        have HCB := HCB2
        clear HCB2
        clear HIF
        have HIF := HIF2
        clear HIF2
        clear HIG
        have HIG := HIG2
        clear HIG2
        clear HS
        have HS := HS2
        clear HS2
        refine hK.out _ _ HS (fun _ => ?_)
        clear hK KK
        try simp only [Act.put, List.setIfInBounds_toArray, List.set_cons_zero, List.set_cons_succ]
        refine wpAnyH_done (by kernel_rfl) ?_ _
        refine NoPanic.normal ?_
        go_wp2
        go_meet
        exact ⟨am, cm, an, cn, unhide HCA, unhide HCB, few_read (unhide HIF), few_read (unhide HIG), HS⟩
      · refine Eq.mpr (if_pos (by rfl)) ?_
        refine wp_load_row 26 (.tmp 3) rfl (w.heap.size + 1) rfl 26 #[.int .i64 (D).stage, .slice bo D.ins.length cb, .int .i64 (D).regs, .int .i64 (D).attr, .int .i64 (D).unif, .int .i64 (D).vary] (0, 0) _ (unhide HCB) Try.underlying26 rfl size6 ?_
        refine hK.out _ _ HS (fun _ => ?_)
        clear hK KK
        try simp only [Act.put, List.setIfInBounds_toArray, List.set_cons_zero, List.set_cons_succ]
        refine wpAnyH_ready (rs := [1]) (by kernel_rfl) (by simp) (AllReadyH.cons (o := { dst := some 8, op := Op.call { callee := Callee.value (Operand.func _), args := #[Operand.tmp 7], argTypes := _ }, type := _, pos := _, after := _, guard := none }) rfl (fun KK hK => ?_) AllReadyH.nil)
        go_simp
        refine (unhide HFC _ HS).mono ?_
        rintro e ws ⟨am, cm, rfl, hio, hxs⟩
        have HIF := hide hio
        have HCA2 := hide ((unhide HCA).ext hxs)
        have HCB2 := hide ((unhide HCB).ext hxs)
        have HS2 := HS.trans hxs
        clear hio hxs
        clear HCA
        have HCA := HCA2
        clear HCA2
        clear HCB
        have HCB := HCB2
        clear HCB2
        clear HS
        have HS := HS2
        clear HS2
        refine hK.out _ _ HS (fun _ => ?_)
        clear hK KK
        try simp only [Act.put, List.setIfInBounds_toArray, List.set_cons_zero, List.set_cons_succ]
        refine wpAnyH_ready (rs := [3]) (by kernel_rfl) (by simp) (AllReadyH.cons (o := { dst := some 10, op := Op.call { callee := Callee.value (Operand.func _), args := #[Operand.tmp 9], argTypes := _ }, type := _, pos := _, after := _, guard := none }) rfl (fun KK hK => ?_) AllReadyH.nil)
        go_simp
        refine (unhide HFD _ HS).mono ?_
        rintro e wt ⟨an, cn, rfl, hio, hxs⟩
        have HIG := hide hio
        have HIF2 := hide ((unhide HIF).ext hxs)
        have HCA2 := hide ((unhide HCA).ext hxs)
        have HCB2 := hide ((unhide HCB).ext hxs)
        have HS2 := HS.trans hxs
        clear hio hxs
        clear HCA
        have HCA := HCA2
        clear HCA2
        clear HCB
        have HCB := HCB2
        clear HCB2
        clear HIF
        have HIF := HIF2
        clear HIF2
        clear HS
        have HS := HS2
        clear HS2
        refine hK.out _ _ HS (fun _ => ?_)
        clear hK KK
        try simp only [Act.put, List.setIfInBounds_toArray, List.set_cons_zero, List.set_cons_succ]
        refine wpAnyH_ready (rs := [4]) (by kernel_rfl) (by simp) (AllReadyH.cons (o := { dst := none, op := Op.store _ (Operand.tmp 2) (Operand.tmp 8), type := _, pos := _, after := _, guard := none }) rfl (fun KK hK => ?_) AllReadyH.nil)
        refine Eq.mpr (if_pos (by rfl)) ?_
        refine wp_store_row 26 (.tmp 2) (.tmp 8) rfl w.heap.size #[.int .i64 (F).stage, .slice am F.ins.length cm, .int .i64 (F).regs, .int .i64 (F).attr, .int .i64 (F).unif, .int .i64 (F).vary] rfl rfl 26 _ (unhide HCA) size6 rfl (by simp [Value.oneCell']) ?_
        have HIF2 := hide ((unhide HIF).kept9 (grownBy_row _ _ #[.int .i64 (F).stage, .slice am F.ins.length cm, .int .i64 (F).regs, .int .i64 (F).attr, .int .i64 (F).unif, .int .i64 (F).vary]) ((unhide HIF).neB (unhide HCA) (by decide)))
        have HIG2 := hide ((unhide HIG).kept9 (grownBy_row _ _ #[.int .i64 (F).stage, .slice am F.ins.length cm, .int .i64 (F).regs, .int .i64 (F).attr, .int .i64 (F).unif, .int .i64 (F).vary]) ((unhide HIG).neB (unhide HCA) (by decide)))
        have HCA2 := hide ((unhide HCA).rowC (cs' := #[.int .i64 (F).stage, .slice am F.ins.length cm, .int .i64 (F).regs, .int .i64 (F).attr, .int .i64 (F).unif, .int .i64 (F).vary]))
        have HCB2 := hide ((unhide HCB).rowO (r := w.heap.size) (cs' := #[.int .i64 (F).stage, .slice am F.ins.length cm, .int .i64 (F).regs, .int .i64 (F).attr, .int .i64 (F).unif, .int .i64 (F).vary]) (by omega))
        have HS2 := extRow (b := w.heap.size) (cs := #[.int .i64 (F).stage, .slice am F.ins.length cm, .int .i64 (F).regs, .int .i64 (F).attr, .int .i64 (F).unif, .int .i64 (F).vary]) HS (by omega)
        clear HCA
        have HCA := HCA2
        clear HCA2
        clear HCB
        have HCB := HCB2
        clear HCB2
        clear HIF
        have HIF := HIF2
        clear HIF2
        clear HIG
        have HIG := HIG2
        clear HIG2
        clear HS
        have HS := HS2
        clear HS2
        refine hK.out _ _ HS (fun _ => ?_)
        clear hK KK
        try simp only [Act.put, List.setIfInBounds_toArray, List.set_cons_zero, List.set_cons_succ]
        refine wpAnyH_ready (rs := [5]) (by kernel_rfl) (by simp) (AllReadyH.cons (o := { dst := none, op := Op.store _ (Operand.tmp 3) (Operand.tmp 10), type := _, pos := _, after := _, guard := none }) rfl (fun KK hK => ?_) AllReadyH.nil)
        refine Eq.mpr (if_pos (by rfl)) ?_
        refine wp_store_row 26 (.tmp 3) (.tmp 10) rfl (w.heap.size + 1) #[.int .i64 (G).stage, .slice an G.ins.length cn, .int .i64 (G).regs, .int .i64 (G).attr, .int .i64 (G).unif, .int .i64 (G).vary] rfl rfl 26 _ (unhide HCB) size6 rfl (by simp [Value.oneCell']) ?_
        have HIF2 := hide ((unhide HIF).kept9 (grownBy_row _ _ #[.int .i64 (G).stage, .slice an G.ins.length cn, .int .i64 (G).regs, .int .i64 (G).attr, .int .i64 (G).unif, .int .i64 (G).vary]) ((unhide HIF).neB (unhide HCB) (by decide)))
        have HIG2 := hide ((unhide HIG).kept9 (grownBy_row _ _ #[.int .i64 (G).stage, .slice an G.ins.length cn, .int .i64 (G).regs, .int .i64 (G).attr, .int .i64 (G).unif, .int .i64 (G).vary]) ((unhide HIG).neB (unhide HCB) (by decide)))
        have HCA2 := hide ((unhide HCA).rowO (r := (w.heap.size + 1)) (cs' := #[.int .i64 (G).stage, .slice an G.ins.length cn, .int .i64 (G).regs, .int .i64 (G).attr, .int .i64 (G).unif, .int .i64 (G).vary]) (by omega))
        have HCB2 := hide ((unhide HCB).rowC (cs' := #[.int .i64 (G).stage, .slice an G.ins.length cn, .int .i64 (G).regs, .int .i64 (G).attr, .int .i64 (G).unif, .int .i64 (G).vary]))
        have HS2 := extRow (b := (w.heap.size + 1)) (cs := #[.int .i64 (G).stage, .slice an G.ins.length cn, .int .i64 (G).regs, .int .i64 (G).attr, .int .i64 (G).unif, .int .i64 (G).vary]) HS (by omega)
        clear HCA
        have HCA := HCA2
        clear HCA2
        clear HCB
        have HCB := HCB2
        clear HCB2
        clear HIF
        have HIF := HIF2
        clear HIF2
        clear HIG
        have HIG := HIG2
        clear HIG2
        clear HS
        have HS := HS2
        clear HS2
        refine hK.out _ _ HS (fun _ => ?_)
        clear hK KK
        try simp only [Act.put, List.setIfInBounds_toArray, List.set_cons_zero, List.set_cons_succ]
        refine wpAnyH_done (by kernel_rfl) ?_ _
        refine NoPanic.normal ?_
        go_wp2
        go_meet
        exact ⟨am, cm, an, cn, unhide HCA, unhide HCB, few_read (unhide HIF), few_read (unhide HIG), HS⟩
    · refine Eq.mpr (if_pos (by rfl)) ?_
      refine wp_load_row 26 (.tmp 3) rfl (w.heap.size + 1) rfl 26 #[.int .i64 (D).stage, .slice bo D.ins.length cb, .int .i64 (D).regs, .int .i64 (D).attr, .int .i64 (D).unif, .int .i64 (D).vary] (0, 0) _ (unhide HCB) Try.underlying26 rfl size6 ?_
      refine hK.out _ _ HS (fun _ => ?_)
      clear hK KK
      try simp only [Act.put, List.setIfInBounds_toArray, List.set_cons_zero, List.set_cons_succ]
      refine wpAnyH_ready (rs := [0]) (by kernel_rfl) (by simp) (AllReadyH.cons (o := { dst := some 7, op := Op.load _ (Operand.tmp 2), type := _, pos := _, after := _, guard := none }) rfl (fun KK hK => ?_) AllReadyH.nil)
      refine Eq.mpr (if_pos (by rfl)) ?_
      refine wp_load_row 26 (.tmp 2) rfl w.heap.size rfl 26 #[.int .i64 (C).stage, .slice ao C.ins.length ca, .int .i64 (C).regs, .int .i64 (C).attr, .int .i64 (C).unif, .int .i64 (C).vary] (0, 0) _ (unhide HCA) Try.underlying26 rfl size6 ?_
      refine hK.out _ _ HS (fun _ => ?_)
      clear hK KK
      try simp only [Act.put, List.setIfInBounds_toArray, List.set_cons_zero, List.set_cons_succ]
      refine wpAnyH_ready (rs := [1]) (by kernel_rfl) (by simp) (AllReadyH.cons (o := { dst := some 8, op := Op.call { callee := Callee.value (Operand.func _), args := #[Operand.tmp 7], argTypes := _ }, type := _, pos := _, after := _, guard := none }) rfl (fun KK hK => ?_) AllReadyH.nil)
      go_simp
      refine (unhide HFC _ HS).mono ?_
      rintro e ws ⟨am, cm, rfl, hio, hxs⟩
      have HIF := hide hio
      have HCA2 := hide ((unhide HCA).ext hxs)
      have HCB2 := hide ((unhide HCB).ext hxs)
      have HS2 := HS.trans hxs
      clear hio hxs
      clear HCA
      have HCA := HCA2
      clear HCA2
      clear HCB
      have HCB := HCB2
      clear HCB2
      clear HS
      have HS := HS2
      clear HS2
      refine hK.out _ _ HS (fun _ => ?_)
      clear hK KK
      try simp only [Act.put, List.setIfInBounds_toArray, List.set_cons_zero, List.set_cons_succ]
      refine wpAnyH_ready (rs := [3]) (by kernel_rfl) (by simp) (AllReadyH.cons (o := { dst := some 10, op := Op.call { callee := Callee.value (Operand.func _), args := #[Operand.tmp 9], argTypes := _ }, type := _, pos := _, after := _, guard := none }) rfl (fun KK hK => ?_) AllReadyH.nil)
      go_simp
      refine (unhide HFD _ HS).mono ?_
      rintro e wt ⟨an, cn, rfl, hio, hxs⟩
      have HIG := hide hio
      have HIF2 := hide ((unhide HIF).ext hxs)
      have HCA2 := hide ((unhide HCA).ext hxs)
      have HCB2 := hide ((unhide HCB).ext hxs)
      have HS2 := HS.trans hxs
      clear hio hxs
      clear HCA
      have HCA := HCA2
      clear HCA2
      clear HCB
      have HCB := HCB2
      clear HCB2
      clear HIF
      have HIF := HIF2
      clear HIF2
      clear HS
      have HS := HS2
      clear HS2
      refine hK.out _ _ HS (fun _ => ?_)
      clear hK KK
      try simp only [Act.put, List.setIfInBounds_toArray, List.set_cons_zero, List.set_cons_succ]
      refine wpAnyH_ready (rs := [4]) (by kernel_rfl) (by simp) (AllReadyH.cons (o := { dst := none, op := Op.store _ (Operand.tmp 2) (Operand.tmp 8), type := _, pos := _, after := _, guard := none }) rfl (fun KK hK => ?_) AllReadyH.nil)
      refine Eq.mpr (if_pos (by rfl)) ?_
      refine wp_store_row 26 (.tmp 2) (.tmp 8) rfl w.heap.size #[.int .i64 (F).stage, .slice am F.ins.length cm, .int .i64 (F).regs, .int .i64 (F).attr, .int .i64 (F).unif, .int .i64 (F).vary] rfl rfl 26 _ (unhide HCA) size6 rfl (by simp [Value.oneCell']) ?_
      have HIF2 := hide ((unhide HIF).kept9 (grownBy_row _ _ #[.int .i64 (F).stage, .slice am F.ins.length cm, .int .i64 (F).regs, .int .i64 (F).attr, .int .i64 (F).unif, .int .i64 (F).vary]) ((unhide HIF).neB (unhide HCA) (by decide)))
      have HIG2 := hide ((unhide HIG).kept9 (grownBy_row _ _ #[.int .i64 (F).stage, .slice am F.ins.length cm, .int .i64 (F).regs, .int .i64 (F).attr, .int .i64 (F).unif, .int .i64 (F).vary]) ((unhide HIG).neB (unhide HCA) (by decide)))
      have HCA2 := hide ((unhide HCA).rowC (cs' := #[.int .i64 (F).stage, .slice am F.ins.length cm, .int .i64 (F).regs, .int .i64 (F).attr, .int .i64 (F).unif, .int .i64 (F).vary]))
      have HCB2 := hide ((unhide HCB).rowO (r := w.heap.size) (cs' := #[.int .i64 (F).stage, .slice am F.ins.length cm, .int .i64 (F).regs, .int .i64 (F).attr, .int .i64 (F).unif, .int .i64 (F).vary]) (by omega))
      have HS2 := extRow (b := w.heap.size) (cs := #[.int .i64 (F).stage, .slice am F.ins.length cm, .int .i64 (F).regs, .int .i64 (F).attr, .int .i64 (F).unif, .int .i64 (F).vary]) HS (by omega)
      clear HCA
      have HCA := HCA2
      clear HCA2
      clear HCB
      have HCB := HCB2
      clear HCB2
      clear HIF
      have HIF := HIF2
      clear HIF2
      clear HIG
      have HIG := HIG2
      clear HIG2
      clear HS
      have HS := HS2
      clear HS2
      refine hK.out _ _ HS (fun _ => ?_)
      clear hK KK
      try simp only [Act.put, List.setIfInBounds_toArray, List.set_cons_zero, List.set_cons_succ]
      refine wpAnyH_ready (rs := [5]) (by kernel_rfl) (by simp) (AllReadyH.cons (o := { dst := none, op := Op.store _ (Operand.tmp 3) (Operand.tmp 10), type := _, pos := _, after := _, guard := none }) rfl (fun KK hK => ?_) AllReadyH.nil)
      refine Eq.mpr (if_pos (by rfl)) ?_
      refine wp_store_row 26 (.tmp 3) (.tmp 10) rfl (w.heap.size + 1) #[.int .i64 (G).stage, .slice an G.ins.length cn, .int .i64 (G).regs, .int .i64 (G).attr, .int .i64 (G).unif, .int .i64 (G).vary] rfl rfl 26 _ (unhide HCB) size6 rfl (by simp [Value.oneCell']) ?_
      have HIF2 := hide ((unhide HIF).kept9 (grownBy_row _ _ #[.int .i64 (G).stage, .slice an G.ins.length cn, .int .i64 (G).regs, .int .i64 (G).attr, .int .i64 (G).unif, .int .i64 (G).vary]) ((unhide HIF).neB (unhide HCB) (by decide)))
      have HIG2 := hide ((unhide HIG).kept9 (grownBy_row _ _ #[.int .i64 (G).stage, .slice an G.ins.length cn, .int .i64 (G).regs, .int .i64 (G).attr, .int .i64 (G).unif, .int .i64 (G).vary]) ((unhide HIG).neB (unhide HCB) (by decide)))
      have HCA2 := hide ((unhide HCA).rowO (r := (w.heap.size + 1)) (cs' := #[.int .i64 (G).stage, .slice an G.ins.length cn, .int .i64 (G).regs, .int .i64 (G).attr, .int .i64 (G).unif, .int .i64 (G).vary]) (by omega))
      have HCB2 := hide ((unhide HCB).rowC (cs' := #[.int .i64 (G).stage, .slice an G.ins.length cn, .int .i64 (G).regs, .int .i64 (G).attr, .int .i64 (G).unif, .int .i64 (G).vary]))
      have HS2 := extRow (b := (w.heap.size + 1)) (cs := #[.int .i64 (G).stage, .slice an G.ins.length cn, .int .i64 (G).regs, .int .i64 (G).attr, .int .i64 (G).unif, .int .i64 (G).vary]) HS (by omega)
      clear HCA
      have HCA := HCA2
      clear HCA2
      clear HCB
      have HCB := HCB2
      clear HCB2
      clear HIF
      have HIF := HIF2
      clear HIF2
      clear HIG
      have HIG := HIG2
      clear HIG2
      clear HS
      have HS := HS2
      clear HS2
      refine hK.out _ _ HS (fun _ => ?_)
      clear hK KK
      try simp only [Act.put, List.setIfInBounds_toArray, List.set_cons_zero, List.set_cons_succ]
      refine wpAnyH_done (by kernel_rfl) ?_ _
      refine NoPanic.normal ?_
      go_wp2
      go_meet
      exact ⟨am, cm, an, cn, unhide HCA, unhide HCB, few_read (unhide HIF), few_read (unhide HIG), HS⟩
  case rest =>
    clear HCA HCB HX HFC HFD
    obtain ⟨am, cm, an, cn, hca, hcb, hif, hig, hx⟩ := hcut
    have HCA := hide hca
    have HCB := hide hcb
    have HX := hide hx
    have HIF := hide hif
    have HIG := hide hig
    clear hca hcb hx hif hig
    have HS1 := hide (fun wx (hx : Ext wc wx) => same_any F G _ _ wx ((unhide HIF).ext hx) ((unhide HIG).ext hx))
    have HS2R := hide (fun wx (hx : Ext wc wx) => refSame_any F G _ _ wx ((unhide HIF).ext hx) ((unhide HIG).ext hx))
    have HCP := hide (fun wx (hx : Ext wc wx) => copied_any F _ wx ((unhide HIF).ext hx) (unhide HFL))
    have HS3 := hide (fun wx (u : Value) (hx : Ext wc wx) (hu : IR wx u F.ins) => same_any F F _ u wx ((unhide HIF).ext hx) hu)
    rw [sameC_self] at HS3
    generalize sameC F G = sm at HS1 HS2R
    clear HFL HIF HIG
    go_upto_region 4 with fail
    refine wp_region_noPanic ?_
    refine wp_region_held_drew (S := fun wx => Ext wc wx) (by kernel_rfl) ((Ext.refl _).drew) (fun HS => ?_)
    refine wpAnyH_take (i := 0) (oi := { dst := some 11, op := Op.load _ (Operand.tmp 2), type := _, pos := _, after := _, guard := none }) (v := .agg #[.int .i64 (F).stage, .slice am F.ins.length cm, .int .i64 (F).regs, .int .i64 (F).attr, .int .i64 (F).unif, .int .i64 (F).vary]) rfl (by kernel_rfl) (by kernel_rfl) (by kernel_rfl) (fun _ _ _ h => h) (yieldsIf_load_mid (by rfl) 26 (.tmp 2) rfl w.heap.size 0 rfl [.int .i64 F.stage, .slice am F.ins.length cm, .int .i64 F.regs, .int .i64 F.attr, .int .i64 F.unif, .int .i64 F.vary] _ (fun wx hx => ((unhide HCA).ext hx).rng) Try.underlying26 rfl size6) HS ?_
    simp only [Act.put, List.setIfInBounds_toArray, List.set_cons_zero, List.set_cons_succ]
    refine wpAnyH_take (i := 1) (oi := { dst := some 12, op := Op.load _ (Operand.tmp 3), type := _, pos := _, after := _, guard := none }) (v := .agg #[.int .i64 (G).stage, .slice an G.ins.length cn, .int .i64 (G).regs, .int .i64 (G).attr, .int .i64 (G).unif, .int .i64 (G).vary]) rfl (by kernel_rfl) (by kernel_rfl) (by kernel_rfl) (fun _ _ _ h => h) (yieldsIf_load_mid (by rfl) 26 (.tmp 3) rfl (w.heap.size + 1) 0 rfl [.int .i64 G.stage, .slice an G.ins.length cn, .int .i64 G.regs, .int .i64 G.attr, .int .i64 G.unif, .int .i64 G.vary] _ (fun wx hx => ((unhide HCB).ext hx).rng) Try.underlying26 rfl size6) HS ?_
    simp only [Act.put, List.setIfInBounds_toArray, List.set_cons_zero, List.set_cons_succ]
    refine wpAnyH_take (i := 3) (oi := { dst := some 14, op := Op.load _ (Operand.tmp 2), type := _, pos := _, after := _, guard := none }) (v := .agg #[.int .i64 (F).stage, .slice am F.ins.length cm, .int .i64 (F).regs, .int .i64 (F).attr, .int .i64 (F).unif, .int .i64 (F).vary]) rfl (by kernel_rfl) (by kernel_rfl) (by kernel_rfl) (fun _ _ _ h => h) (yieldsIf_load_mid (by rfl) 26 (.tmp 2) rfl w.heap.size 0 rfl [.int .i64 F.stage, .slice am F.ins.length cm, .int .i64 F.regs, .int .i64 F.attr, .int .i64 F.unif, .int .i64 F.vary] _ (fun wx hx => ((unhide HCA).ext hx).rng) Try.underlying26 rfl size6) HS ?_
    simp only [Act.put, List.setIfInBounds_toArray, List.set_cons_zero, List.set_cons_succ]
    refine wpAnyH_take (i := 4) (oi := { dst := some 15, op := Op.load _ (Operand.tmp 3), type := _, pos := _, after := _, guard := none }) (v := .agg #[.int .i64 (G).stage, .slice an G.ins.length cn, .int .i64 (G).regs, .int .i64 (G).attr, .int .i64 (G).unif, .int .i64 (G).vary]) rfl (by kernel_rfl) (by kernel_rfl) (by kernel_rfl) (fun _ _ _ h => h) (yieldsIf_load_mid (by rfl) 26 (.tmp 3) rfl (w.heap.size + 1) 0 rfl [.int .i64 G.stage, .slice an G.ins.length cn, .int .i64 G.regs, .int .i64 G.attr, .int .i64 G.unif, .int .i64 G.vary] _ (fun wx hx => ((unhide HCB).ext hx).rng) Try.underlying26 rfl size6) HS ?_
    simp only [Act.put, List.setIfInBounds_toArray, List.set_cons_zero, List.set_cons_succ]
    refine wpAnyH_ready (rs := [2]) (by kernel_rfl) (by simp) (AllReadyH.cons (o := { dst := some 13, op := Op.call { callee := Callee.value (Operand.func _), args := #[Operand.tmp 11, Operand.tmp 12], argTypes := _ }, type := _, pos := _, after := _, guard := none }) rfl (fun KK hK => ?_) AllReadyH.nil)
    go_simp
    refine (unhide HS1 _ HS).mono ?_
    rintro e ws ⟨rfl, hxs⟩
    have HS2 := Ext.trans HS hxs
    clear hxs HS
    have HS := HS2
    clear HS2
    refine hK.out _ _ HS (fun _ => ?_)
    clear hK KK
    try simp only [Act.put, List.setIfInBounds_toArray, List.set_cons_zero, List.set_cons_succ]
    refine wpAnyH_ready (rs := [5]) (by kernel_rfl) (by simp) (AllReadyH.cons (o := { dst := some 16, op := Op.call { callee := Callee.value (Operand.func _), args := #[Operand.tmp 14, Operand.tmp 15], argTypes := _ }, type := _, pos := _, after := _, guard := none }) rfl (fun KK hK => ?_) AllReadyH.nil)
    go_simp
    refine (unhide HS2R _ HS).mono ?_
    rintro e ws ⟨rfl, hxs⟩
    have HS2 := Ext.trans HS hxs
    clear hxs HS
    have HS := HS2
    clear HS2
    refine hK.out _ _ HS (fun _ => ?_)
    clear hK KK
    try simp only [Act.put, List.setIfInBounds_toArray, List.set_cons_zero, List.set_cons_succ]
    refine wpAnyH_take (i := 6) (oi := { dst := some 17, op := Op.binOp BinOp.eql _ (Operand.tmp 13) (Operand.tmp 16) _, type := _, pos := _, after := _, guard := none }) (v := .bool true) rfl (by kernel_rfl) (by kernel_rfl) (by kernel_rfl) (fun _ _ _ h => h) (Or.inl ⟨by rfl, fun wx hx => by go_simp⟩) HS ?_
    simp only [Act.put, List.setIfInBounds_toArray, List.set_cons_zero, List.set_cons_succ]
    refine wpAnyH_take (i := 7) (oi := { dst := some 18, op := Op.move (Operand.tmp 17), type := _, pos := _, after := _, guard := none }) (v := .bool true) rfl (by kernel_rfl) (by kernel_rfl) (by kernel_rfl) (fun _ _ _ h => h) (Or.inl ⟨by rfl, fun _ _ => rfl⟩) HS ?_
    simp only [Act.put, List.setIfInBounds_toArray, List.set_cons_zero, List.set_cons_succ]
    refine wpAnyH_take (i := 8) (oi := { dst := some 19, op := Op.load _ (Operand.tmp 2), type := _, pos := _, after := _, guard := some (7, true) }) (v := .agg #[.int .i64 (F).stage, .slice am F.ins.length cm, .int .i64 (F).regs, .int .i64 (F).attr, .int .i64 (F).unif, .int .i64 (F).vary]) rfl (by kernel_rfl) (by kernel_rfl) (by kernel_rfl) (fun _ _ _ h => h) (yieldsIf_load_mid (by rfl) 26 (.tmp 2) rfl w.heap.size 0 rfl [.int .i64 F.stage, .slice am F.ins.length cm, .int .i64 F.regs, .int .i64 F.attr, .int .i64 F.unif, .int .i64 F.vary] _ (fun wx hx => ((unhide HCA).ext hx).rng) Try.underlying26 rfl size6) HS ?_
    simp only [Act.put, List.setIfInBounds_toArray, List.set_cons_zero, List.set_cons_succ]
    refine wpAnyH_take (i := 9) (oi := { dst := some 20, op := Op.load _ (Operand.tmp 2), type := _, pos := _, after := _, guard := some (7, true) }) (v := .agg #[.int .i64 (F).stage, .slice am F.ins.length cm, .int .i64 (F).regs, .int .i64 (F).attr, .int .i64 (F).unif, .int .i64 (F).vary]) rfl (by kernel_rfl) (by kernel_rfl) (by kernel_rfl) (fun _ _ _ h => h) (yieldsIf_load_mid (by rfl) 26 (.tmp 2) rfl w.heap.size 0 rfl [.int .i64 F.stage, .slice am F.ins.length cm, .int .i64 F.regs, .int .i64 F.attr, .int .i64 F.unif, .int .i64 F.vary] _ (fun wx hx => ((unhide HCA).ext hx).rng) Try.underlying26 rfl size6) HS ?_
    simp only [Act.put, List.setIfInBounds_toArray, List.set_cons_zero, List.set_cons_succ]
    refine wpAnyH_ready (rs := [10]) (by kernel_rfl) (by simp) (AllReadyH.cons (o := { dst := some 21, op := Op.call { callee := Callee.value (Operand.func _), args := #[Operand.tmp 20], argTypes := _ }, type := _, pos := _, after := _, guard := some (7, true) }) rfl (fun KK hK => ?_) AllReadyH.nil)
    go_simp
    refine (unhide HCP _ HS).mono ?_
    rintro e ws ⟨ap, cp, rfl, hir, hxs⟩
    have HP := hide hir
    have HS2 := HS.trans hxs
    clear hxs HS hir
    have HS := HS2
    clear HS2
    refine hK.out _ _ HS (fun _ => ?_)
    clear hK KK
    try simp only [Act.put, List.setIfInBounds_toArray, List.set_cons_zero, List.set_cons_succ]
    refine wpAnyH_ready (rs := [11]) (by kernel_rfl) (by simp) (AllReadyH.cons (o := { dst := some 22, op := Op.call { callee := Callee.value (Operand.func _), args := #[Operand.tmp 19, Operand.tmp 21], argTypes := _ }, type := _, pos := _, after := _, guard := some (7, true) }) rfl (fun KK hK => ?_) AllReadyH.nil)
    go_simp
    refine (unhide HS3 _ _ HS (unhide HP)).mono ?_
    rintro e ws ⟨rfl, hxs⟩
    have HS2 := Ext.trans HS hxs
    clear hxs HS
    have HS := HS2
    clear HS2
    refine hK.out _ _ HS (fun _ => ?_)
    clear hK KK
    try simp only [Act.put, List.setIfInBounds_toArray, List.set_cons_zero, List.set_cons_succ]
    refine wpAnyH_take (i := 12) (oi := { dst := some 23, op := Op.pick (Operand.tmp 18) (Operand.tmp 22) (Operand.const (Value.bool false)), type := _, pos := _, after := _, guard := none }) (v := .bool true) rfl (by kernel_rfl) (by kernel_rfl) (by kernel_rfl) (fun _ _ _ h => h) (Or.inl ⟨by rfl, fun _ _ => rfl⟩) HS ?_
    simp only [Act.put, List.setIfInBounds_toArray, List.set_cons_zero, List.set_cons_succ]
    refine wpAnyH_take (i := 13) (oi := { dst := some 4, op := Op.assign (Operand.tmp 23), type := _, pos := _, after := _, guard := none }) (v := .bool true) rfl (by kernel_rfl) (by kernel_rfl) (by kernel_rfl) (fun _ _ _ h => h) (Or.inl ⟨by rfl, fun _ _ => rfl⟩) HS ?_
    simp only [Act.put, List.setIfInBounds_toArray, List.set_cons_zero, List.set_cons_succ]
    refine wpAnyH_done (by kernel_rfl) ?_ _
    refine NoPanic.normal ?_
    have HX9 := hide ((unhide HX).trans HS)
    go_wp2
    go_ret
    exact ⟨rfl, unhide HX9⟩

set_option maxRecDepth 100000 in
theorem same16_owes (H : Type) (enc : TypeId × Value → H) (W : World) (base : Nat) (args : Array Value) (ds : List (DataW H)) (p : List MemPlace) : Owes H enc Try.prog 6 Try.f6 Rows.codeSameSpec W base args ds p := by
  intro hval hA hsz
  rw [Try.params6] at hA hval hsz
  obtain ⟨v0, vs0, d0, ds0, p0, q0, hargs, rfl, rfl, h0, r0⟩ := trodAll_cons hA
  obtain ⟨v1, vs1, d1, ds1, p1, q1, rfl, rfl, rfl, h1, r1⟩ := trodAll_cons r0
  obtain ⟨rfl, rfl, rfl⟩ := trodAll_nil r1
  obtain rfl : args = #[v0, v1] := by cases args; simp_all
  obtain ⟨C, u, rfl, hC, hok⟩ := open_codA (hval 0 26 v0 rfl rfl) h0
  obtain ⟨D, u2, rfl, hD, hok2⟩ := open_codA (hval 1 26 v1 rfl rfl) h1
  exact ⟨⟨rfl, rfl, rfl⟩, codeSame_walk C D u u2 W hC hD⟩

set_option maxRecDepth 100000 in
theorem same16_lifted (os : Os) (started : os.Started) (H : Type) (enc : TypeId × Value → H) :
    ReturnsInHanded {} Try.checked os 6 .any (Rows.codeSameSpec.pre6 enc Try.prog Try.f6 [] false) (Rows.codeSameSpec.post enc Try.prog Try.f6 false true false false) :=
  lift_law (C := Try.checked) own laidOut started (by kernel_rfl) Try.func6 (T := 4) rfl Try.underlying4 rfl (by kernel_rfl)
    (ChangeSpec.witness6 (enc := enc) (C := Try.checked) false ⟨#[], #[.agg #[.int .i64 0, .slice none 0 0, .int .i64 0, .int .i64 0, .int .i64 0, .int .i64 0], .agg #[.int .i64 0, .slice none 0 0, .int .i64 0, .int .i64 0, .int .i64 0, .int .i64 0]], []⟩ 8 (by kernel_rfl) (by kernel_rfl) (by kernel_rfl) (by kernel_rfl)) (same16_owes H enc)

theorem codeSame_holds : Rows.CodeSameSaid :=
  OpenClaim.holds_of_wide 6 Try.f6 rfl rfl rfl rfl rfl rfl rfl ⟨rfl, rfl, rfl, rfl, rfl⟩ rfl rfl rfl rfl rfl (by kernel_rfl) Try.func6 (by kernel_rfl)
    (of_decide_eq_true (by kernel_rfl)) (by unfold Func.isWrapper; rw [if_neg (of_decide_eq_false (by kernel_rfl))]; exact ⟨rfl, rfl⟩)
    (fun os started H enc _ => same16_lifted os started H enc)
#print axioms codeSame_holds
end Go.Proofs.Ytclkpahihfeacaa
