/-
  The statement CodeBack: what was encoded is decoded, and the other way round. No conditions.
-/
import Derived.Test.YtclkpahihfeacaaCBk
import Derived.Test.YtclkpahihfeacaaCFy
import Derived.Test.YtclkpahihfeacaaFrC
import Derived.Shelf.Bytes.SlSmallAll
namespace Go.Proofs.Ytclkpahihfeacaa
open Go.ChangeShapes Go.WideShapes Go.ChangeAt Go.RowKit
set_option linter.unusedVariables false
set_option linter.unusedSimpArgs false

section
variable {P : Program} {w : World} {ops : Array Oper} {rest : List Oper} {o : Oper} {a : Act} {Q : Exit → Act → World → Prop}
theorem wpList_load_row_wantC (hw : Region.wanted o (yielded ops a.tmps) = true) (ty : TypeId) (x : Operand) (ho : o.op = .load ty x)
    (g : Nat) (hx : a.eval x = .pointer (some ⟨g, 0, none⟩)) (t : TypeId) (cs : Array Value) (fr : Nat × Nat) (d : TypeDesc) (hg : w.heap[g]? = some (.cells cs t fr))
    (hu : P.underlying ty = some d) (hd : (match d with | .struct _ | .array _ _ => true | _ => false) = true) (hi : (P.info? ty).map (·.size) = some cs.size)
    (h : wpList P ops Q rest (a.put o.dst (.agg cs)) w) : wpList P ops Q (o :: rest) a w :=
  BigFrame.wpList_want hw fun _ hK => wp_load_row ty x ho g hx t cs fr d hg hu hd hi (hK _ _ h)
end
theorem few_readB {w : World} {b : Nat} {am : Option Addr} {cm : Nat} {L : List (Nat → Int)} (h : OI w b (.slice am (L.length + 1) cm) (L ++ [i77])) : IR w (.slice am L.length cm) L := by
  have h2 := h.ir.take L.length (by simp)
  simpa using h2
def FewR (F : Cod) (wx : World) (e : Ending) (w' : World) : Prop := ∃ am cm, e = .returned (.agg #[.int .i64 (F).stage, .slice am F.ins.length cm, .int .i64 (F).regs, .int .i64 (F).attr, .int .i64 (F).unif, .int .i64 (F).vary]) ∧ OI w' wx.heap.size (.slice am (F.ins.length + 1) cm) (F.ins ++ [i77]) ∧ Ext wx w'
theorem dec_may {bs : List Int} (h : decB bs = true) : mayP (codA bs) = true := by
  unfold decB at h
  simp only [Bool.and_eq_true] at h
  exact h.2.2.2.2.2
theorem codA_ok (bs : List Int) (hB : Byt bs) : ∀ I ∈ (codA bs).ins, OkI I := by
  intro I hI
  simp only [codA, insL, List.mem_map, List.mem_range] at hI
  obtain ⟨j, _, rfl⟩ := hI
  have hr := fun k => rdV_in bs (insS bs 28 0 j).1 (insS bs 28 0 j).2 k hB
  refine ⟨fun k hk => ?_, fun k hk => ?_, fun k hk => ?_⟩
  · have := hr k
    simp only [insX, ofV]
    rw [if_neg (by omega)]
    omega
  · simp only [insX, ofV]
    rw [if_pos (by omega)]
    unfold sg
    simp [IntKind.wrap, IntKind.bits, IntKind.signed]
    omega
  · have := hr (12 + k)
    simp only [insX, ofV]
    rw [if_neg (by omega)]
    omega
theorem bytP_byt (C : Cod) : Byt (bytP C) := bytL_byt _
theorem numL24 (C : Cod) (hn : C.ins.length ≤ 4096) : numA (bytP C) 24 = (C.ins.length : Int) := by
  have h := numA_bytP C 6 (C.ins.length : Int) (by rw [raw_hd C 6 (by omega)]; rfl)
  rw [lo32_id _ (by omega) (by omega)] at h
  exact h
theorem numA_take (L : List Int) (k : Nat) (h : 28 ≤ k) : numA (L.take k) 24 = numA L 24 := by
  unfold numA
  rw [List.drop_take, List.take_take, show min 4 (k - 24) = 4 by omega]
theorem numA_app (L : List Int) (h : 28 ≤ L.length) : numA (L ++ [0]) 24 = numA L 24 := by
  unfold numA
  rw [List.drop_append_of_le_length (by omega), List.take_append_of_le_length (by simp; omega)]
theorem infoU8C : (Try.prog.info? 5).map (fun i => (i.zero, i.size, i.bytes)) = some (some (.int .u8 0), 1, 1) := by kernel_rfl
theorem own_ext {k : IntKind} {w w' : World} {base : Nat} {e : TypeId} {v : Value} {xs : List Int} (h : Own k w base e v xs) (hx : Ext w w') : Own k w' base e v xs := by
  refine World.ownsRow.kept h (extG hx none) ?_
  cases v.ownBlock <;> simp
theorem str_ofC (ao : Option Addr) (n cap : Nat) (xs : List Int) (w : World) (hr : Row .u8 w (.slice ao n cap) xs) (hl : n = xs.length) : (convert 29 9 (.slice ao n cap)).run Try.prog w = .ok (.string (strOfNums xs)) w := by
  subst hl
  rcases hr with ⟨rfl, ao', cap', hv, _⟩ | ⟨hne, b, off, cap', hv, _, _, hc⟩
  · cases hv
    exact run_convert_bytes_zero w 29 5 Try.underlying29 Try.underlying5 ao cap 9 Try.underlying9
  · cases hv
    exact run_convert_bytes_arg (P := Try.prog) w 29 5 Try.underlying29 Try.underlying5 b off xs.length cap xs rfl hc 9 Try.underlying9
theorem equal_sameC (ao ap : Option Addr) (cap cbp : Nat) (xs : List Int) (w : World) (hr : Row .u8 w (.slice ao xs.length cap) xs) (hs : Row .u8 w (.slice ap xs.length cbp) xs) :
    Calls Try.prog 13 #[.slice ao xs.length cap, .slice ap xs.length cbp] w fun e w' => e = .returned (.bool true) ∧ w' = w := by
  have h1 := str_ofC ao xs.length cap xs w hr rfl
  have h2 := str_ofC ap xs.length cbp xs w hs rfl
  generalize strOfNums xs = s at *
  clear hr hs
  go_enter Try.func13, Try.ntmps13
  go_wp2
  go_ret
  exact ⟨by simp, rfl⟩

set_option maxRecDepth 10000 in
set_option maxHeartbeats 8000000 in
theorem codeBack_walk (C : Cod) (v : Value) (bo : Option Addr) (cb : Nat) (bs : List Int) (at_ : Int) (w : World) (hC : IR w v C.ins) (hok : ∀ I ∈ C.ins, OkI I) (hb : Row .u8 w (.slice bo bs.length cb) bs) (hB : Byt bs) (ha0 : -9223372036854775808 ≤ at_) (ha1 : at_ ≤ 9223372036854775807) :
    Calls Try.prog 7 #[.agg #[.int .i64 (C).stage, v, .int .i64 (C).regs, .int .i64 (C).attr, .int .i64 (C).unif, .int .i64 (C).vary], .slice bo bs.length cb, .int .i64 at_] w fun e w' => e = .returned (.bool true) ∧ Ext w w' := by
  have HA := hide hC
  obtain ⟨ao, ca, rfl, _⟩ := hC
  have HX : Hid (Ext w (w.alloc (.cells #[.int .i64 (C).stage, .slice ao C.ins.length ca, .int .i64 (C).regs, .int .i64 (C).attr, .int .i64 (C).unif, .int .i64 (C).vary] 26))) := (Ext.refl w).alloc _
  have HCA : Hid (Blk (w.alloc (.cells #[.int .i64 (C).stage, .slice ao C.ins.length ca, .int .i64 (C).regs, .int .i64 (C).attr, .int .i64 (C).unif, .int .i64 (C).vary] 26)) w.heap.size #[.int .i64 (C).stage, .slice ao C.ins.length ca, .int .i64 (C).regs, .int .i64 (C).attr, .int .i64 (C).unif, .int .i64 (C).vary] 26) := Blk.new w _ _
  obtain ⟨F, hF⟩ : ∃ F, F = fewC C := ⟨_, rfl⟩
  have HOF : Hid (∀ I ∈ F.ins, OkI I) := by subst hF; exact few_ok hok
  have HFC : Hid (∀ wx, Ext w wx → Calls Try.prog 18 #[.agg #[.int .i64 (C).stage, .slice ao C.ins.length ca, .int .i64 (C).regs, .int .i64 (C).attr, .int .i64 (C).unif, .int .i64 (C).vary]] wx (FewR F wx)) := fun wx hx => by subst hF; exact few_any C _ wx ((unhide HA).ext hx)
  clear hF HA hok
  obtain ⟨m, hm0⟩ : ∃ m, m = min bs.length 20000 := ⟨_, rfl⟩
  obtain ⟨ds, hds0⟩ : ∃ ds, ds = bs.take m := ⟨_, rfl⟩
  have hds : ds.length = m := by rw [hds0, List.length_take]; omega
  obtain ⟨_, _, esh, hsh, hlc, hcm⟩ := hb.shape
  have esh2 := (Value.slice.inj esh).2.2
  have esh1 := (Value.slice.inj esh).1
  have HD : Hid (∀ wx, Ext w wx → Row .u8 wx (.slice bo ds.length cb) ds) := fun wx hx => by
    have h1 := (hb.below hx).cut 0 m (by omega) bo (fun b off e _ => by rw [e]; rfl) (fun e => by rw [e] at esh1; have := (hsh esh1.symm); omega)
    rw [hds, hds0]
    simpa using h1
  have HBD : Hid (Byt ds) := fun x hx => hB x (by rw [hds0] at hx; exact List.mem_of_mem_take hx)
  have hif : (if (20000 : Int) < (bs.length : Int) then (20000 : Int) else (bs.length : Int)) = (m : Int) := by split <;> omega
  rw [← esh2] at hlc hcm
  unfold maxLen at hcm
  have hml : m ≤ bs.length := by omega
  clear hds0 hb hB hm0 esh esh1 esh2 hsh
  go_enter Try.func7, Try.ntmps7
  go_wp2_with (go_at_call 9999)
  generalize (w.alloc (.cells #[.int .i64 (C).stage, .slice ao C.ins.length ca, .int .i64 (C).regs, .int .i64 (C).attr, .int .i64 (C).unif, .int .i64 (C).vary] 26)) = w0 at HCA HX ⊢
  refine (wakes_any _).mono ?_
  rintro e w1 ⟨rfl, hx1⟩
  have HCA := hide ((unhide HCA).ext hx1)
  have HX := hide ((unhide HX).trans hx1)
  clear hx1
  go_upto_region 3 with fail
  refine wp_region_noPanic ?_
  refine wp_region_held_drew (S := fun wx => Ext w wx) (by kernel_rfl) ((unhide HX).drew) (fun HS => ?_)
  have HCA2 : Hid (Blk w1.drew w.heap.size #[.int .i64 (C).stage, .slice ao C.ins.length ca, .int .i64 (C).regs, .int .i64 (C).attr, .int .i64 (C).unif, .int .i64 (C).vary] 26) := unhide HCA
  clear HCA
  have HCA := HCA2
  clear HCA2
  generalize w1.drew = wa at HS HCA ⊢
  refine wpAnyH_take (i := 2) (oi := { dst := some 23, op := Op.move (Operand.tmp 1), type := _, pos := _, after := _, guard := none }) (v := .slice bo bs.length cb) rfl (by kernel_rfl) (by kernel_rfl) (by kernel_rfl) (fun _ _ _ h => h) (Or.inl ⟨by rfl, fun _ _ => rfl⟩) HS ?_
  simp only [Act.put, List.setIfInBounds_toArray, List.set_cons_zero, List.set_cons_succ]
  refine wpAnyH_take (i := 3) (oi := { dst := some 24, op := Op.move (Operand.tmp 1), type := _, pos := _, after := _, guard := none }) (v := .slice bo bs.length cb) rfl (by kernel_rfl) (by kernel_rfl) (by kernel_rfl) (fun _ _ _ h => h) (Or.inl ⟨by rfl, fun _ _ => rfl⟩) HS ?_
  simp only [Act.put, List.setIfInBounds_toArray, List.set_cons_zero, List.set_cons_succ]
  refine wpAnyH_take (i := 4) (oi := { dst := some 25, op := Op.call { callee := Callee.builtin Builtin.len, args := #[Operand.tmp 24], argTypes := _ }, type := _, pos := _, after := _, guard := none }) (v := .int .i64 (bs.length : Int)) rfl (by kernel_rfl) (by kernel_rfl) (by kernel_rfl) (fun _ _ _ h => h) (Or.inl ⟨by rfl, fun wx hx => by go_simp⟩) HS ?_
  simp only [Act.put, List.setIfInBounds_toArray, List.set_cons_zero, List.set_cons_succ]
  refine wpAnyH_take (i := 5) (oi := { dst := some 26, op := Op.call { callee := Callee.builtin Builtin.min, args := #[Operand.tmp 25, Operand.const (Value.int IntKind.i64 20000)], argTypes := _ }, type := _, pos := _, after := _, guard := none }) (v := .int .i64 (m : Int)) rfl (by kernel_rfl) (by kernel_rfl) (by kernel_rfl) (fun _ _ _ h => h) (Or.inl ⟨by rfl, fun wx hx => by go_simp <;> omega⟩) HS ?_
  simp only [Act.put, List.setIfInBounds_toArray, List.set_cons_zero, List.set_cons_succ]
  refine wpAnyH_take (i := 6) (oi := { dst := some 27, op := Op.slice _ (Operand.tmp 23) none (some (Operand.tmp 26)) none, type := _, pos := _, after := _, guard := none }) (v := .slice bo m cb) rfl (by kernel_rfl) (by kernel_rfl) (by kernel_rfl) (fun _ _ _ h => h) (Or.inl ⟨by rfl, fun wx hx => by go_simp <;> omega⟩) HS ?_
  simp only [Act.put, List.setIfInBounds_toArray, List.set_cons_zero, List.set_cons_succ]
  refine wpAnyH_ready (rs := [0]) (by kernel_rfl) (by simp) (AllReadyH.cons (o := { dst := some 21, op := Op.load _ (Operand.tmp 3), type := _, pos := _, after := _, guard := none }) rfl (fun KK hK => ?_) AllReadyH.nil)
  refine Eq.mpr (if_pos (by rfl)) ?_
  refine wp_load_row 26 (.tmp 3) rfl w.heap.size rfl 26 #[.int .i64 (C).stage, .slice ao C.ins.length ca, .int .i64 (C).regs, .int .i64 (C).attr, .int .i64 (C).unif, .int .i64 (C).vary] (0, 0) _ (unhide HCA) Try.underlying26 rfl size6 ?_
  refine hK.out _ _ HS (fun _ => ?_)
  clear hK KK
  try simp only [Act.put, List.setIfInBounds_toArray, List.set_cons_zero, List.set_cons_succ]
  refine wpAnyH_ready (rs := [1]) (by kernel_rfl) (by simp) (AllReadyH.cons (o := { dst := some 22, op := Op.call { callee := Callee.value (Operand.func _), args := #[Operand.tmp 21], argTypes := _ }, type := _, pos := _, after := _, guard := none }) rfl (fun KK hK => ?_) AllReadyH.nil)
  go_simp
  refine (unhide HFC _ HS).mono ?_
  rintro e ws ⟨am, cm, rfl, hio, hxs⟩
  have HIF := hide hio
  have HCA2 := hide ((unhide HCA).ext hxs)
  have HS2 := HS.trans hxs
  clear hio hxs HCA HS
  have HCA := HCA2
  have HS := HS2
  clear HCA2 HS2
  refine hK.out _ _ HS (fun _ => ?_)
  clear hK KK
  try simp only [Act.put, List.setIfInBounds_toArray, List.set_cons_zero, List.set_cons_succ]
  refine wpAnyH_ready (rs := [7]) (by kernel_rfl) (by simp) (AllReadyH.cons (o := { dst := none, op := Op.store _ (Operand.tmp 3) (Operand.tmp 22), type := _, pos := _, after := _, guard := none }) rfl (fun KK hK => ?_) AllReadyH.nil)
  refine Eq.mpr (if_pos (by rfl)) ?_
  refine wp_store_row 26 (.tmp 3) (.tmp 22) rfl w.heap.size #[.int .i64 (F).stage, .slice am F.ins.length cm, .int .i64 (F).regs, .int .i64 (F).attr, .int .i64 (F).unif, .int .i64 (F).vary] rfl rfl 26 _ (unhide HCA) size6 rfl (by simp [Value.oneCell']) ?_
  have HIF2 := hide ((unhide HIF).kept9 (grownBy_row _ _ #[.int .i64 (F).stage, .slice am F.ins.length cm, .int .i64 (F).regs, .int .i64 (F).attr, .int .i64 (F).unif, .int .i64 (F).vary]) ((unhide HIF).neB (unhide HCA) (by decide)))
  have HCA2 := hide ((unhide HCA).rowC (cs' := #[.int .i64 (F).stage, .slice am F.ins.length cm, .int .i64 (F).regs, .int .i64 (F).attr, .int .i64 (F).unif, .int .i64 (F).vary]))
  have HS2 := extRow (b := w.heap.size) (cs := #[.int .i64 (F).stage, .slice am F.ins.length cm, .int .i64 (F).regs, .int .i64 (F).attr, .int .i64 (F).unif, .int .i64 (F).vary]) HS (by omega)
  clear HCA HS HIF
  have HCA := HCA2
  have HS := HS2
  have HIF := HIF2
  clear HCA2 HS2 HIF2
  refine hK.out _ _ HS (fun _ => ?_)
  clear hK KK
  try simp only [Act.put, List.setIfInBounds_toArray, List.set_cons_zero, List.set_cons_succ]
  refine wpAnyH_take (i := 8) (oi := { dst := some 1, op := Op.assign (Operand.tmp 27), type := _, pos := _, after := _, guard := none }) (v := .slice bo m cb) rfl (by kernel_rfl) (by kernel_rfl) (by kernel_rfl) (fun _ _ _ h => h) (Or.inl ⟨by rfl, fun _ _ => rfl⟩) HS ?_
  simp only [Act.put, List.setIfInBounds_toArray, List.set_cons_zero, List.set_cons_succ]
  refine wpAnyH_done (by kernel_rfl) ?_ _
  refine NoPanic.normal ?_
  obtain rfl : m = ds.length := hds.symm
  have HX := hide HS
  have HIG := hide (few_readB (unhide HIF))
  clear HIF HS hif HFC
  generalize World.setRow _ _ _ = wb at HX HIG HCA ⊢
  go_wp2_with (first
    | refine wpList_load_row rfl 26 (.tmp 3) rfl w.heap.size rfl 26 #[.int .i64 (F).stage, .slice am F.ins.length cm, .int .i64 (F).regs, .int .i64 (F).attr, .int .i64 (F).unif, .int .i64 (F).vary] (0, 0) _ (unhide HCA) Try.underlying26 rfl size6 ?_
    | (go_at_call 9999))
  cases hm : mayP F
  case false =>
    refine (encode_bad F _ wb (unhide HIG) hm).mono ?_
    rintro e w2 ⟨rfl, hx2⟩
    have HX2 := hide ((unhide HX).trans hx2)
    clear hx2 HX HCA HIG hm
    have HX := HX2
    clear HX2
    go_wp2_with (go_at_call 9999)
    refine (decode_any _ ds _ (unhide HD _ (unhide HX)) (unhide HBD)).mono ?_
    rintro e wd ⟨hxd, ⟨hdt, a8, c8, rfl, hio⟩ | ⟨hdf, rfl⟩⟩
    · have HDE := hide (dec_enc ds (unhide HBD) hdt)
      have HMD := hide (dec_may hdt)
      have HOD := hide (codA_ok ds (unhide HBD))
      obtain ⟨D, hD⟩ : ∃ D, codA ds = D := ⟨_, rfl⟩
      rw [hD] at HDE HMD HOD hio ⊢
      have HXd := hide (((unhide HX).trans hxd).alloc (.cells #[.int .i64 (D).stage, .slice a8 D.ins.length c8, .int .i64 (D).regs, .int .i64 (D).attr, .int .i64 (D).unif, .int .i64 (D).vary] 26))
      have HI9 := hide (hio.ir.ext ((Ext.refl wd).alloc (.cells #[.int .i64 (D).stage, .slice a8 D.ins.length c8, .int .i64 (D).regs, .int .i64 (D).attr, .int .i64 (D).unif, .int .i64 (D).vary] 26)))
      have HB9 := hide (Blk.new wd #[.int .i64 (D).stage, .slice a8 D.ins.length c8, .int .i64 (D).regs, .int .i64 (D).attr, .int .i64 (D).unif, .int .i64 (D).vary] 26)
      clear hD hio hxd hdt HX
      go_upto_region 15 with (refine wpList_storeLast rfl 26 (.tmp 16) (.tmp 88) rfl _ wd.heap.size rfl rfl #[.int .i64 (D).stage, .slice a8 D.ins.length c8, .int .i64 (D).regs, .int .i64 (D).attr, .int .i64 (D).unif, .int .i64 (D).vary] rfl 6 size6 rfl rfl (by simp [Value.oneCell']) ?_)
      generalize wd.alloc (.cells #[.int .i64 (D).stage, .slice a8 D.ins.length c8, .int .i64 (D).regs, .int .i64 (D).attr, .int .i64 (D).unif, .int .i64 (D).vary] 26) = w9 at HXd HI9 HB9 ⊢
      generalize wd.heap.size = G9 at *
      go_wp2_with (first
        | refine wpList_load_row rfl 26 (.tmp 16) rfl G9 rfl 26 #[.int .i64 (D).stage, .slice a8 D.ins.length c8, .int .i64 (D).regs, .int .i64 (D).attr, .int .i64 (D).unif, .int .i64 (D).vary] (0, 0) _ (unhide HB9) Try.underlying26 rfl size6 ?_
        | (go_at_call 9999))
      refine (encode_ok D _ w9 (unhide HI9) (unhide HOD) (unhide HMD)).mono ?_
      rintro e w10 ⟨ay, cy, rfl, hoy, hx10⟩
      rw [unhide HDE] at hoy ⊢
      have HX10 := hide ((unhide HXd).trans hx10)
      have HEQ := hide (equal_sameC ay bo cy cb ds w10 hoy.row (unhide HD _ (unhide HX10)))
      clear hoy hx10 HXd HI9 HB9
      go_wp2_with (go_at_call 9999)
      refine (unhide HEQ).mono ?_
      rintro e w11 ⟨rfl, rfl⟩
      go_wp2
      go_ret
      exact ⟨rfl, unhide HX10⟩
    · have HXd := hide (((unhide HX).trans hxd).alloc (.cells #[.int .i64 0, .slice none 0 0, .int .i64 0, .int .i64 0, .int .i64 0, .int .i64 0] 26))
      clear hxd hdf HX
      go_upto_region 15 with (refine wpList_storeLast rfl 26 (.tmp 16) (.tmp 88) rfl _ wd.heap.size rfl rfl #[.int .i64 0, .slice none 0 0, .int .i64 0, .int .i64 0, .int .i64 0, .int .i64 0] rfl 6 size6 rfl rfl (by simp [Value.oneCell']) ?_)
      go_wp2
      go_ret
      exact ⟨rfl, unhide HXd⟩
  case true =>
    have HED := hide (enc_dec F hm (unhide HOF))
    have HLB := hide (bytP_byt F)
    have HLN := hide (bytP_len F)
    have hl := (may_regs hm).1
    have HNL := hide (numL24 F hl)
    refine (encode_ok F _ wb (unhide HIG) (unhide HOF) hm).mono ?_
    rintro e w2 ⟨ax, cx, rfl, hox, hx2⟩
    obtain ⟨L, hL⟩ : ∃ L, bytP F = L := ⟨_, rfl⟩
    rw [hL] at HED HLB HLN HNL hox ⊢
    have HOX := hide hox
    have HX2 := hide ((unhide HX).trans hx2)
    have HCA2 := hide ((unhide HCA).ext hx2)
    have HIG2 := hide ((unhide HIG).ext hx2)
    have hbx := (unhide HX).size
    clear hox hx2 hL hm HX HCA HIG
    go_wp2_with (go_at_call 9999)
    refine (decode_any _ L _ (unhide HOX).row (unhide HLB)).mono ?_
    rintro e w3 ⟨hx3, ⟨hdt, a5, c5, rfl, hio⟩ | ⟨hdf, rfl⟩⟩
    case inr => rw [(unhide HED).1] at hdf; cases hdf
    obtain ⟨D, hD⟩ : ∃ D, codA L = D := ⟨_, rfl⟩
    rw [hD] at HED hio ⊢
    have HX3 := hide (((unhide HX2).trans hx3).alloc (.cells #[.int .i64 (D).stage, .slice a5 D.ins.length c5, .int .i64 (D).regs, .int .i64 (D).attr, .int .i64 (D).unif, .int .i64 (D).vary] 26))
    have HCA3 := hide (((unhide HCA2).ext hx3).alloc (.cells #[.int .i64 (D).stage, .slice a5 D.ins.length c5, .int .i64 (D).regs, .int .i64 (D).attr, .int .i64 (D).unif, .int .i64 (D).vary] 26))
    have HIG3 := hide (((unhide HIG2).ext hx3).ext ((Ext.refl w3).alloc (.cells #[.int .i64 (D).stage, .slice a5 D.ins.length c5, .int .i64 (D).regs, .int .i64 (D).attr, .int .i64 (D).unif, .int .i64 (D).vary] 26)))
    have HOX3 := hide (own_ext (unhide HOX) (hx3.trans ((Ext.refl w3).alloc (.cells #[.int .i64 (D).stage, .slice a5 D.ins.length c5, .int .i64 (D).regs, .int .i64 (D).attr, .int .i64 (D).unif, .int .i64 (D).vary] 26))))
    have HI3 := hide (hio.ir.ext ((Ext.refl w3).alloc (.cells #[.int .i64 (D).stage, .slice a5 D.ins.length c5, .int .i64 (D).regs, .int .i64 (D).attr, .int .i64 (D).unif, .int .i64 (D).vary] 26)))
    have HB3 := hide (Blk.new w3 #[.int .i64 (D).stage, .slice a5 D.ins.length c5, .int .i64 (D).regs, .int .i64 (D).attr, .int .i64 (D).unif, .int .i64 (D).vary] 26)
    clear hD hio hx3 hdt HX2 HCA2 HIG2 HOX
    go_upto_region 7 with (refine wpList_storeLast rfl 26 (.tmp 9) (.tmp 38) rfl _ w3.heap.size rfl rfl #[.int .i64 (D).stage, .slice a5 D.ins.length c5, .int .i64 (D).regs, .int .i64 (D).attr, .int .i64 (D).unif, .int .i64 (D).vary] rfl 6 size6 rfl rfl (by simp [Value.oneCell']) ?_)
    generalize w3.alloc (.cells #[.int .i64 (D).stage, .slice a5 D.ins.length c5, .int .i64 (D).regs, .int .i64 (D).attr, .int .i64 (D).unif, .int .i64 (D).vary] 26) = w4 at HX3 HCA3 HIG3 HOX3 HI3 HB3 ⊢
    generalize w3.heap.size = G3 at *
    go_wp2_with (first
      | refine wpList_load_row_wantC rfl 26 (.tmp 3) rfl w.heap.size rfl 26 #[.int .i64 (F).stage, .slice am F.ins.length cm, .int .i64 (F).regs, .int .i64 (F).attr, .int .i64 (F).unif, .int .i64 (F).vary] (0, 0) _ (unhide HCA3) Try.underlying26 rfl size6 ?_
      | refine wpList_load_row_wantC rfl 26 (.tmp 9) rfl G3 rfl 26 #[.int .i64 (D).stage, .slice a5 D.ins.length c5, .int .i64 (D).regs, .int .i64 (D).attr, .int .i64 (D).unif, .int .i64 (D).vary] (0, 0) _ (unhide HB3) Try.underlying26 rfl size6 ?_
      | (go_at_call 9999))
    refine (same_any F D _ _ w4 (unhide HIG3) (unhide HI3)).mono ?_
    rintro e w5 ⟨rfl, hx5⟩
    rw [(unhide HED).2]
    have HX5 := hide ((unhide HX3).trans hx5)
    have HCA5 := hide ((unhide HCA3).ext hx5)
    have HOX5 := hide (own_ext (unhide HOX3) hx5)
    obtain ⟨z0, z1, z2, z3, z4, z5⟩ := cellC (unhide HCA5)
    have hll : (L.length : Int) = 28 + 64 * (F.ins.length : Int) := by have := unhide HLN; omega
    clear hx5 HX3 HCA3 HIG3 HOX3 HI3 HB3
    go_upto_region 9 with fail
    obtain ⟨A, hA⟩ : ∃ A : Nat, IntKind.u64.wrap at_ = (A : Int) := ⟨(IntKind.u64.wrap at_).toNat, by simp [IntKind.wrap, IntKind.bits, IntKind.signed]; omega⟩
    go_upto_region 10 with fail
    obtain ⟨k, hk, hkl⟩ : ∃ k : Nat, wrap64 ((A : Int) % (28 + 64 * (F.ins.length : Int))) = (k : Int) ∧ k < L.length := by
      have h1 : 0 ≤ (A : Int) % (28 + 64 * (F.ins.length : Int)) := Int.emod_nonneg _ (by omega)
      have h2 : (A : Int) % (28 + 64 * (F.ins.length : Int)) < 28 + 64 * (F.ins.length : Int) := Int.emod_lt_of_pos _ (by omega)
      refine ⟨((A : Int) % (28 + 64 * (F.ins.length : Int))).toNat, ?_, by omega⟩
      unfold wrap64
      omega
    rw [hk]
    obtain ⟨_, _, exs, hnx, hlx, hcx⟩ := (unhide HOX5).row.shape
    have exs2 := (Value.slice.inj exs).2.2
    have exs1 := (Value.slice.inj exs).1
    rw [← exs2] at hlx hcx
    unfold maxLen at hcx
    have HR5 := hide (show Row .u8 w5 (.slice ax k cx) (L.take k) from by
      have h1 := (unhide HOX5).row.cut 0 k (by omega) ax (fun b off e _ => by rw [e]; rfl) (fun e => by rw [e] at exs1; have := (hnx exs1.symm); omega)
      simpa using h1)
    have HF1 := hide (dec_other F (L.take k) hl (fun h => by rw [numA_take L k (by simp at h; omega)]; exact unhide HNL) (by simp; omega))
    have HF2 := hide (dec_other F (L ++ [0]) hl (fun h => by rw [numA_app L (by omega)]; exact unhide HNL) (by simp; omega))
    have hkc : (k : Int) ≤ (cx : Int) := by omega
    clear exs exs1 exs2 hnx z0 z1 z2 z3 z4 z5 hA hk
    go_wp2_with (go_at_call 9999)
    refine (decode_any _ (L.take k) _ (unhide HR5) (fun x hx => unhide HLB x (List.mem_of_mem_take hx))).mono ?_
    rintro e w6 ⟨hx6, ⟨hdt, _⟩ | ⟨_, rfl⟩⟩
    case inl => rw [unhide HF1] at hdt; cases hdt
    have HX7 := hide (((unhide HX5).trans hx6).alloc (.cells #[.int .i64 0, .slice none 0 0, .int .i64 0, .int .i64 0, .int .i64 0, .int .i64 0] 26))
    have HOX7 := hide (own_ext (unhide HOX5) (hx6.trans ((Ext.refl w6).alloc (.cells #[.int .i64 0, .slice none 0 0, .int .i64 0, .int .i64 0, .int .i64 0, .int .i64 0] 26))))
    clear HX5 HCA5 HOX5 HR5 HF1
    go_upto_region 11 with (refine wpList_storeLast rfl 26 (.tmp 12) (.tmp 70) rfl _ w6.heap.size rfl rfl #[.int .i64 0, .slice none 0 0, .int .i64 0, .int .i64 0, .int .i64 0, .int .i64 0] rfl 6 size6 rfl rfl (by simp [Value.oneCell']) ?_)
    generalize w6.alloc (.cells #[.int .i64 0, .slice none 0 0, .int .i64 0, .int .i64 0, .int .i64 0, .int .i64 0] 26) = w7 at HX7 HOX7 ⊢
    clear hx6
    obtain ⟨L1, hL1⟩ : ∃ L1, L1 = L ++ [0] := ⟨_, rfl⟩
    rw [← hL1] at HF2
    have HB1 : Hid (Byt L1) := fun x hx => by
      rw [hL1] at hx
      rcases List.mem_append.1 hx with h | h
      · exact unhide HLB x h
      · simp at h; omega
    obtain ⟨i0, hi, hz0, hz1, hz2⟩ := info_parts infoU8C
    have hb7 := (unhide HX7).size
    have hb8 := (unhide HOX7)
    have hlb : wb.heap.size ≤ w7.heap.size := by
      rcases hb8.2 with ⟨e, e0⟩ | ⟨g, cap, cur, e, h1, h2, r⟩
      · omega
      · have := (Array.getElem?_eq_some_iff.1 h2).1
        omega
    clear hb8
    go_wp2_with (at_builtin; refine wpList_append_Own rfl (.tmp 73) (.tmp 74) 29 rfl wb.heap.size 5 i0 .u8 1 Try.underlying29 hi hz0 hz1 hz2 _ L rfl (own_ext (unhide HOX7) ((Ext.refl w7).alloc _)) _ [0] rfl ((Own.block (k := .u8) (e := 5) (base := 0) w7 [0] (Nat.zero_le _) (by unfold maxLen; simp)).row) ?c1 ?c2 ?c3 ?_)
    case c1 => unfold maxLen; simp; omega
    case c2 => simp; omega
    case c3 => simp; omega
    intro v8 w8 hown hgrow
    rw [← hL1] at hown
    have hx8 : Ext w w8 := ((unhide HX7).alloc _).grown hgrow (by simp; omega) (fun g e => by have := (World.ownsRow.lt (unhide HOX7) g e).1; omega)
    obtain ⟨ap, cp, rfl⟩ := hown.shape
    have HR8 := hide hown.row
    have HX8 := hide hx8
    clear hown hgrow hx8 HX7 HOX7 hi hz0 hz1 hz2 hL1
    go_wp2_with (go_at_call 9999)
    refine (decode_any _ L1 _ (unhide HR8) (unhide HB1)).mono ?_
    rintro e w9 ⟨hx9, ⟨hdt, _⟩ | ⟨_, rfl⟩⟩
    case inl => rw [unhide HF2] at hdt; cases hdt
    have HX := hide (((unhide HX8).trans hx9).alloc (.cells #[.int .i64 0, .slice none 0 0, .int .i64 0, .int .i64 0, .int .i64 0, .int .i64 0] 26))
    clear HX8 HR8 HF2 HLB HLN HNL HED
    go_upto_region 12 with (refine wpList_storeLast rfl 26 (.tmp 14) (.tmp 77) rfl _ w9.heap.size rfl rfl #[.int .i64 0, .slice none 0 0, .int .i64 0, .int .i64 0, .int .i64 0, .int .i64 0] rfl 6 size6 rfl rfl (by simp [Value.oneCell']) ?_)
    generalize w9.alloc (.cells #[.int .i64 0, .slice none 0 0, .int .i64 0, .int .i64 0, .int .i64 0, .int .i64 0] 26) = w10 at HX ⊢
    clear hx9
    go_upto_region 14 with fail
    go_wp2_with (go_at_call 9999)
    refine (decode_any _ ds _ (unhide HD _ (unhide HX)) (unhide HBD)).mono ?_
    rintro e wd ⟨hxd, ⟨hdt, a8, c8, rfl, hio⟩ | ⟨hdf, rfl⟩⟩
    · have HDE := hide (dec_enc ds (unhide HBD) hdt)
      have HMD := hide (dec_may hdt)
      have HOD := hide (codA_ok ds (unhide HBD))
      obtain ⟨D, hD⟩ : ∃ D, codA ds = D := ⟨_, rfl⟩
      rw [hD] at HDE HMD HOD hio ⊢
      have HXd := hide (((unhide HX).trans hxd).alloc (.cells #[.int .i64 (D).stage, .slice a8 D.ins.length c8, .int .i64 (D).regs, .int .i64 (D).attr, .int .i64 (D).unif, .int .i64 (D).vary] 26))
      have HI9 := hide (hio.ir.ext ((Ext.refl wd).alloc (.cells #[.int .i64 (D).stage, .slice a8 D.ins.length c8, .int .i64 (D).regs, .int .i64 (D).attr, .int .i64 (D).unif, .int .i64 (D).vary] 26)))
      have HB9 := hide (Blk.new wd #[.int .i64 (D).stage, .slice a8 D.ins.length c8, .int .i64 (D).regs, .int .i64 (D).attr, .int .i64 (D).unif, .int .i64 (D).vary] 26)
      clear hD hio hxd hdt HX
      go_upto_region 15 with (refine wpList_storeLast rfl 26 (.tmp 16) (.tmp 88) rfl _ wd.heap.size rfl rfl #[.int .i64 (D).stage, .slice a8 D.ins.length c8, .int .i64 (D).regs, .int .i64 (D).attr, .int .i64 (D).unif, .int .i64 (D).vary] rfl 6 size6 rfl rfl (by simp [Value.oneCell']) ?_)
      generalize wd.alloc (.cells #[.int .i64 (D).stage, .slice a8 D.ins.length c8, .int .i64 (D).regs, .int .i64 (D).attr, .int .i64 (D).unif, .int .i64 (D).vary] 26) = w9 at HXd HI9 HB9 ⊢
      generalize wd.heap.size = G9 at *
      go_wp2_with (first
        | refine wpList_load_row rfl 26 (.tmp 16) rfl G9 rfl 26 #[.int .i64 (D).stage, .slice a8 D.ins.length c8, .int .i64 (D).regs, .int .i64 (D).attr, .int .i64 (D).unif, .int .i64 (D).vary] (0, 0) _ (unhide HB9) Try.underlying26 rfl size6 ?_
        | (go_at_call 9999))
      refine (encode_ok D _ w9 (unhide HI9) (unhide HOD) (unhide HMD)).mono ?_
      rintro e w10 ⟨ay, cy, rfl, hoy, hx10⟩
      rw [unhide HDE] at hoy ⊢
      have HX10 := hide ((unhide HXd).trans hx10)
      have HEQ := hide (equal_sameC ay bo cy cb ds w10 hoy.row (unhide HD _ (unhide HX10)))
      clear hoy hx10 HXd HI9 HB9
      go_wp2_with (go_at_call 9999)
      refine (unhide HEQ).mono ?_
      rintro e w11 ⟨rfl, rfl⟩
      go_wp2
      go_ret
      exact ⟨rfl, unhide HX10⟩
    · have HXd := hide (((unhide HX).trans hxd).alloc (.cells #[.int .i64 0, .slice none 0 0, .int .i64 0, .int .i64 0, .int .i64 0, .int .i64 0] 26))
      clear hxd hdf HX
      go_upto_region 15 with (refine wpList_storeLast rfl 26 (.tmp 16) (.tmp 88) rfl _ wd.heap.size rfl rfl #[.int .i64 0, .slice none 0 0, .int .i64 0, .int .i64 0, .int .i64 0, .int .i64 0] rfl 6 size6 rfl rfl (by simp [Value.oneCell']) ?_)
      go_wp2
      go_ret
      exact ⟨rfl, unhide HXd⟩
    

set_option maxRecDepth 100000 in
theorem back16_owes (H : Type) (enc : TypeId × Value → H) (W : World) (base : Nat) (args : Array Value) (ds : List (DataW H)) (p : List MemPlace) : Owes H enc Try.prog 7 Try.f7 Rows.codeBackSpec W base args ds p := by
  intro hval hA hsz
  rw [Try.params7] at hA hval hsz
  obtain ⟨v0, vs0, d0, ds0, p0, q0, hargs, rfl, rfl, h0, r0⟩ := trodAll_cons hA
  obtain ⟨v1, vs1, d1, ds1, p1, q1, rfl, rfl, rfl, h1, r1⟩ := trodAll_cons r0
  obtain ⟨v2, vs2, d2, ds2, p2, q2, rfl, rfl, rfl, h2, r2⟩ := trodAll_cons r1
  obtain ⟨rfl, rfl, rfl⟩ := trodAll_nil r2
  obtain rfl : args = #[v0, v1, v2] := by cases args; simp_all
  obtain ⟨C, u, rfl, hC, hok⟩ := open_codA (hval 0 26 v0 rfl rfl) h0
  obtain ⟨xs, hrow, hwf, hlen⟩ := open_row (j := 1) Try.underlying29 Try.underlying5 (by kernel_rfl) (hval 1 29 v1 rfl rfl) h1 hsz rfl rfl
  obtain ⟨at_, rfl, rfl, rfl, hat⟩ := open_int Try.underlying3 (hval 2 3 v2 rfl rfl) h2
  obtain ⟨bo, cb, rfl, _⟩ := hrow.shape
  exact ⟨⟨rfl, rfl, rfl⟩, codeBack_walk C u bo cb xs at_ W hC hok hrow (fun x hx => by have := hwf x hx; simp only [Lit.wf, Bool.and_eq_true, decide_eq_true_eq] at this; exact this) (wf64 hat).1 (wf64 hat).2⟩

set_option maxRecDepth 100000 in
theorem back16_lifted (os : Os) (started : os.Started) (H : Type) (enc : TypeId × Value → H) :
    ReturnsInHanded {} Try.checked os 7 .any (Rows.codeBackSpec.pre6 enc Try.prog Try.f7 [] false) (Rows.codeBackSpec.post enc Try.prog Try.f7 false true false false) :=
  lift_law (C := Try.checked) own laidOut started (by kernel_rfl) Try.func7 (T := 4) rfl Try.underlying4 rfl (by kernel_rfl)
    (ChangeSpec.witness6 (enc := enc) (C := Try.checked) false ⟨#[], #[.agg #[.int .i64 0, .slice none 0 0, .int .i64 0, .int .i64 0, .int .i64 0, .int .i64 0], .slice none 0 0, .int .i64 0], []⟩ 8 (by kernel_rfl) (by kernel_rfl) (by kernel_rfl) (by kernel_rfl)) (back16_owes H enc)

theorem codeBack_holds : Rows.CodeBackSaid :=
  OpenClaim.holds_of_wide 7 Try.f7 rfl rfl rfl rfl rfl rfl rfl ⟨rfl, rfl, rfl, rfl, rfl⟩ rfl rfl rfl rfl rfl (by kernel_rfl) Try.func7 (by kernel_rfl)
    (of_decide_eq_true (by kernel_rfl)) (by unfold Func.isWrapper; rw [if_neg (of_decide_eq_false (by kernel_rfl))]; exact ⟨rfl, rfl⟩)
    (fun os started H enc _ => back16_lifted os started H enc)
#print axioms codeBack_holds
end Go.Proofs.Ytclkpahihfeacaa
