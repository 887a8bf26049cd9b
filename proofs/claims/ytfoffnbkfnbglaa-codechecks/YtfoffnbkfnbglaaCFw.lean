/-
  few: a code that can be played in time, with room behind its list; what is cut of a row of instructions. What the dump lacks is left out.
-/
import Derived.Test.YtfoffnbkfnbglaaCU
import Derived.Test.YtfoffnbkfnbglaaCV
import Derived.Deep.RegionHeld3
import Derived.Laws.MakeOwn
import Derived.Deep.Cut
import Derived.Deep.DeepCutAuto
namespace Go.Proofs.Ytfoffnbkfnbglaa
open Go.RowKit
set_option linter.unusedSimpArgs false
set_option linter.unusedVariables false

def i77 : Nat → Int := fun k => if k = 0 then 77 else 0
theorem wrapIdC {x : Int} (h0 : 0 ≤ x) (h1 : x ≤ 1000000) : IntKind.i64.wrap x = x := by
  simp [IntKind.wrap, IntKind.bits, IntKind.signed]
  omega
theorem IR.lit {w : World} {g : Nat} (h : Blk w g (insA i77) 39) : IR w (.slice (some ⟨g, 0, none⟩) 1 1) [i77] := by
  refine ⟨_, 1, rfl, (fun h => by cases h), Nat.le_refl _, by unfold maxLen; omega, fun i hi => ⟨_, 0, rfl, ?_⟩⟩
  have : i = 0 := by simp at hi; omega
  subst this
  intro j u hu
  exact h.cell (by simpa using hu)
theorem IR.take {w : World} {ao : Option Addr} {n cap : Nat} {L : List (Nat → Int)} (h : IR w (.slice ao n cap) L) (m : Nat) (hm : m ≤ L.length) : IR w (.slice ao m cap) (L.take m) := by
  obtain ⟨ao', cap', e, h1, h2, h3, h4⟩ := h
  cases e
  have hl : (L.take m).length = m := by simp; omega
  refine ⟨ao, cap, by rw [hl], h1, by rw [hl]; omega, h3, fun i hi => ?_⟩
  rw [hl] at hi
  have := h4 i (by omega)
  simpa using this
theorem IR.cellsOf {w : World} {b off n cap : Nat} {L : List (Nat → Int)} (h : IR w (.slice (some ⟨b, off, none⟩) n cap) L) : ∀ j u, (icells L)[j]? = some u → w.cell? ((⟨b, off, none⟩ : Addr).add j) = some u := by
  intro j u hu
  have hjl : j < L.length * 16 := by
    have := (List.getElem?_eq_some_iff.1 hu).1
    rw [icells_len] at this
    exact this
  have hi : j / 16 < L.length := by omega
  obtain ⟨_, _, e, _, _, _, h4⟩ := h
  obtain ⟨b2, o2, e2, hr⟩ := h4 (j / 16) hi
  have e1 := (Value.slice.inj e).1
  rw [← e1] at e2
  cases e2
  have hj : j = j / 16 * 16 + j % 16 := by omega
  rw [hj, icells_get L (j / 16) hi (j % 16) (by omega)] at hu
  have := hr (j % 16) u hu
  rw [Addr.add_lit, hj, ← Nat.add_assoc]
  simpa using this
theorem Blk.grownO {w w' : World} {g : Nat} {cs : Array Value} {t : TypeId} {row : Option Nat} (h : Blk w g cs t) (hg : w.grownBy w' row) (hne : row ≠ some g) : Blk w' g cs t := (hg.block g h.lt (fun e => hne e.symm)).trans h
section
variable {w : World} {o : Oper} {a : Act} {K : Act → World → Prop} {Q : Exit → Act → World → Prop}
theorem wp_make_ins (l c : Operand) (hop : o.op = Op.makeSlice 24 l c) (base n : Nat) (hl : a.eval l = .int .i64 0) (hc : a.eval c = .int .i64 ((n : Nat) : Int)) (hn : n ≤ 1000000) (hb : base ≤ w.heap.size)
    (h : ∀ w', OI w' base (.slice (some ⟨w.heap.size, 0, none⟩) 0 n) [] → w.grownBy w' none → K (a.put o.dst (.slice (some ⟨w.heap.size, 0, none⟩) 0 n)) w') : o.wp Try.prog a w K Q := by
  obtain ⟨i0, hi, hz0, hz1, hz2⟩ := info_all infoI
  obtain ⟨w', hrun, r1, r2⟩ := run_make_own (P := Try.prog) w base 24 39 i0 _ 16 Try.underlying24 hi hz0 hz1 .i64 .i64 n (by rw [hz2]; omega) (by unfold maxLen; omega) hb
  unfold Oper.wp
  simp [execOp, hop, hl, hc, hrun, Result.andThen]
  exact h w' r1 r2
theorem wp_append_inss (s x : Operand) (ho : o.op = .call { callee := .builtin .append, args := #[s, x], argTypes := #[24, 24] }) (base : Nat) (v : Value) (L M : List (Nat → Int)) (hs : a.eval s = v)
    (hown : OI w base v L) (ao : Option Addr) (c : Nat) (hx : a.eval x = .slice ao M.length c) (hrow : IR w (.slice ao M.length c) M) (hL : L.length + M.length ≤ 1000000) (hbase : base ≤ w.heap.size)
    (h : ∀ v' w', OI w' base v' (L ++ M) → w.grownBy w' v.ownBlock → K (a.put o.dst v') w') : o.wp Try.prog a w K Q := by
  obtain ⟨i0, hi, hz0, hz1, hz2⟩ := info_all infoI
  cases ao with
  | none =>
    obtain ⟨_, _, e, h0, _, _, h4⟩ := hrow
    have e1 := (Value.slice.inj e).1
    have e3 := (Value.slice.inj e).2.2
    have hM : M = [] := by
      cases M with
      | nil => rfl
      | cons t r =>
        obtain ⟨b, off, e5, _⟩ := h4 0 (by simp)
        rw [← e1] at e5
        cases e5
    subst hM
    have hc0 := h0 e1.symm
    rw [← e3] at hc0
    subst hc0
    have hrun := run_append_owned_none (P := Try.prog) (w := w) base 24 o.type 39 i0 16 Try.underlying24 hi v _ _ hown
    unfold Oper.wp
    simp [execOp, ho, resolve, invoke, builtin, hs, hx, hrun, Result.andThen]
    exact h v w (by rw [List.append_nil]; exact hown) (World.grownBy.refl _ _)
  | some ad =>
    refine wp_append_own w s x 24 ho base 39 i0 _ 16 112 Try.underlying24 hi hz0 hz1 hz2 rfl (by decide) v L.length (icells L) hs hown ad M.length c (icells M) hx (icells_len M) ?_ (icells_ones M) (by unfold maxLen; omega) (by omega) hbase ?_
    · intro j u hu
      have hne : 0 < M.length := by
        have := (List.getElem?_eq_some_iff.1 hu).1
        rw [icells_len] at this
        omega
      obtain ⟨_, _, e, _, _, _, h4⟩ := id hrow
      obtain ⟨b, off, e5, _⟩ := h4 0 hne
      have e1 := (Value.slice.inj e).1
      rw [← e1] at e5
      cases e5
      exact hrow.cellsOf j u hu
    · intro v' w' h1 h2 _
      rw [← icells_append, ← List.length_append] at h1
      exact h v' w' h1 h2
theorem wp_build_ins (x : Operand) (ho : o.op = .buildSlice 24 1 #[(0, x)]) (hx : a.eval x = .agg (insA i77)) (h : K (a.put o.dst (.slice (some ⟨w.heap.size, 0, none⟩) 1 1)) (w.alloc (.cells (insA i77) 39))) : o.wp Try.prog a w K Q := by
  obtain ⟨i0, hi, hz0, hz1, hz2⟩ := info_all infoI
  refine wp_buildSlice 24 39 1 _ ho _ i0 _ Try.underlying24 hi hz0 (by rw [hz1]; omega) (by rw [hz1]; omega) ?_ h
  rw [show (#[(0, x)] : Array (Nat × Operand)).map (fun (i, x) => (i, a.eval x)) = #[(0, .agg (insA i77))] by simp [hx], hz1]
  kernel_rfl
end

/-- A code, its list cut. -/
def fewC (C : Cod) : Cod := ⟨C.stage, C.regs, C.attr, C.unif, C.vary, C.ins.take 4097⟩
def FewQ (w : World) (C : Cod) (e : Ending) (w' : World) : Prop := ∃ am cm, e = .returned (.agg #[.int .i64 ((fewC C)).stage, .slice am (fewC C).ins.length cm, .int .i64 ((fewC C)).regs, .int .i64 ((fewC C)).attr, .int .i64 ((fewC C)).unif, .int .i64 ((fewC C)).vary]) ∧ OI w' w.heap.size (.slice am ((fewC C).ins.length + 1) cm) ((fewC C).ins ++ [i77]) ∧ Ext w w'

set_option maxHeartbeats 4000000 in
set_option maxRecDepth 100000 in
theorem few_any (C : Cod) (v : Value) (w : World) (h : IR w v C.ins) : Calls Try.prog 24 #[.agg #[.int .i64 (C).stage, v, .int .i64 (C).regs, .int .i64 (C).attr, .int .i64 (C).unif, .int .i64 (C).vary]] w (FewQ w C) := by
  have HV := hide h
  obtain ⟨ao, ca, rfl, hn0, hlc, hcm, hat⟩ := h
  clear hat hn0
  unfold maxLen at hcm
  obtain ⟨n, hn⟩ : ∃ n, n = min C.ins.length 4097 := ⟨_, rfl⟩
  have hmin : min C.ins.length 4097 = n := hn.symm
  obtain ⟨M, hM⟩ : ∃ M, M = C.ins.take n := ⟨_, rfl⟩
  have HLT : Hid (M.length = n) := by
    show M.length = n
    rw [hM, List.length_take]
    omega
  have HTK : Hid (∀ wx, Ext w wx → IR wx (.slice ao n ca) M) := fun wx hx => by
    rw [hM]
    exact ((unhide HV).ext hx).take n (by omega)
  have HFE : Hid (fewC C = ⟨C.stage, C.regs, C.attr, C.unif, C.vary, M⟩) := by
    show fewC C = _
    unfold fewC
    rw [hM]
    congr 1
    by_cases h9 : C.ins.length ≤ 4097
    · rw [List.take_of_length_le h9, List.take_of_length_le (by omega)]
    · congr 1; omega
  have HX0 : Hid (Ext w ((w.alloc (.cells #[.int .i64 (C).stage, .slice ao C.ins.length ca, .int .i64 (C).regs, .int .i64 (C).attr, .int .i64 (C).unif, .int .i64 (C).vary] 26)).alloc (.cells #[.int .i64 0, .slice none 0 0, .int .i64 0, .int .i64 0, .int .i64 0, .int .i64 0] 26))) := ((Ext.refl w).alloc _).alloc _
  have HB0 : Hid (Blk ((w.alloc (.cells #[.int .i64 (C).stage, .slice ao C.ins.length ca, .int .i64 (C).regs, .int .i64 (C).attr, .int .i64 (C).unif, .int .i64 (C).vary] 26)).alloc (.cells #[.int .i64 0, .slice none 0 0, .int .i64 0, .int .i64 0, .int .i64 0, .int .i64 0] 26)) w.heap.size #[.int .i64 (C).stage, .slice ao C.ins.length ca, .int .i64 (C).regs, .int .i64 (C).attr, .int .i64 (C).unif, .int .i64 (C).vary] 26) := (Blk.new w _ _).alloc _
  have HR0 : Hid (Blk ((w.alloc (.cells #[.int .i64 (C).stage, .slice ao C.ins.length ca, .int .i64 (C).regs, .int .i64 (C).attr, .int .i64 (C).unif, .int .i64 (C).vary] 26)).alloc (.cells #[.int .i64 0, .slice none 0 0, .int .i64 0, .int .i64 0, .int .i64 0, .int .i64 0] 26)) (w.heap.size + 1) #[.int .i64 0, .slice none 0 0, .int .i64 0, .int .i64 0, .int .i64 0, .int .i64 0] 26) := Blk.here (by simp)
  have hn7 : n ≤ C.ins.length ∧ n ≤ 4097 := by omega
  have hmi : min (C.ins.length : Int) 4097 = (n : Int) := by omega
  clear hn hM HV
  go_enter Try.func24, Try.ntmps24
  have hif : (if (4097 : Int) < (C.ins.length : Int) then (4097 : Int) else (C.ins.length : Int)) = (n : Int) := by split <;> omega
  go_upto_region 2 with fail
  try simp only [hif]
  generalize (w.alloc (.cells #[.int .i64 (C).stage, .slice ao C.ins.length ca, .int .i64 (C).regs, .int .i64 (C).attr, .int .i64 (C).unif, .int .i64 (C).vary] 26)).alloc (.cells #[.int .i64 0, .slice none 0 0, .int .i64 0, .int .i64 0, .int .i64 0, .int .i64 0] 26) = w0 at HX0 HB0 HR0 ⊢
  go_cut [21] (fun p wc => ∃ am9 cm9, p = .pointer (some ⟨w.heap.size, 1, none⟩) ∧ Blk wc w.heap.size #[.int .i64 (C).stage, .slice am9 n cm9, .int .i64 (C).regs, .int .i64 (C).attr, .int .i64 (C).unif, .int .i64 (C).vary] 26 ∧ Blk wc (w.heap.size + 1) #[.int .i64 0, .slice none 0 0, .int .i64 0, .int .i64 0, .int .i64 0, .int .i64 0] 26 ∧ OI wc w.heap.size (.slice am9 (n + 1) cm9) (M ++ [i77]) ∧ Ext w wc)
  case first =>
    refine wp_region_noPanic ?_
    refine wp_region_held_drew (S := fun wx => Ext w wx) (by kernel_rfl) ((unhide HX0).drew) (fun HS => ?_)
    refine wpAnyH_take (i := 0) (oi := { dst := some 8, op := Op.move (Operand.tmp 3), type := _, pos := _, after := _, guard := none }) (v := .int .i64 (n : Int)) rfl (by kernel_rfl) (by kernel_rfl) (by kernel_rfl) (fun _ _ _ h => h) (Or.inl ⟨by rfl, fun wx hx => by go_simp <;> omega⟩) HS ?_
    simp only [Act.put, List.setIfInBounds_toArray, List.set_cons_zero, List.set_cons_succ]
    refine wpAnyH_take (i := 1) (oi := { dst := some 9, op := Op.binOp BinOp.add _ (Operand.tmp 8) (Operand.const (Value.int IntKind.i64 2)) _, type := _, pos := _, after := _, guard := none }) (v := .int .i64 ((n : Int) + 2)) rfl (by kernel_rfl) (by kernel_rfl) (by kernel_rfl) (fun _ _ _ h => h) (Or.inl ⟨by rfl, fun wx hx => by go_simp; exact wrapIdC (by omega) (by omega)⟩) HS ?_
    simp only [Act.put, List.setIfInBounds_toArray, List.set_cons_zero, List.set_cons_succ]
    refine wpAnyH_take (i := 3) (oi := { dst := some 11, op := Op.fieldAddr _ (Operand.tmp 1) 1, type := _, pos := _, after := _, guard := none }) (v := .pointer (some ⟨w.heap.size, 1, none⟩)) rfl (by kernel_rfl) (by kernel_rfl) (by kernel_rfl) (fun _ _ _ h => h) (Or.inl ⟨by rfl, fun wx hx => by exact rfl⟩) HS ?_
    simp only [Act.put, List.setIfInBounds_toArray, List.set_cons_zero, List.set_cons_succ]
    refine wpAnyH_take (i := 5) (oi := { dst := some 13, op := Op.move (Operand.tmp 3), type := _, pos := _, after := _, guard := none }) (v := .int .i64 (n : Int)) rfl (by kernel_rfl) (by kernel_rfl) (by kernel_rfl) (fun _ _ _ h => h) (Or.inl ⟨by rfl, fun wx hx => by go_simp <;> omega⟩) HS ?_
    simp only [Act.put, List.setIfInBounds_toArray, List.set_cons_zero, List.set_cons_succ]
    refine wpAnyH_take (i := 8) (oi := { dst := some 16, op := Op.build _ #[(0, Operand.const (Value.int IntKind.i64 77))], type := _, pos := _, after := _, guard := none }) (v := .agg (insA i77)) rfl (by kernel_rfl) (by kernel_rfl) (by kernel_rfl) (fun _ _ _ h => h) (Or.inl ⟨by rfl, fun wx hx => by kernel_rfl⟩) HS ?_
    simp only [Act.put, List.setIfInBounds_toArray, List.set_cons_zero, List.set_cons_succ]
    refine wpAnyH_take (i := 11) (oi := { dst := some 19, op := Op.move (Operand.tmp 3), type := _, pos := _, after := _, guard := none }) (v := .int .i64 (n : Int)) rfl (by kernel_rfl) (by kernel_rfl) (by kernel_rfl) (fun _ _ _ h => h) (Or.inl ⟨by rfl, fun wx hx => by go_simp <;> omega⟩) HS ?_
    simp only [Act.put, List.setIfInBounds_toArray, List.set_cons_zero, List.set_cons_succ]
    have HBc : Hid (Blk w0.drew w.heap.size #[.int .i64 (C).stage, .slice ao C.ins.length ca, .int .i64 (C).regs, .int .i64 (C).attr, .int .i64 (C).unif, .int .i64 (C).vary] 26) := unhide HB0
    have HRz : Hid (Blk w0.drew (w.heap.size + 1) #[.int .i64 0, .slice none 0 0, .int .i64 0, .int .i64 0, .int .i64 0, .int .i64 0] 26) := unhide HR0
    generalize w0.drew = wa at HS HBc HRz ⊢
    refine wpAnyH_ready (rs := [2, 4, 9]) (by kernel_rfl) (by simp) (AllReadyH.cons (o := { dst := some 10, op := Op.makeSlice _ (Operand.const (Value.int IntKind.i64 0)) (Operand.tmp 9), type := _, pos := _, after := _, guard := none }) rfl (fun KK hK => ?_) (AllReadyH.cons (o := { dst := some 12, op := Op.load _ (Operand.tmp 11), type := _, pos := _, after := _, guard := none }) rfl (fun KK hK => ?_) (AllReadyH.cons (o := { dst := some 17, op := Op.buildSlice _ 1 #[(0, Operand.tmp 16)], type := _, pos := _, after := _, guard := none }) rfl (fun KK hK => ?_) AllReadyH.nil)))
    · rw [if_pos (by rfl)]
      refine wp_make_ins (Operand.const (Value.int IntKind.i64 0)) (Operand.tmp 9) rfl w.heap.size (n + 2) rfl rfl (by omega) HS.size ?_
      intro w11 hm hg
      have hxx : Ext wa w11 := grown_below hg (Nat.le_refl _) (fun k h => by cases h)
      have HM := hide hm
      have HBc2 := hide ((unhide HBc).ext hxx)
      have HRz2 := hide ((unhide HRz).ext hxx)
      clear HBc
      have HBc := HBc2
      clear HBc2
      clear HRz
      have HRz := HRz2
      clear HRz2
      have HS2 := HS.trans hxx
      clear hm hg hxx
      clear HS
      have HS := HS2
      clear HS2
      refine hK.out _ _ HS (fun _ => ?_)
      clear hK KK
      try simp only [Act.put, List.setIfInBounds_toArray, List.set_cons_zero, List.set_cons_succ]
      refine wpAnyH_ready (rs := [4, 9]) (by kernel_rfl) (by simp) (AllReadyH.cons (o := { dst := some 12, op := Op.load _ (Operand.tmp 11), type := _, pos := _, after := _, guard := none }) rfl (fun KK hK => ?_) (AllReadyH.cons (o := { dst := some 17, op := Op.buildSlice _ 1 #[(0, Operand.tmp 16)], type := _, pos := _, after := _, guard := none }) rfl (fun KK hK => ?_) AllReadyH.nil))
      · have c1 := (cellC (unhide HBc)).2.1
        go_simp
        refine hK.out _ _ HS (fun _ => ?_)
        clear hK KK c1
        try simp only [Act.put, List.setIfInBounds_toArray, List.set_cons_zero, List.set_cons_succ]
        refine wpAnyH_take (i := 6) (oi := { dst := some 14, op := Op.slice _ (Operand.tmp 12) none (some (Operand.tmp 13)) none, type := _, pos := _, after := _, guard := none }) (v := .slice ao n ca) rfl (by kernel_rfl) (by kernel_rfl) (by kernel_rfl) (fun _ _ _ h => h) (Or.inl ⟨by rfl, fun wx hx => by go_simp <;> omega⟩) HS ?_
        simp only [Act.put, List.setIfInBounds_toArray, List.set_cons_zero, List.set_cons_succ]
        refine wpAnyH_ready (rs := [7, 9]) (by kernel_rfl) (by simp) (AllReadyH.cons (o := { dst := some 15, op := Op.call { callee := Callee.builtin Builtin.append, args := #[Operand.tmp 10, Operand.tmp 14], argTypes := _ }, type := _, pos := _, after := _, guard := none }) rfl (fun KK hK => ?_) (AllReadyH.cons (o := { dst := some 17, op := Op.buildSlice _ 1 #[(0, Operand.tmp 16)], type := _, pos := _, after := _, guard := none }) rfl (fun KK hK => ?_) AllReadyH.nil))
        · rw [if_pos (by rfl)]
          refine wp_append_inss (Operand.tmp 10) (Operand.tmp 14) rfl w.heap.size _ [] M rfl (unhide HM) ao ca (by rw [unhide HLT]; rfl) (by rw [unhide HLT]; exact unhide HTK _ HS) (by rw [unhide HLT]; simp; omega) HS.size ?_
          intro v6 w12 hm2 hg
          have hxx : Ext w w12 := HS.grown hg HS.size (fun k e => ((unhide HM).lt k e).1)
          have HBc2 := hide (((unhide HBc).grownO hg ((unhide HM).neB (unhide HBc) (by decide))))
          have HRz2 := hide (((unhide HRz).grownO hg ((unhide HM).neB (unhide HRz) (by decide))))
          rw [List.nil_append] at hm2
          obtain ⟨am6, cm6, e6, _⟩ := hm2.shape
          rw [unhide HLT] at e6
          subst e6
          clear HM
          have HM := hide hm2
          clear HBc
          have HBc := HBc2
          clear HBc2
          clear HRz
          have HRz := HRz2
          clear HRz2
          clear hm2 hg HS
          have HS := hxx
          clear hxx
          refine hK.out _ _ HS (fun _ => ?_)
          clear hK KK
          try simp only [Act.put, List.setIfInBounds_toArray, List.set_cons_zero, List.set_cons_succ]
          refine wpAnyH_ready (rs := [9]) (by kernel_rfl) (by simp) (AllReadyH.cons (o := { dst := some 17, op := Op.buildSlice _ 1 #[(0, Operand.tmp 16)], type := _, pos := _, after := _, guard := none }) rfl (fun KK hK => ?_) AllReadyH.nil)
          rw [if_pos (by rfl)]
          refine wp_build_ins (Operand.tmp 16) rfl rfl ?_
          have HG := hide (Blk.new w12 (insA i77) 39)
          have HD0 : Hid (∀ g, (Value.slice am6 n cm6).ownBlock = some g → g < w12.heap.size) := fun g hg2 => ((unhide HM).lt g hg2).2
          have HM2 := hide ((unhide HM).ext ((Ext.refl w12).alloc (.cells (insA i77) 39)))
          clear HM
          have HM := HM2
          clear HM2
          have HBc2 := hide ((unhide HBc).ext ((Ext.refl w12).alloc (.cells (insA i77) 39)))
          have HRz2 := hide ((unhide HRz).ext ((Ext.refl w12).alloc (.cells (insA i77) 39)))
          clear HBc
          have HBc := HBc2
          clear HBc2
          clear HRz
          have HRz := HRz2
          clear HRz2
          have HS2 := HS.alloc (.cells (insA i77) 39)
          clear HS
          have HS := HS2
          clear HS2
          refine hK.out _ _ HS (fun _ => ?_)
          clear hK KK
          try simp only [Act.put, List.setIfInBounds_toArray, List.set_cons_zero, List.set_cons_succ]
          obtain ⟨g7, hg7⟩ : ∃ g, g = w12.heap.size := ⟨_, rfl⟩
          have HD : Hid ((Value.slice am6 n cm6).ownBlock ≠ some g7) := fun hg2 => by
            have := unhide HD0 g7 hg2
            omega
          clear HD0
          rw [← hg7] at HG ⊢
          generalize w12.alloc (.cells (insA i77) 39) = w13 at HS HG HBc HRz HM ⊢
          clear hg7
          refine wpAnyH_ready (rs := [10]) (by kernel_rfl) (by simp) (AllReadyH.cons (o := { dst := some 18, op := Op.call { callee := Callee.builtin Builtin.append, args := #[Operand.tmp 15, Operand.tmp 17], argTypes := _ }, type := _, pos := _, after := _, guard := none }) rfl (fun KK hK => ?_) AllReadyH.nil)
          rw [if_pos (by rfl)]
          refine wp_append_inss (Operand.tmp 15) (Operand.tmp 17) rfl w.heap.size _ M [i77] rfl (unhide HM) _ _ rfl (IR.lit (unhide HG)) (by rw [unhide HLT]; simp; omega) HS.size ?_
          intro v9 w14 hm2 hg
          have hxx : Ext w w14 := HS.grown hg HS.size (fun k e => ((unhide HM).lt k e).1)
          have HBc2 := hide (((unhide HBc).grownO hg ((unhide HM).neB (unhide HBc) (by decide))))
          have HRz2 := hide (((unhide HRz).grownO hg ((unhide HM).neB (unhide HRz) (by decide))))
          obtain ⟨am9, cm9, e9, hao9, hcap9, hmx9⟩ := hm2.shape
          have hl9 : (M ++ [i77]).length = n + 1 := by rw [List.length_append, unhide HLT]; rfl
          rw [hl9] at e9 hcap9
          subst e9
          clear HM HG
          try clear HD
          have HM := hide hm2
          clear HBc
          have HBc := HBc2
          clear HBc2
          clear HRz
          have HRz := HRz2
          clear HRz2
          clear hm2 hg HS hl9
          have HS := hxx
          clear hxx
          unfold maxLen at hmx9
          refine hK.out _ _ HS (fun _ => ?_)
          clear hK KK
          try simp only [Act.put, List.setIfInBounds_toArray, List.set_cons_zero, List.set_cons_succ]
          refine wpAnyH_take (i := 12) (oi := { dst := some 20, op := Op.slice _ (Operand.tmp 18) none (some (Operand.tmp 19)) none, type := _, pos := _, after := _, guard := none }) (v := .slice am9 n cm9) rfl (by kernel_rfl) (by kernel_rfl) (by kernel_rfl) (fun _ _ _ h => h) (Or.inl ⟨by rfl, fun wx hx => by go_simp <;> omega⟩) HS ?_
          simp only [Act.put, List.setIfInBounds_toArray, List.set_cons_zero, List.set_cons_succ]
          refine wpAnyH_take (i := 13) (oi := { dst := some 21, op := Op.fieldAddr _ (Operand.tmp 1) 1, type := _, pos := _, after := _, guard := none }) (v := .pointer (some ⟨w.heap.size, 1, none⟩)) rfl (by kernel_rfl) (by kernel_rfl) (by kernel_rfl) (fun _ _ _ h => h) (Or.inl ⟨by rfl, fun wx hx => by exact rfl⟩) HS ?_
          simp only [Act.put, List.setIfInBounds_toArray, List.set_cons_zero, List.set_cons_succ]
          refine wpAnyH_ready (rs := [14]) (by kernel_rfl) (by simp) (AllReadyH.cons (o := { dst := none, op := Op.store _ (Operand.tmp 21) (Operand.tmp 20), type := _, pos := _, after := _, guard := none }) rfl (fun KK hK => ?_) AllReadyH.nil)
          have c1 := (cellC (unhide HBc)).2.1
          have f1 := (unhide HBc).free 1
          have HBn := hide ((unhide HBc).set 1 (.slice am9 n cm9))
          have HRn := hide ((unhide HRz).other (r := w.heap.size) 1 (.slice am9 n cm9) (by omega))
          have HMn := hide ((unhide HM).kept9 (grownBy_set w14 w.heap.size 1 (.slice am9 n cm9)) ((unhide HM).neB (unhide HBc) (by decide)))
          have HSn := extSet (i := 1) (v := .slice am9 n cm9) HS (Nat.le_refl _)
          go_simp
          refine hK.out _ _ HSn (fun _ => ?_)
          clear hK KK c1 f1 HBc HRz HM HS
          try simp only [Act.put, List.setIfInBounds_toArray, List.set_cons_zero, List.set_cons_succ]
          refine wpAnyH_done (by kernel_rfl) ?_ _
          refine NoPanic.normal ?_
          go_wp2
          go_meet
          exact ⟨am9, cm9, rfl, unhide HBn, unhide HRn, unhide HMn, HSn⟩
        · rw [if_pos (by rfl)]
          refine wp_build_ins (Operand.tmp 16) rfl rfl ?_
          have HG := hide (Blk.new w11 (insA i77) 39)
          have HD0 : Hid (∀ g, (Value.slice (some ⟨wa.heap.size, 0, none⟩) 0 (n + 2)).ownBlock = some g → g < w11.heap.size) := fun g hg2 => ((unhide HM).lt g hg2).2
          have HM2 := hide ((unhide HM).ext ((Ext.refl w11).alloc (.cells (insA i77) 39)))
          clear HM
          have HM := HM2
          clear HM2
          have HBc2 := hide ((unhide HBc).ext ((Ext.refl w11).alloc (.cells (insA i77) 39)))
          have HRz2 := hide ((unhide HRz).ext ((Ext.refl w11).alloc (.cells (insA i77) 39)))
          clear HBc
          have HBc := HBc2
          clear HBc2
          clear HRz
          have HRz := HRz2
          clear HRz2
          have HS2 := HS.alloc (.cells (insA i77) 39)
          clear HS
          have HS := HS2
          clear HS2
          refine hK.out _ _ HS (fun _ => ?_)
          clear hK KK
          try simp only [Act.put, List.setIfInBounds_toArray, List.set_cons_zero, List.set_cons_succ]
          obtain ⟨g7, hg7⟩ : ∃ g, g = w11.heap.size := ⟨_, rfl⟩
          have HD : Hid ((Value.slice (some ⟨wa.heap.size, 0, none⟩) 0 (n + 2)).ownBlock ≠ some g7) := fun hg2 => by
            have := unhide HD0 g7 hg2
            omega
          clear HD0
          rw [← hg7] at HG ⊢
          generalize w11.alloc (.cells (insA i77) 39) = w12 at HS HG HBc HRz HM ⊢
          clear hg7
          refine wpAnyH_ready (rs := [7]) (by kernel_rfl) (by simp) (AllReadyH.cons (o := { dst := some 15, op := Op.call { callee := Callee.builtin Builtin.append, args := #[Operand.tmp 10, Operand.tmp 14], argTypes := _ }, type := _, pos := _, after := _, guard := none }) rfl (fun KK hK => ?_) AllReadyH.nil)
          rw [if_pos (by rfl)]
          refine wp_append_inss (Operand.tmp 10) (Operand.tmp 14) rfl w.heap.size _ [] M rfl (unhide HM) ao ca (by rw [unhide HLT]; rfl) (by rw [unhide HLT]; exact unhide HTK _ HS) (by rw [unhide HLT]; simp; omega) HS.size ?_
          intro v6 w13 hm2 hg
          have hxx : Ext w w13 := HS.grown hg HS.size (fun k e => ((unhide HM).lt k e).1)
          have HBc2 := hide (((unhide HBc).grownO hg ((unhide HM).neB (unhide HBc) (by decide))))
          have HRz2 := hide (((unhide HRz).grownO hg ((unhide HM).neB (unhide HRz) (by decide))))
          have HG2 := hide ((unhide HG).grownO hg (unhide HD))
          clear HG
          have HG := HG2
          clear HG2
          rw [List.nil_append] at hm2
          obtain ⟨am6, cm6, e6, _⟩ := hm2.shape
          rw [unhide HLT] at e6
          subst e6
          clear HD
          clear HM
          have HM := hide hm2
          clear HBc
          have HBc := HBc2
          clear HBc2
          clear HRz
          have HRz := HRz2
          clear HRz2
          clear hm2 hg HS
          have HS := hxx
          clear hxx
          refine hK.out _ _ HS (fun _ => ?_)
          clear hK KK
          try simp only [Act.put, List.setIfInBounds_toArray, List.set_cons_zero, List.set_cons_succ]
          refine wpAnyH_ready (rs := [10]) (by kernel_rfl) (by simp) (AllReadyH.cons (o := { dst := some 18, op := Op.call { callee := Callee.builtin Builtin.append, args := #[Operand.tmp 15, Operand.tmp 17], argTypes := _ }, type := _, pos := _, after := _, guard := none }) rfl (fun KK hK => ?_) AllReadyH.nil)
          rw [if_pos (by rfl)]
          refine wp_append_inss (Operand.tmp 15) (Operand.tmp 17) rfl w.heap.size _ M [i77] rfl (unhide HM) _ _ rfl (IR.lit (unhide HG)) (by rw [unhide HLT]; simp; omega) HS.size ?_
          intro v9 w14 hm2 hg
          have hxx : Ext w w14 := HS.grown hg HS.size (fun k e => ((unhide HM).lt k e).1)
          have HBc2 := hide (((unhide HBc).grownO hg ((unhide HM).neB (unhide HBc) (by decide))))
          have HRz2 := hide (((unhide HRz).grownO hg ((unhide HM).neB (unhide HRz) (by decide))))
          obtain ⟨am9, cm9, e9, hao9, hcap9, hmx9⟩ := hm2.shape
          have hl9 : (M ++ [i77]).length = n + 1 := by rw [List.length_append, unhide HLT]; rfl
          rw [hl9] at e9 hcap9
          subst e9
          clear HM HG
          try clear HD
          have HM := hide hm2
          clear HBc
          have HBc := HBc2
          clear HBc2
          clear HRz
          have HRz := HRz2
          clear HRz2
          clear hm2 hg HS hl9
          have HS := hxx
          clear hxx
          unfold maxLen at hmx9
          refine hK.out _ _ HS (fun _ => ?_)
          clear hK KK
          try simp only [Act.put, List.setIfInBounds_toArray, List.set_cons_zero, List.set_cons_succ]
          refine wpAnyH_take (i := 12) (oi := { dst := some 20, op := Op.slice _ (Operand.tmp 18) none (some (Operand.tmp 19)) none, type := _, pos := _, after := _, guard := none }) (v := .slice am9 n cm9) rfl (by kernel_rfl) (by kernel_rfl) (by kernel_rfl) (fun _ _ _ h => h) (Or.inl ⟨by rfl, fun wx hx => by go_simp <;> omega⟩) HS ?_
          simp only [Act.put, List.setIfInBounds_toArray, List.set_cons_zero, List.set_cons_succ]
          refine wpAnyH_take (i := 13) (oi := { dst := some 21, op := Op.fieldAddr _ (Operand.tmp 1) 1, type := _, pos := _, after := _, guard := none }) (v := .pointer (some ⟨w.heap.size, 1, none⟩)) rfl (by kernel_rfl) (by kernel_rfl) (by kernel_rfl) (fun _ _ _ h => h) (Or.inl ⟨by rfl, fun wx hx => by exact rfl⟩) HS ?_
          simp only [Act.put, List.setIfInBounds_toArray, List.set_cons_zero, List.set_cons_succ]
          refine wpAnyH_ready (rs := [14]) (by kernel_rfl) (by simp) (AllReadyH.cons (o := { dst := none, op := Op.store _ (Operand.tmp 21) (Operand.tmp 20), type := _, pos := _, after := _, guard := none }) rfl (fun KK hK => ?_) AllReadyH.nil)
          have c1 := (cellC (unhide HBc)).2.1
          have f1 := (unhide HBc).free 1
          have HBn := hide ((unhide HBc).set 1 (.slice am9 n cm9))
          have HRn := hide ((unhide HRz).other (r := w.heap.size) 1 (.slice am9 n cm9) (by omega))
          have HMn := hide ((unhide HM).kept9 (grownBy_set w14 w.heap.size 1 (.slice am9 n cm9)) ((unhide HM).neB (unhide HBc) (by decide)))
          have HSn := extSet (i := 1) (v := .slice am9 n cm9) HS (Nat.le_refl _)
          go_simp
          refine hK.out _ _ HSn (fun _ => ?_)
          clear hK KK c1 f1 HBc HRz HM HS
          try simp only [Act.put, List.setIfInBounds_toArray, List.set_cons_zero, List.set_cons_succ]
          refine wpAnyH_done (by kernel_rfl) ?_ _
          refine NoPanic.normal ?_
          go_wp2
          go_meet
          exact ⟨am9, cm9, rfl, unhide HBn, unhide HRn, unhide HMn, HSn⟩
      · rw [if_pos (by rfl)]
        refine wp_build_ins (Operand.tmp 16) rfl rfl ?_
        have HG := hide (Blk.new w11 (insA i77) 39)
        have HD0 : Hid (∀ g, (Value.slice (some ⟨wa.heap.size, 0, none⟩) 0 (n + 2)).ownBlock = some g → g < w11.heap.size) := fun g hg2 => ((unhide HM).lt g hg2).2
        have HM2 := hide ((unhide HM).ext ((Ext.refl w11).alloc (.cells (insA i77) 39)))
        clear HM
        have HM := HM2
        clear HM2
        have HBc2 := hide ((unhide HBc).ext ((Ext.refl w11).alloc (.cells (insA i77) 39)))
        have HRz2 := hide ((unhide HRz).ext ((Ext.refl w11).alloc (.cells (insA i77) 39)))
        clear HBc
        have HBc := HBc2
        clear HBc2
        clear HRz
        have HRz := HRz2
        clear HRz2
        have HS2 := HS.alloc (.cells (insA i77) 39)
        clear HS
        have HS := HS2
        clear HS2
        refine hK.out _ _ HS (fun _ => ?_)
        clear hK KK
        try simp only [Act.put, List.setIfInBounds_toArray, List.set_cons_zero, List.set_cons_succ]
        obtain ⟨g7, hg7⟩ : ∃ g, g = w11.heap.size := ⟨_, rfl⟩
        have HD : Hid ((Value.slice (some ⟨wa.heap.size, 0, none⟩) 0 (n + 2)).ownBlock ≠ some g7) := fun hg2 => by
          have := unhide HD0 g7 hg2
          omega
        clear HD0
        rw [← hg7] at HG ⊢
        generalize w11.alloc (.cells (insA i77) 39) = w12 at HS HG HBc HRz HM ⊢
        clear hg7
        refine wpAnyH_ready (rs := [4]) (by kernel_rfl) (by simp) (AllReadyH.cons (o := { dst := some 12, op := Op.load _ (Operand.tmp 11), type := _, pos := _, after := _, guard := none }) rfl (fun KK hK => ?_) AllReadyH.nil)
        have c1 := (cellC (unhide HBc)).2.1
        go_simp
        refine hK.out _ _ HS (fun _ => ?_)
        clear hK KK c1
        try simp only [Act.put, List.setIfInBounds_toArray, List.set_cons_zero, List.set_cons_succ]
        refine wpAnyH_take (i := 6) (oi := { dst := some 14, op := Op.slice _ (Operand.tmp 12) none (some (Operand.tmp 13)) none, type := _, pos := _, after := _, guard := none }) (v := .slice ao n ca) rfl (by kernel_rfl) (by kernel_rfl) (by kernel_rfl) (fun _ _ _ h => h) (Or.inl ⟨by rfl, fun wx hx => by go_simp <;> omega⟩) HS ?_
        simp only [Act.put, List.setIfInBounds_toArray, List.set_cons_zero, List.set_cons_succ]
        refine wpAnyH_ready (rs := [7]) (by kernel_rfl) (by simp) (AllReadyH.cons (o := { dst := some 15, op := Op.call { callee := Callee.builtin Builtin.append, args := #[Operand.tmp 10, Operand.tmp 14], argTypes := _ }, type := _, pos := _, after := _, guard := none }) rfl (fun KK hK => ?_) AllReadyH.nil)
        rw [if_pos (by rfl)]
        refine wp_append_inss (Operand.tmp 10) (Operand.tmp 14) rfl w.heap.size _ [] M rfl (unhide HM) ao ca (by rw [unhide HLT]; rfl) (by rw [unhide HLT]; exact unhide HTK _ HS) (by rw [unhide HLT]; simp; omega) HS.size ?_
        intro v6 w13 hm2 hg
        have hxx : Ext w w13 := HS.grown hg HS.size (fun k e => ((unhide HM).lt k e).1)
        have HBc2 := hide (((unhide HBc).grownO hg ((unhide HM).neB (unhide HBc) (by decide))))
        have HRz2 := hide (((unhide HRz).grownO hg ((unhide HM).neB (unhide HRz) (by decide))))
        have HG2 := hide ((unhide HG).grownO hg (unhide HD))
        clear HG
        have HG := HG2
        clear HG2
        rw [List.nil_append] at hm2
        obtain ⟨am6, cm6, e6, _⟩ := hm2.shape
        rw [unhide HLT] at e6
        subst e6
        clear HD
        clear HM
        have HM := hide hm2
        clear HBc
        have HBc := HBc2
        clear HBc2
        clear HRz
        have HRz := HRz2
        clear HRz2
        clear hm2 hg HS
        have HS := hxx
        clear hxx
        refine hK.out _ _ HS (fun _ => ?_)
        clear hK KK
        try simp only [Act.put, List.setIfInBounds_toArray, List.set_cons_zero, List.set_cons_succ]
        refine wpAnyH_ready (rs := [10]) (by kernel_rfl) (by simp) (AllReadyH.cons (o := { dst := some 18, op := Op.call { callee := Callee.builtin Builtin.append, args := #[Operand.tmp 15, Operand.tmp 17], argTypes := _ }, type := _, pos := _, after := _, guard := none }) rfl (fun KK hK => ?_) AllReadyH.nil)
        rw [if_pos (by rfl)]
        refine wp_append_inss (Operand.tmp 15) (Operand.tmp 17) rfl w.heap.size _ M [i77] rfl (unhide HM) _ _ rfl (IR.lit (unhide HG)) (by rw [unhide HLT]; simp; omega) HS.size ?_
        intro v9 w14 hm2 hg
        have hxx : Ext w w14 := HS.grown hg HS.size (fun k e => ((unhide HM).lt k e).1)
        have HBc2 := hide (((unhide HBc).grownO hg ((unhide HM).neB (unhide HBc) (by decide))))
        have HRz2 := hide (((unhide HRz).grownO hg ((unhide HM).neB (unhide HRz) (by decide))))
        obtain ⟨am9, cm9, e9, hao9, hcap9, hmx9⟩ := hm2.shape
        have hl9 : (M ++ [i77]).length = n + 1 := by rw [List.length_append, unhide HLT]; rfl
        rw [hl9] at e9 hcap9
        subst e9
        clear HM HG
        try clear HD
        have HM := hide hm2
        clear HBc
        have HBc := HBc2
        clear HBc2
        clear HRz
        have HRz := HRz2
        clear HRz2
        clear hm2 hg HS hl9
        have HS := hxx
        clear hxx
        unfold maxLen at hmx9
        refine hK.out _ _ HS (fun _ => ?_)
        clear hK KK
        try simp only [Act.put, List.setIfInBounds_toArray, List.set_cons_zero, List.set_cons_succ]
        refine wpAnyH_take (i := 12) (oi := { dst := some 20, op := Op.slice _ (Operand.tmp 18) none (some (Operand.tmp 19)) none, type := _, pos := _, after := _, guard := none }) (v := .slice am9 n cm9) rfl (by kernel_rfl) (by kernel_rfl) (by kernel_rfl) (fun _ _ _ h => h) (Or.inl ⟨by rfl, fun wx hx => by go_simp <;> omega⟩) HS ?_
        simp only [Act.put, List.setIfInBounds_toArray, List.set_cons_zero, List.set_cons_succ]
        refine wpAnyH_take (i := 13) (oi := { dst := some 21, op := Op.fieldAddr _ (Operand.tmp 1) 1, type := _, pos := _, after := _, guard := none }) (v := .pointer (some ⟨w.heap.size, 1, none⟩)) rfl (by kernel_rfl) (by kernel_rfl) (by kernel_rfl) (fun _ _ _ h => h) (Or.inl ⟨by rfl, fun wx hx => by exact rfl⟩) HS ?_
        simp only [Act.put, List.setIfInBounds_toArray, List.set_cons_zero, List.set_cons_succ]
        refine wpAnyH_ready (rs := [14]) (by kernel_rfl) (by simp) (AllReadyH.cons (o := { dst := none, op := Op.store _ (Operand.tmp 21) (Operand.tmp 20), type := _, pos := _, after := _, guard := none }) rfl (fun KK hK => ?_) AllReadyH.nil)
        have c1 := (cellC (unhide HBc)).2.1
        have f1 := (unhide HBc).free 1
        have HBn := hide ((unhide HBc).set 1 (.slice am9 n cm9))
        have HRn := hide ((unhide HRz).other (r := w.heap.size) 1 (.slice am9 n cm9) (by omega))
        have HMn := hide ((unhide HM).kept9 (grownBy_set w14 w.heap.size 1 (.slice am9 n cm9)) ((unhide HM).neB (unhide HBc) (by decide)))
        have HSn := extSet (i := 1) (v := .slice am9 n cm9) HS (Nat.le_refl _)
        go_simp
        refine hK.out _ _ HSn (fun _ => ?_)
        clear hK KK c1 f1 HBc HRz HM HS
        try simp only [Act.put, List.setIfInBounds_toArray, List.set_cons_zero, List.set_cons_succ]
        refine wpAnyH_done (by kernel_rfl) ?_ _
        refine NoPanic.normal ?_
        go_wp2
        go_meet
        exact ⟨am9, cm9, rfl, unhide HBn, unhide HRn, unhide HMn, HSn⟩
    · have c1 := (cellC (unhide HBc)).2.1
      go_simp
      refine hK.out _ _ HS (fun _ => ?_)
      clear hK KK c1
      try simp only [Act.put, List.setIfInBounds_toArray, List.set_cons_zero, List.set_cons_succ]
      refine wpAnyH_take (i := 6) (oi := { dst := some 14, op := Op.slice _ (Operand.tmp 12) none (some (Operand.tmp 13)) none, type := _, pos := _, after := _, guard := none }) (v := .slice ao n ca) rfl (by kernel_rfl) (by kernel_rfl) (by kernel_rfl) (fun _ _ _ h => h) (Or.inl ⟨by rfl, fun wx hx => by go_simp <;> omega⟩) HS ?_
      simp only [Act.put, List.setIfInBounds_toArray, List.set_cons_zero, List.set_cons_succ]
      refine wpAnyH_ready (rs := [2, 9]) (by kernel_rfl) (by simp) (AllReadyH.cons (o := { dst := some 10, op := Op.makeSlice _ (Operand.const (Value.int IntKind.i64 0)) (Operand.tmp 9), type := _, pos := _, after := _, guard := none }) rfl (fun KK hK => ?_) (AllReadyH.cons (o := { dst := some 17, op := Op.buildSlice _ 1 #[(0, Operand.tmp 16)], type := _, pos := _, after := _, guard := none }) rfl (fun KK hK => ?_) AllReadyH.nil))
      · rw [if_pos (by rfl)]
        refine wp_make_ins (Operand.const (Value.int IntKind.i64 0)) (Operand.tmp 9) rfl w.heap.size (n + 2) rfl rfl (by omega) HS.size ?_
        intro w11 hm hg
        have hxx : Ext wa w11 := grown_below hg (Nat.le_refl _) (fun k h => by cases h)
        have HM := hide hm
        have HBc2 := hide ((unhide HBc).ext hxx)
        have HRz2 := hide ((unhide HRz).ext hxx)
        clear HBc
        have HBc := HBc2
        clear HBc2
        clear HRz
        have HRz := HRz2
        clear HRz2
        have HS2 := HS.trans hxx
        clear hm hg hxx
        clear HS
        have HS := HS2
        clear HS2
        refine hK.out _ _ HS (fun _ => ?_)
        clear hK KK
        try simp only [Act.put, List.setIfInBounds_toArray, List.set_cons_zero, List.set_cons_succ]
        refine wpAnyH_ready (rs := [7, 9]) (by kernel_rfl) (by simp) (AllReadyH.cons (o := { dst := some 15, op := Op.call { callee := Callee.builtin Builtin.append, args := #[Operand.tmp 10, Operand.tmp 14], argTypes := _ }, type := _, pos := _, after := _, guard := none }) rfl (fun KK hK => ?_) (AllReadyH.cons (o := { dst := some 17, op := Op.buildSlice _ 1 #[(0, Operand.tmp 16)], type := _, pos := _, after := _, guard := none }) rfl (fun KK hK => ?_) AllReadyH.nil))
        · rw [if_pos (by rfl)]
          refine wp_append_inss (Operand.tmp 10) (Operand.tmp 14) rfl w.heap.size _ [] M rfl (unhide HM) ao ca (by rw [unhide HLT]; rfl) (by rw [unhide HLT]; exact unhide HTK _ HS) (by rw [unhide HLT]; simp; omega) HS.size ?_
          intro v6 w12 hm2 hg
          have hxx : Ext w w12 := HS.grown hg HS.size (fun k e => ((unhide HM).lt k e).1)
          have HBc2 := hide (((unhide HBc).grownO hg ((unhide HM).neB (unhide HBc) (by decide))))
          have HRz2 := hide (((unhide HRz).grownO hg ((unhide HM).neB (unhide HRz) (by decide))))
          rw [List.nil_append] at hm2
          obtain ⟨am6, cm6, e6, _⟩ := hm2.shape
          rw [unhide HLT] at e6
          subst e6
          clear HM
          have HM := hide hm2
          clear HBc
          have HBc := HBc2
          clear HBc2
          clear HRz
          have HRz := HRz2
          clear HRz2
          clear hm2 hg HS
          have HS := hxx
          clear hxx
          refine hK.out _ _ HS (fun _ => ?_)
          clear hK KK
          try simp only [Act.put, List.setIfInBounds_toArray, List.set_cons_zero, List.set_cons_succ]
          refine wpAnyH_ready (rs := [9]) (by kernel_rfl) (by simp) (AllReadyH.cons (o := { dst := some 17, op := Op.buildSlice _ 1 #[(0, Operand.tmp 16)], type := _, pos := _, after := _, guard := none }) rfl (fun KK hK => ?_) AllReadyH.nil)
          rw [if_pos (by rfl)]
          refine wp_build_ins (Operand.tmp 16) rfl rfl ?_
          have HG := hide (Blk.new w12 (insA i77) 39)
          have HD0 : Hid (∀ g, (Value.slice am6 n cm6).ownBlock = some g → g < w12.heap.size) := fun g hg2 => ((unhide HM).lt g hg2).2
          have HM2 := hide ((unhide HM).ext ((Ext.refl w12).alloc (.cells (insA i77) 39)))
          clear HM
          have HM := HM2
          clear HM2
          have HBc2 := hide ((unhide HBc).ext ((Ext.refl w12).alloc (.cells (insA i77) 39)))
          have HRz2 := hide ((unhide HRz).ext ((Ext.refl w12).alloc (.cells (insA i77) 39)))
          clear HBc
          have HBc := HBc2
          clear HBc2
          clear HRz
          have HRz := HRz2
          clear HRz2
          have HS2 := HS.alloc (.cells (insA i77) 39)
          clear HS
          have HS := HS2
          clear HS2
          refine hK.out _ _ HS (fun _ => ?_)
          clear hK KK
          try simp only [Act.put, List.setIfInBounds_toArray, List.set_cons_zero, List.set_cons_succ]
          obtain ⟨g7, hg7⟩ : ∃ g, g = w12.heap.size := ⟨_, rfl⟩
          have HD : Hid ((Value.slice am6 n cm6).ownBlock ≠ some g7) := fun hg2 => by
            have := unhide HD0 g7 hg2
            omega
          clear HD0
          rw [← hg7] at HG ⊢
          generalize w12.alloc (.cells (insA i77) 39) = w13 at HS HG HBc HRz HM ⊢
          clear hg7
          refine wpAnyH_ready (rs := [10]) (by kernel_rfl) (by simp) (AllReadyH.cons (o := { dst := some 18, op := Op.call { callee := Callee.builtin Builtin.append, args := #[Operand.tmp 15, Operand.tmp 17], argTypes := _ }, type := _, pos := _, after := _, guard := none }) rfl (fun KK hK => ?_) AllReadyH.nil)
          rw [if_pos (by rfl)]
          refine wp_append_inss (Operand.tmp 15) (Operand.tmp 17) rfl w.heap.size _ M [i77] rfl (unhide HM) _ _ rfl (IR.lit (unhide HG)) (by rw [unhide HLT]; simp; omega) HS.size ?_
          intro v9 w14 hm2 hg
          have hxx : Ext w w14 := HS.grown hg HS.size (fun k e => ((unhide HM).lt k e).1)
          have HBc2 := hide (((unhide HBc).grownO hg ((unhide HM).neB (unhide HBc) (by decide))))
          have HRz2 := hide (((unhide HRz).grownO hg ((unhide HM).neB (unhide HRz) (by decide))))
          obtain ⟨am9, cm9, e9, hao9, hcap9, hmx9⟩ := hm2.shape
          have hl9 : (M ++ [i77]).length = n + 1 := by rw [List.length_append, unhide HLT]; rfl
          rw [hl9] at e9 hcap9
          subst e9
          clear HM HG
          try clear HD
          have HM := hide hm2
          clear HBc
          have HBc := HBc2
          clear HBc2
          clear HRz
          have HRz := HRz2
          clear HRz2
          clear hm2 hg HS hl9
          have HS := hxx
          clear hxx
          unfold maxLen at hmx9
          refine hK.out _ _ HS (fun _ => ?_)
          clear hK KK
          try simp only [Act.put, List.setIfInBounds_toArray, List.set_cons_zero, List.set_cons_succ]
          refine wpAnyH_take (i := 12) (oi := { dst := some 20, op := Op.slice _ (Operand.tmp 18) none (some (Operand.tmp 19)) none, type := _, pos := _, after := _, guard := none }) (v := .slice am9 n cm9) rfl (by kernel_rfl) (by kernel_rfl) (by kernel_rfl) (fun _ _ _ h => h) (Or.inl ⟨by rfl, fun wx hx => by go_simp <;> omega⟩) HS ?_
          simp only [Act.put, List.setIfInBounds_toArray, List.set_cons_zero, List.set_cons_succ]
          refine wpAnyH_take (i := 13) (oi := { dst := some 21, op := Op.fieldAddr _ (Operand.tmp 1) 1, type := _, pos := _, after := _, guard := none }) (v := .pointer (some ⟨w.heap.size, 1, none⟩)) rfl (by kernel_rfl) (by kernel_rfl) (by kernel_rfl) (fun _ _ _ h => h) (Or.inl ⟨by rfl, fun wx hx => by exact rfl⟩) HS ?_
          simp only [Act.put, List.setIfInBounds_toArray, List.set_cons_zero, List.set_cons_succ]
          refine wpAnyH_ready (rs := [14]) (by kernel_rfl) (by simp) (AllReadyH.cons (o := { dst := none, op := Op.store _ (Operand.tmp 21) (Operand.tmp 20), type := _, pos := _, after := _, guard := none }) rfl (fun KK hK => ?_) AllReadyH.nil)
          have c1 := (cellC (unhide HBc)).2.1
          have f1 := (unhide HBc).free 1
          have HBn := hide ((unhide HBc).set 1 (.slice am9 n cm9))
          have HRn := hide ((unhide HRz).other (r := w.heap.size) 1 (.slice am9 n cm9) (by omega))
          have HMn := hide ((unhide HM).kept9 (grownBy_set w14 w.heap.size 1 (.slice am9 n cm9)) ((unhide HM).neB (unhide HBc) (by decide)))
          have HSn := extSet (i := 1) (v := .slice am9 n cm9) HS (Nat.le_refl _)
          go_simp
          refine hK.out _ _ HSn (fun _ => ?_)
          clear hK KK c1 f1 HBc HRz HM HS
          try simp only [Act.put, List.setIfInBounds_toArray, List.set_cons_zero, List.set_cons_succ]
          refine wpAnyH_done (by kernel_rfl) ?_ _
          refine NoPanic.normal ?_
          go_wp2
          go_meet
          exact ⟨am9, cm9, rfl, unhide HBn, unhide HRn, unhide HMn, HSn⟩
        · rw [if_pos (by rfl)]
          refine wp_build_ins (Operand.tmp 16) rfl rfl ?_
          have HG := hide (Blk.new w11 (insA i77) 39)
          have HD0 : Hid (∀ g, (Value.slice (some ⟨wa.heap.size, 0, none⟩) 0 (n + 2)).ownBlock = some g → g < w11.heap.size) := fun g hg2 => ((unhide HM).lt g hg2).2
          have HM2 := hide ((unhide HM).ext ((Ext.refl w11).alloc (.cells (insA i77) 39)))
          clear HM
          have HM := HM2
          clear HM2
          have HBc2 := hide ((unhide HBc).ext ((Ext.refl w11).alloc (.cells (insA i77) 39)))
          have HRz2 := hide ((unhide HRz).ext ((Ext.refl w11).alloc (.cells (insA i77) 39)))
          clear HBc
          have HBc := HBc2
          clear HBc2
          clear HRz
          have HRz := HRz2
          clear HRz2
          have HS2 := HS.alloc (.cells (insA i77) 39)
          clear HS
          have HS := HS2
          clear HS2
          refine hK.out _ _ HS (fun _ => ?_)
          clear hK KK
          try simp only [Act.put, List.setIfInBounds_toArray, List.set_cons_zero, List.set_cons_succ]
          obtain ⟨g7, hg7⟩ : ∃ g, g = w11.heap.size := ⟨_, rfl⟩
          have HD : Hid ((Value.slice (some ⟨wa.heap.size, 0, none⟩) 0 (n + 2)).ownBlock ≠ some g7) := fun hg2 => by
            have := unhide HD0 g7 hg2
            omega
          clear HD0
          rw [← hg7] at HG ⊢
          generalize w11.alloc (.cells (insA i77) 39) = w12 at HS HG HBc HRz HM ⊢
          clear hg7
          refine wpAnyH_ready (rs := [7]) (by kernel_rfl) (by simp) (AllReadyH.cons (o := { dst := some 15, op := Op.call { callee := Callee.builtin Builtin.append, args := #[Operand.tmp 10, Operand.tmp 14], argTypes := _ }, type := _, pos := _, after := _, guard := none }) rfl (fun KK hK => ?_) AllReadyH.nil)
          rw [if_pos (by rfl)]
          refine wp_append_inss (Operand.tmp 10) (Operand.tmp 14) rfl w.heap.size _ [] M rfl (unhide HM) ao ca (by rw [unhide HLT]; rfl) (by rw [unhide HLT]; exact unhide HTK _ HS) (by rw [unhide HLT]; simp; omega) HS.size ?_
          intro v6 w13 hm2 hg
          have hxx : Ext w w13 := HS.grown hg HS.size (fun k e => ((unhide HM).lt k e).1)
          have HBc2 := hide (((unhide HBc).grownO hg ((unhide HM).neB (unhide HBc) (by decide))))
          have HRz2 := hide (((unhide HRz).grownO hg ((unhide HM).neB (unhide HRz) (by decide))))
          have HG2 := hide ((unhide HG).grownO hg (unhide HD))
          clear HG
          have HG := HG2
          clear HG2
          rw [List.nil_append] at hm2
          obtain ⟨am6, cm6, e6, _⟩ := hm2.shape
          rw [unhide HLT] at e6
          subst e6
          clear HD
          clear HM
          have HM := hide hm2
          clear HBc
          have HBc := HBc2
          clear HBc2
          clear HRz
          have HRz := HRz2
          clear HRz2
          clear hm2 hg HS
          have HS := hxx
          clear hxx
          refine hK.out _ _ HS (fun _ => ?_)
          clear hK KK
          try simp only [Act.put, List.setIfInBounds_toArray, List.set_cons_zero, List.set_cons_succ]
          refine wpAnyH_ready (rs := [10]) (by kernel_rfl) (by simp) (AllReadyH.cons (o := { dst := some 18, op := Op.call { callee := Callee.builtin Builtin.append, args := #[Operand.tmp 15, Operand.tmp 17], argTypes := _ }, type := _, pos := _, after := _, guard := none }) rfl (fun KK hK => ?_) AllReadyH.nil)
          rw [if_pos (by rfl)]
          refine wp_append_inss (Operand.tmp 15) (Operand.tmp 17) rfl w.heap.size _ M [i77] rfl (unhide HM) _ _ rfl (IR.lit (unhide HG)) (by rw [unhide HLT]; simp; omega) HS.size ?_
          intro v9 w14 hm2 hg
          have hxx : Ext w w14 := HS.grown hg HS.size (fun k e => ((unhide HM).lt k e).1)
          have HBc2 := hide (((unhide HBc).grownO hg ((unhide HM).neB (unhide HBc) (by decide))))
          have HRz2 := hide (((unhide HRz).grownO hg ((unhide HM).neB (unhide HRz) (by decide))))
          obtain ⟨am9, cm9, e9, hao9, hcap9, hmx9⟩ := hm2.shape
          have hl9 : (M ++ [i77]).length = n + 1 := by rw [List.length_append, unhide HLT]; rfl
          rw [hl9] at e9 hcap9
          subst e9
          clear HM HG
          try clear HD
          have HM := hide hm2
          clear HBc
          have HBc := HBc2
          clear HBc2
          clear HRz
          have HRz := HRz2
          clear HRz2
          clear hm2 hg HS hl9
          have HS := hxx
          clear hxx
          unfold maxLen at hmx9
          refine hK.out _ _ HS (fun _ => ?_)
          clear hK KK
          try simp only [Act.put, List.setIfInBounds_toArray, List.set_cons_zero, List.set_cons_succ]
          refine wpAnyH_take (i := 12) (oi := { dst := some 20, op := Op.slice _ (Operand.tmp 18) none (some (Operand.tmp 19)) none, type := _, pos := _, after := _, guard := none }) (v := .slice am9 n cm9) rfl (by kernel_rfl) (by kernel_rfl) (by kernel_rfl) (fun _ _ _ h => h) (Or.inl ⟨by rfl, fun wx hx => by go_simp <;> omega⟩) HS ?_
          simp only [Act.put, List.setIfInBounds_toArray, List.set_cons_zero, List.set_cons_succ]
          refine wpAnyH_take (i := 13) (oi := { dst := some 21, op := Op.fieldAddr _ (Operand.tmp 1) 1, type := _, pos := _, after := _, guard := none }) (v := .pointer (some ⟨w.heap.size, 1, none⟩)) rfl (by kernel_rfl) (by kernel_rfl) (by kernel_rfl) (fun _ _ _ h => h) (Or.inl ⟨by rfl, fun wx hx => by exact rfl⟩) HS ?_
          simp only [Act.put, List.setIfInBounds_toArray, List.set_cons_zero, List.set_cons_succ]
          refine wpAnyH_ready (rs := [14]) (by kernel_rfl) (by simp) (AllReadyH.cons (o := { dst := none, op := Op.store _ (Operand.tmp 21) (Operand.tmp 20), type := _, pos := _, after := _, guard := none }) rfl (fun KK hK => ?_) AllReadyH.nil)
          have c1 := (cellC (unhide HBc)).2.1
          have f1 := (unhide HBc).free 1
          have HBn := hide ((unhide HBc).set 1 (.slice am9 n cm9))
          have HRn := hide ((unhide HRz).other (r := w.heap.size) 1 (.slice am9 n cm9) (by omega))
          have HMn := hide ((unhide HM).kept9 (grownBy_set w14 w.heap.size 1 (.slice am9 n cm9)) ((unhide HM).neB (unhide HBc) (by decide)))
          have HSn := extSet (i := 1) (v := .slice am9 n cm9) HS (Nat.le_refl _)
          go_simp
          refine hK.out _ _ HSn (fun _ => ?_)
          clear hK KK c1 f1 HBc HRz HM HS
          try simp only [Act.put, List.setIfInBounds_toArray, List.set_cons_zero, List.set_cons_succ]
          refine wpAnyH_done (by kernel_rfl) ?_ _
          refine NoPanic.normal ?_
          go_wp2
          go_meet
          exact ⟨am9, cm9, rfl, unhide HBn, unhide HRn, unhide HMn, HSn⟩
      · rw [if_pos (by rfl)]
        refine wp_build_ins (Operand.tmp 16) rfl rfl ?_
        have HG := hide (Blk.new wa (insA i77) 39)
        have HBc2 := hide ((unhide HBc).ext ((Ext.refl wa).alloc (.cells (insA i77) 39)))
        have HRz2 := hide ((unhide HRz).ext ((Ext.refl wa).alloc (.cells (insA i77) 39)))
        clear HBc
        have HBc := HBc2
        clear HBc2
        clear HRz
        have HRz := HRz2
        clear HRz2
        have HS2 := HS.alloc (.cells (insA i77) 39)
        clear HS
        have HS := HS2
        clear HS2
        refine hK.out _ _ HS (fun _ => ?_)
        clear hK KK
        try simp only [Act.put, List.setIfInBounds_toArray, List.set_cons_zero, List.set_cons_succ]
        obtain ⟨g7, hg7⟩ : ∃ g, g = wa.heap.size := ⟨_, rfl⟩
        rw [← hg7] at HG ⊢
        generalize wa.alloc (.cells (insA i77) 39) = w11 at HS HG HBc HRz ⊢
        clear hg7
        refine wpAnyH_ready (rs := [2]) (by kernel_rfl) (by simp) (AllReadyH.cons (o := { dst := some 10, op := Op.makeSlice _ (Operand.const (Value.int IntKind.i64 0)) (Operand.tmp 9), type := _, pos := _, after := _, guard := none }) rfl (fun KK hK => ?_) AllReadyH.nil)
        rw [if_pos (by rfl)]
        refine wp_make_ins (Operand.const (Value.int IntKind.i64 0)) (Operand.tmp 9) rfl w.heap.size (n + 2) rfl rfl (by omega) HS.size ?_
        intro w12 hm hg
        have hxx : Ext w11 w12 := grown_below hg (Nat.le_refl _) (fun k h => by cases h)
        have HM := hide hm
        have HD : Hid ((Value.slice (some ⟨w11.heap.size, 0, none⟩) 0 (n + 2)).ownBlock ≠ some g7) := fun hg2 => by
          have h7 := (unhide HG).lt
          simp only [Value.ownBlock, Option.some.injEq] at hg2
          omega
        have HG2 := hide ((unhide HG).ext hxx)
        clear HG
        have HG := HG2
        clear HG2
        have HBc2 := hide ((unhide HBc).ext hxx)
        have HRz2 := hide ((unhide HRz).ext hxx)
        clear HBc
        have HBc := HBc2
        clear HBc2
        clear HRz
        have HRz := HRz2
        clear HRz2
        have HS2 := HS.trans hxx
        clear hm hg hxx
        clear HS
        have HS := HS2
        clear HS2
        refine hK.out _ _ HS (fun _ => ?_)
        clear hK KK
        try simp only [Act.put, List.setIfInBounds_toArray, List.set_cons_zero, List.set_cons_succ]
        refine wpAnyH_ready (rs := [7]) (by kernel_rfl) (by simp) (AllReadyH.cons (o := { dst := some 15, op := Op.call { callee := Callee.builtin Builtin.append, args := #[Operand.tmp 10, Operand.tmp 14], argTypes := _ }, type := _, pos := _, after := _, guard := none }) rfl (fun KK hK => ?_) AllReadyH.nil)
        rw [if_pos (by rfl)]
        refine wp_append_inss (Operand.tmp 10) (Operand.tmp 14) rfl w.heap.size _ [] M rfl (unhide HM) ao ca (by rw [unhide HLT]; rfl) (by rw [unhide HLT]; exact unhide HTK _ HS) (by rw [unhide HLT]; simp; omega) HS.size ?_
        intro v6 w13 hm2 hg
        have hxx : Ext w w13 := HS.grown hg HS.size (fun k e => ((unhide HM).lt k e).1)
        have HBc2 := hide (((unhide HBc).grownO hg ((unhide HM).neB (unhide HBc) (by decide))))
        have HRz2 := hide (((unhide HRz).grownO hg ((unhide HM).neB (unhide HRz) (by decide))))
        have HG2 := hide ((unhide HG).grownO hg (unhide HD))
        clear HG
        have HG := HG2
        clear HG2
        rw [List.nil_append] at hm2
        obtain ⟨am6, cm6, e6, _⟩ := hm2.shape
        rw [unhide HLT] at e6
        subst e6
        clear HD
        clear HM
        have HM := hide hm2
        clear HBc
        have HBc := HBc2
        clear HBc2
        clear HRz
        have HRz := HRz2
        clear HRz2
        clear hm2 hg HS
        have HS := hxx
        clear hxx
        refine hK.out _ _ HS (fun _ => ?_)
        clear hK KK
        try simp only [Act.put, List.setIfInBounds_toArray, List.set_cons_zero, List.set_cons_succ]
        refine wpAnyH_ready (rs := [10]) (by kernel_rfl) (by simp) (AllReadyH.cons (o := { dst := some 18, op := Op.call { callee := Callee.builtin Builtin.append, args := #[Operand.tmp 15, Operand.tmp 17], argTypes := _ }, type := _, pos := _, after := _, guard := none }) rfl (fun KK hK => ?_) AllReadyH.nil)
        rw [if_pos (by rfl)]
        refine wp_append_inss (Operand.tmp 15) (Operand.tmp 17) rfl w.heap.size _ M [i77] rfl (unhide HM) _ _ rfl (IR.lit (unhide HG)) (by rw [unhide HLT]; simp; omega) HS.size ?_
        intro v9 w14 hm2 hg
        have hxx : Ext w w14 := HS.grown hg HS.size (fun k e => ((unhide HM).lt k e).1)
        have HBc2 := hide (((unhide HBc).grownO hg ((unhide HM).neB (unhide HBc) (by decide))))
        have HRz2 := hide (((unhide HRz).grownO hg ((unhide HM).neB (unhide HRz) (by decide))))
        obtain ⟨am9, cm9, e9, hao9, hcap9, hmx9⟩ := hm2.shape
        have hl9 : (M ++ [i77]).length = n + 1 := by rw [List.length_append, unhide HLT]; rfl
        rw [hl9] at e9 hcap9
        subst e9
        clear HM HG
        try clear HD
        have HM := hide hm2
        clear HBc
        have HBc := HBc2
        clear HBc2
        clear HRz
        have HRz := HRz2
        clear HRz2
        clear hm2 hg HS hl9
        have HS := hxx
        clear hxx
        unfold maxLen at hmx9
        refine hK.out _ _ HS (fun _ => ?_)
        clear hK KK
        try simp only [Act.put, List.setIfInBounds_toArray, List.set_cons_zero, List.set_cons_succ]
        refine wpAnyH_take (i := 12) (oi := { dst := some 20, op := Op.slice _ (Operand.tmp 18) none (some (Operand.tmp 19)) none, type := _, pos := _, after := _, guard := none }) (v := .slice am9 n cm9) rfl (by kernel_rfl) (by kernel_rfl) (by kernel_rfl) (fun _ _ _ h => h) (Or.inl ⟨by rfl, fun wx hx => by go_simp <;> omega⟩) HS ?_
        simp only [Act.put, List.setIfInBounds_toArray, List.set_cons_zero, List.set_cons_succ]
        refine wpAnyH_take (i := 13) (oi := { dst := some 21, op := Op.fieldAddr _ (Operand.tmp 1) 1, type := _, pos := _, after := _, guard := none }) (v := .pointer (some ⟨w.heap.size, 1, none⟩)) rfl (by kernel_rfl) (by kernel_rfl) (by kernel_rfl) (fun _ _ _ h => h) (Or.inl ⟨by rfl, fun wx hx => by exact rfl⟩) HS ?_
        simp only [Act.put, List.setIfInBounds_toArray, List.set_cons_zero, List.set_cons_succ]
        refine wpAnyH_ready (rs := [14]) (by kernel_rfl) (by simp) (AllReadyH.cons (o := { dst := none, op := Op.store _ (Operand.tmp 21) (Operand.tmp 20), type := _, pos := _, after := _, guard := none }) rfl (fun KK hK => ?_) AllReadyH.nil)
        have c1 := (cellC (unhide HBc)).2.1
        have f1 := (unhide HBc).free 1
        have HBn := hide ((unhide HBc).set 1 (.slice am9 n cm9))
        have HRn := hide ((unhide HRz).other (r := w.heap.size) 1 (.slice am9 n cm9) (by omega))
        have HMn := hide ((unhide HM).kept9 (grownBy_set w14 w.heap.size 1 (.slice am9 n cm9)) ((unhide HM).neB (unhide HBc) (by decide)))
        have HSn := extSet (i := 1) (v := .slice am9 n cm9) HS (Nat.le_refl _)
        go_simp
        refine hK.out _ _ HSn (fun _ => ?_)
        clear hK KK c1 f1 HBc HRz HM HS
        try simp only [Act.put, List.setIfInBounds_toArray, List.set_cons_zero, List.set_cons_succ]
        refine wpAnyH_done (by kernel_rfl) ?_ _
        refine NoPanic.normal ?_
        go_wp2
        go_meet
        exact ⟨am9, cm9, rfl, unhide HBn, unhide HRn, unhide HMn, HSn⟩
    · rw [if_pos (by rfl)]
      refine wp_build_ins (Operand.tmp 16) rfl rfl ?_
      have HG := hide (Blk.new wa (insA i77) 39)
      have HBc2 := hide ((unhide HBc).ext ((Ext.refl wa).alloc (.cells (insA i77) 39)))
      have HRz2 := hide ((unhide HRz).ext ((Ext.refl wa).alloc (.cells (insA i77) 39)))
      clear HBc
      have HBc := HBc2
      clear HBc2
      clear HRz
      have HRz := HRz2
      clear HRz2
      have HS2 := HS.alloc (.cells (insA i77) 39)
      clear HS
      have HS := HS2
      clear HS2
      refine hK.out _ _ HS (fun _ => ?_)
      clear hK KK
      try simp only [Act.put, List.setIfInBounds_toArray, List.set_cons_zero, List.set_cons_succ]
      obtain ⟨g7, hg7⟩ : ∃ g, g = wa.heap.size := ⟨_, rfl⟩
      rw [← hg7] at HG ⊢
      generalize wa.alloc (.cells (insA i77) 39) = w11 at HS HG HBc HRz ⊢
      clear hg7
      refine wpAnyH_ready (rs := [2, 4]) (by kernel_rfl) (by simp) (AllReadyH.cons (o := { dst := some 10, op := Op.makeSlice _ (Operand.const (Value.int IntKind.i64 0)) (Operand.tmp 9), type := _, pos := _, after := _, guard := none }) rfl (fun KK hK => ?_) (AllReadyH.cons (o := { dst := some 12, op := Op.load _ (Operand.tmp 11), type := _, pos := _, after := _, guard := none }) rfl (fun KK hK => ?_) AllReadyH.nil))
      · rw [if_pos (by rfl)]
        refine wp_make_ins (Operand.const (Value.int IntKind.i64 0)) (Operand.tmp 9) rfl w.heap.size (n + 2) rfl rfl (by omega) HS.size ?_
        intro w12 hm hg
        have hxx : Ext w11 w12 := grown_below hg (Nat.le_refl _) (fun k h => by cases h)
        have HM := hide hm
        have HD : Hid ((Value.slice (some ⟨w11.heap.size, 0, none⟩) 0 (n + 2)).ownBlock ≠ some g7) := fun hg2 => by
          have h7 := (unhide HG).lt
          simp only [Value.ownBlock, Option.some.injEq] at hg2
          omega
        have HG2 := hide ((unhide HG).ext hxx)
        clear HG
        have HG := HG2
        clear HG2
        have HBc2 := hide ((unhide HBc).ext hxx)
        have HRz2 := hide ((unhide HRz).ext hxx)
        clear HBc
        have HBc := HBc2
        clear HBc2
        clear HRz
        have HRz := HRz2
        clear HRz2
        have HS2 := HS.trans hxx
        clear hm hg hxx
        clear HS
        have HS := HS2
        clear HS2
        refine hK.out _ _ HS (fun _ => ?_)
        clear hK KK
        try simp only [Act.put, List.setIfInBounds_toArray, List.set_cons_zero, List.set_cons_succ]
        refine wpAnyH_ready (rs := [4]) (by kernel_rfl) (by simp) (AllReadyH.cons (o := { dst := some 12, op := Op.load _ (Operand.tmp 11), type := _, pos := _, after := _, guard := none }) rfl (fun KK hK => ?_) AllReadyH.nil)
        have c1 := (cellC (unhide HBc)).2.1
        go_simp
        refine hK.out _ _ HS (fun _ => ?_)
        clear hK KK c1
        try simp only [Act.put, List.setIfInBounds_toArray, List.set_cons_zero, List.set_cons_succ]
        refine wpAnyH_take (i := 6) (oi := { dst := some 14, op := Op.slice _ (Operand.tmp 12) none (some (Operand.tmp 13)) none, type := _, pos := _, after := _, guard := none }) (v := .slice ao n ca) rfl (by kernel_rfl) (by kernel_rfl) (by kernel_rfl) (fun _ _ _ h => h) (Or.inl ⟨by rfl, fun wx hx => by go_simp <;> omega⟩) HS ?_
        simp only [Act.put, List.setIfInBounds_toArray, List.set_cons_zero, List.set_cons_succ]
        refine wpAnyH_ready (rs := [7]) (by kernel_rfl) (by simp) (AllReadyH.cons (o := { dst := some 15, op := Op.call { callee := Callee.builtin Builtin.append, args := #[Operand.tmp 10, Operand.tmp 14], argTypes := _ }, type := _, pos := _, after := _, guard := none }) rfl (fun KK hK => ?_) AllReadyH.nil)
        rw [if_pos (by rfl)]
        refine wp_append_inss (Operand.tmp 10) (Operand.tmp 14) rfl w.heap.size _ [] M rfl (unhide HM) ao ca (by rw [unhide HLT]; rfl) (by rw [unhide HLT]; exact unhide HTK _ HS) (by rw [unhide HLT]; simp; omega) HS.size ?_
        intro v6 w13 hm2 hg
        have hxx : Ext w w13 := HS.grown hg HS.size (fun k e => ((unhide HM).lt k e).1)
        have HBc2 := hide (((unhide HBc).grownO hg ((unhide HM).neB (unhide HBc) (by decide))))
        have HRz2 := hide (((unhide HRz).grownO hg ((unhide HM).neB (unhide HRz) (by decide))))
        have HG2 := hide ((unhide HG).grownO hg (unhide HD))
        clear HG
        have HG := HG2
        clear HG2
        rw [List.nil_append] at hm2
        obtain ⟨am6, cm6, e6, _⟩ := hm2.shape
        rw [unhide HLT] at e6
        subst e6
        clear HD
        clear HM
        have HM := hide hm2
        clear HBc
        have HBc := HBc2
        clear HBc2
        clear HRz
        have HRz := HRz2
        clear HRz2
        clear hm2 hg HS
        have HS := hxx
        clear hxx
        refine hK.out _ _ HS (fun _ => ?_)
        clear hK KK
        try simp only [Act.put, List.setIfInBounds_toArray, List.set_cons_zero, List.set_cons_succ]
        refine wpAnyH_ready (rs := [10]) (by kernel_rfl) (by simp) (AllReadyH.cons (o := { dst := some 18, op := Op.call { callee := Callee.builtin Builtin.append, args := #[Operand.tmp 15, Operand.tmp 17], argTypes := _ }, type := _, pos := _, after := _, guard := none }) rfl (fun KK hK => ?_) AllReadyH.nil)
        rw [if_pos (by rfl)]
        refine wp_append_inss (Operand.tmp 15) (Operand.tmp 17) rfl w.heap.size _ M [i77] rfl (unhide HM) _ _ rfl (IR.lit (unhide HG)) (by rw [unhide HLT]; simp; omega) HS.size ?_
        intro v9 w14 hm2 hg
        have hxx : Ext w w14 := HS.grown hg HS.size (fun k e => ((unhide HM).lt k e).1)
        have HBc2 := hide (((unhide HBc).grownO hg ((unhide HM).neB (unhide HBc) (by decide))))
        have HRz2 := hide (((unhide HRz).grownO hg ((unhide HM).neB (unhide HRz) (by decide))))
        obtain ⟨am9, cm9, e9, hao9, hcap9, hmx9⟩ := hm2.shape
        have hl9 : (M ++ [i77]).length = n + 1 := by rw [List.length_append, unhide HLT]; rfl
        rw [hl9] at e9 hcap9
        subst e9
        clear HM HG
        try clear HD
        have HM := hide hm2
        clear HBc
        have HBc := HBc2
        clear HBc2
        clear HRz
        have HRz := HRz2
        clear HRz2
        clear hm2 hg HS hl9
        have HS := hxx
        clear hxx
        unfold maxLen at hmx9
        refine hK.out _ _ HS (fun _ => ?_)
        clear hK KK
        try simp only [Act.put, List.setIfInBounds_toArray, List.set_cons_zero, List.set_cons_succ]
        refine wpAnyH_take (i := 12) (oi := { dst := some 20, op := Op.slice _ (Operand.tmp 18) none (some (Operand.tmp 19)) none, type := _, pos := _, after := _, guard := none }) (v := .slice am9 n cm9) rfl (by kernel_rfl) (by kernel_rfl) (by kernel_rfl) (fun _ _ _ h => h) (Or.inl ⟨by rfl, fun wx hx => by go_simp <;> omega⟩) HS ?_
        simp only [Act.put, List.setIfInBounds_toArray, List.set_cons_zero, List.set_cons_succ]
        refine wpAnyH_take (i := 13) (oi := { dst := some 21, op := Op.fieldAddr _ (Operand.tmp 1) 1, type := _, pos := _, after := _, guard := none }) (v := .pointer (some ⟨w.heap.size, 1, none⟩)) rfl (by kernel_rfl) (by kernel_rfl) (by kernel_rfl) (fun _ _ _ h => h) (Or.inl ⟨by rfl, fun wx hx => by exact rfl⟩) HS ?_
        simp only [Act.put, List.setIfInBounds_toArray, List.set_cons_zero, List.set_cons_succ]
        refine wpAnyH_ready (rs := [14]) (by kernel_rfl) (by simp) (AllReadyH.cons (o := { dst := none, op := Op.store _ (Operand.tmp 21) (Operand.tmp 20), type := _, pos := _, after := _, guard := none }) rfl (fun KK hK => ?_) AllReadyH.nil)
        have c1 := (cellC (unhide HBc)).2.1
        have f1 := (unhide HBc).free 1
        have HBn := hide ((unhide HBc).set 1 (.slice am9 n cm9))
        have HRn := hide ((unhide HRz).other (r := w.heap.size) 1 (.slice am9 n cm9) (by omega))
        have HMn := hide ((unhide HM).kept9 (grownBy_set w14 w.heap.size 1 (.slice am9 n cm9)) ((unhide HM).neB (unhide HBc) (by decide)))
        have HSn := extSet (i := 1) (v := .slice am9 n cm9) HS (Nat.le_refl _)
        go_simp
        refine hK.out _ _ HSn (fun _ => ?_)
        clear hK KK c1 f1 HBc HRz HM HS
        try simp only [Act.put, List.setIfInBounds_toArray, List.set_cons_zero, List.set_cons_succ]
        refine wpAnyH_done (by kernel_rfl) ?_ _
        refine NoPanic.normal ?_
        go_wp2
        go_meet
        exact ⟨am9, cm9, rfl, unhide HBn, unhide HRn, unhide HMn, HSn⟩
      · have c1 := (cellC (unhide HBc)).2.1
        go_simp
        refine hK.out _ _ HS (fun _ => ?_)
        clear hK KK c1
        try simp only [Act.put, List.setIfInBounds_toArray, List.set_cons_zero, List.set_cons_succ]
        refine wpAnyH_take (i := 6) (oi := { dst := some 14, op := Op.slice _ (Operand.tmp 12) none (some (Operand.tmp 13)) none, type := _, pos := _, after := _, guard := none }) (v := .slice ao n ca) rfl (by kernel_rfl) (by kernel_rfl) (by kernel_rfl) (fun _ _ _ h => h) (Or.inl ⟨by rfl, fun wx hx => by go_simp <;> omega⟩) HS ?_
        simp only [Act.put, List.setIfInBounds_toArray, List.set_cons_zero, List.set_cons_succ]
        refine wpAnyH_ready (rs := [2]) (by kernel_rfl) (by simp) (AllReadyH.cons (o := { dst := some 10, op := Op.makeSlice _ (Operand.const (Value.int IntKind.i64 0)) (Operand.tmp 9), type := _, pos := _, after := _, guard := none }) rfl (fun KK hK => ?_) AllReadyH.nil)
        rw [if_pos (by rfl)]
        refine wp_make_ins (Operand.const (Value.int IntKind.i64 0)) (Operand.tmp 9) rfl w.heap.size (n + 2) rfl rfl (by omega) HS.size ?_
        intro w12 hm hg
        have hxx : Ext w11 w12 := grown_below hg (Nat.le_refl _) (fun k h => by cases h)
        have HM := hide hm
        have HD : Hid ((Value.slice (some ⟨w11.heap.size, 0, none⟩) 0 (n + 2)).ownBlock ≠ some g7) := fun hg2 => by
          have h7 := (unhide HG).lt
          simp only [Value.ownBlock, Option.some.injEq] at hg2
          omega
        have HG2 := hide ((unhide HG).ext hxx)
        clear HG
        have HG := HG2
        clear HG2
        have HBc2 := hide ((unhide HBc).ext hxx)
        have HRz2 := hide ((unhide HRz).ext hxx)
        clear HBc
        have HBc := HBc2
        clear HBc2
        clear HRz
        have HRz := HRz2
        clear HRz2
        have HS2 := HS.trans hxx
        clear hm hg hxx
        clear HS
        have HS := HS2
        clear HS2
        refine hK.out _ _ HS (fun _ => ?_)
        clear hK KK
        try simp only [Act.put, List.setIfInBounds_toArray, List.set_cons_zero, List.set_cons_succ]
        refine wpAnyH_ready (rs := [7]) (by kernel_rfl) (by simp) (AllReadyH.cons (o := { dst := some 15, op := Op.call { callee := Callee.builtin Builtin.append, args := #[Operand.tmp 10, Operand.tmp 14], argTypes := _ }, type := _, pos := _, after := _, guard := none }) rfl (fun KK hK => ?_) AllReadyH.nil)
        rw [if_pos (by rfl)]
        refine wp_append_inss (Operand.tmp 10) (Operand.tmp 14) rfl w.heap.size _ [] M rfl (unhide HM) ao ca (by rw [unhide HLT]; rfl) (by rw [unhide HLT]; exact unhide HTK _ HS) (by rw [unhide HLT]; simp; omega) HS.size ?_
        intro v6 w13 hm2 hg
        have hxx : Ext w w13 := HS.grown hg HS.size (fun k e => ((unhide HM).lt k e).1)
        have HBc2 := hide (((unhide HBc).grownO hg ((unhide HM).neB (unhide HBc) (by decide))))
        have HRz2 := hide (((unhide HRz).grownO hg ((unhide HM).neB (unhide HRz) (by decide))))
        have HG2 := hide ((unhide HG).grownO hg (unhide HD))
        clear HG
        have HG := HG2
        clear HG2
        rw [List.nil_append] at hm2
        obtain ⟨am6, cm6, e6, _⟩ := hm2.shape
        rw [unhide HLT] at e6
        subst e6
        clear HD
        clear HM
        have HM := hide hm2
        clear HBc
        have HBc := HBc2
        clear HBc2
        clear HRz
        have HRz := HRz2
        clear HRz2
        clear hm2 hg HS
        have HS := hxx
        clear hxx
        refine hK.out _ _ HS (fun _ => ?_)
        clear hK KK
        try simp only [Act.put, List.setIfInBounds_toArray, List.set_cons_zero, List.set_cons_succ]
        refine wpAnyH_ready (rs := [10]) (by kernel_rfl) (by simp) (AllReadyH.cons (o := { dst := some 18, op := Op.call { callee := Callee.builtin Builtin.append, args := #[Operand.tmp 15, Operand.tmp 17], argTypes := _ }, type := _, pos := _, after := _, guard := none }) rfl (fun KK hK => ?_) AllReadyH.nil)
        rw [if_pos (by rfl)]
        refine wp_append_inss (Operand.tmp 15) (Operand.tmp 17) rfl w.heap.size _ M [i77] rfl (unhide HM) _ _ rfl (IR.lit (unhide HG)) (by rw [unhide HLT]; simp; omega) HS.size ?_
        intro v9 w14 hm2 hg
        have hxx : Ext w w14 := HS.grown hg HS.size (fun k e => ((unhide HM).lt k e).1)
        have HBc2 := hide (((unhide HBc).grownO hg ((unhide HM).neB (unhide HBc) (by decide))))
        have HRz2 := hide (((unhide HRz).grownO hg ((unhide HM).neB (unhide HRz) (by decide))))
        obtain ⟨am9, cm9, e9, hao9, hcap9, hmx9⟩ := hm2.shape
        have hl9 : (M ++ [i77]).length = n + 1 := by rw [List.length_append, unhide HLT]; rfl
        rw [hl9] at e9 hcap9
        subst e9
        clear HM HG
        try clear HD
        have HM := hide hm2
        clear HBc
        have HBc := HBc2
        clear HBc2
        clear HRz
        have HRz := HRz2
        clear HRz2
        clear hm2 hg HS hl9
        have HS := hxx
        clear hxx
        unfold maxLen at hmx9
        refine hK.out _ _ HS (fun _ => ?_)
        clear hK KK
        try simp only [Act.put, List.setIfInBounds_toArray, List.set_cons_zero, List.set_cons_succ]
        refine wpAnyH_take (i := 12) (oi := { dst := some 20, op := Op.slice _ (Operand.tmp 18) none (some (Operand.tmp 19)) none, type := _, pos := _, after := _, guard := none }) (v := .slice am9 n cm9) rfl (by kernel_rfl) (by kernel_rfl) (by kernel_rfl) (fun _ _ _ h => h) (Or.inl ⟨by rfl, fun wx hx => by go_simp <;> omega⟩) HS ?_
        simp only [Act.put, List.setIfInBounds_toArray, List.set_cons_zero, List.set_cons_succ]
        refine wpAnyH_take (i := 13) (oi := { dst := some 21, op := Op.fieldAddr _ (Operand.tmp 1) 1, type := _, pos := _, after := _, guard := none }) (v := .pointer (some ⟨w.heap.size, 1, none⟩)) rfl (by kernel_rfl) (by kernel_rfl) (by kernel_rfl) (fun _ _ _ h => h) (Or.inl ⟨by rfl, fun wx hx => by exact rfl⟩) HS ?_
        simp only [Act.put, List.setIfInBounds_toArray, List.set_cons_zero, List.set_cons_succ]
        refine wpAnyH_ready (rs := [14]) (by kernel_rfl) (by simp) (AllReadyH.cons (o := { dst := none, op := Op.store _ (Operand.tmp 21) (Operand.tmp 20), type := _, pos := _, after := _, guard := none }) rfl (fun KK hK => ?_) AllReadyH.nil)
        have c1 := (cellC (unhide HBc)).2.1
        have f1 := (unhide HBc).free 1
        have HBn := hide ((unhide HBc).set 1 (.slice am9 n cm9))
        have HRn := hide ((unhide HRz).other (r := w.heap.size) 1 (.slice am9 n cm9) (by omega))
        have HMn := hide ((unhide HM).kept9 (grownBy_set w14 w.heap.size 1 (.slice am9 n cm9)) ((unhide HM).neB (unhide HBc) (by decide)))
        have HSn := extSet (i := 1) (v := .slice am9 n cm9) HS (Nat.le_refl _)
        go_simp
        refine hK.out _ _ HSn (fun _ => ?_)
        clear hK KK c1 f1 HBc HRz HM HS
        try simp only [Act.put, List.setIfInBounds_toArray, List.set_cons_zero, List.set_cons_succ]
        refine wpAnyH_done (by kernel_rfl) ?_ _
        refine NoPanic.normal ?_
        go_wp2
        go_meet
        exact ⟨am9, cm9, rfl, unhide HBn, unhide HRn, unhide HMn, HSn⟩
  case rest =>
    obtain ⟨am9, cm9, rfl, hb, hr, hio, hx⟩ := hcut
    have D := hide (And.intro hb (And.intro hr (And.intro hio hx)))
    clear hb hr hio hx
    go_wp2_with (first
      | refine wpList_load_row rfl 26 (.tmp 1) rfl w.heap.size rfl 26 #[.int .i64 (C).stage, .slice am9 n cm9, .int .i64 (C).regs, .int .i64 (C).attr, .int .i64 (C).unif, .int .i64 (C).vary] (0, 0) _ (unhide D).1 Try.underlying26 rfl size6 ?_
      | refine wpList_store_row rfl 26 (.tmp 2) (.tmp 22) rfl (w.heap.size + 1) #[.int .i64 (C).stage, .slice am9 n cm9, .int .i64 (C).regs, .int .i64 (C).attr, .int .i64 (C).unif, .int .i64 (C).vary] rfl rfl 26 _ (unhide D).2.1 size6 rfl (by simp [Value.oneCell']) ?_)
    refine bodyPost_ret (v := .agg #[.int .i64 (C).stage, .slice am9 n cm9, .int .i64 (C).regs, .int .i64 (C).attr, .int .i64 (C).unif, .int .i64 (C).vary]) (results_cell_row Try.results24 _ _ (w.heap.size + 1) 26 _ (0, 0) _ rfl ((unhide D).2.1.rowC) Try.underlying26 rfl size6) rfl ?_
    refine ⟨am9, cm9, ?_, ?_, extRow (unhide D).2.2.2 (by omega)⟩
    · rw [unhide HFE, unhide HLT]
    · rw [unhide HFE, unhide HLT]
      exact (unhide D).2.2.1.kept9 (grownBy_row _ _ _) ((unhide D).2.2.1.neB (unhide D).2.1 (by decide))
end Go.Proofs.Ytfoffnbkfnbglaa
