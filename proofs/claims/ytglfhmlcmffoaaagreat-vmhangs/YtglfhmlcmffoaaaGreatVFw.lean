/-
  What the laws of layer 18 cut of codes and surroundings: few, around. Written by mkvfw.py.
-/
import Derived.Test.YtglfhmlcmffoaaaGreatVFeJ
namespace Go.Proofs.YtglfhmlcmffoaaaGreat
open Go.RowKit
set_option linter.unusedVariables false
set_option linter.unusedSimpArgs false

theorem take_len {α : Type} (L : List α) (m : Nat) : L.take (L.take m).length = L.take m := by
  rw [List.length_take]
  rcases Nat.le_total m L.length with h | h
  · rw [Nat.min_eq_left h]
  · rw [Nat.min_eq_right h, List.take_of_length_le (Nat.le_refl _), List.take_of_length_le h]
theorem Blk.rng0 {w : World} {b : Nat} {cs : Array Value} {t : TypeId} (h : Blk w b cs t) : w.rangeAt b 0 cs.toList := by
  intro j v hv
  rw [Nat.zero_add]
  exact h.cell (by simpa using hv)
/-- A code, its list cut. -/
def cutC (C : Cod) : Cod := ⟨C.stage, C.regs, C.attr, C.unif, C.vary, C.ins.take 300⟩
theorem cutC_ok {C : Cod} (h : ∀ I ∈ C.ins, OkI I) : ∀ I ∈ (cutC C).ins, OkI I := fun I hI => h I (List.mem_of_mem_take hI)
def CutQ (w : World) (C : Cod) (e : Ending) (w' : World) : Prop := ∃ am cm, e = .returned (.agg #[.int .i64 ((cutC C)).stage, .slice am (cutC C).ins.length cm, .int .i64 ((cutC C)).regs, .int .i64 ((cutC C)).attr, .int .i64 ((cutC C)).unif, .int .i64 ((cutC C)).vary]) ∧ OI w' w.heap.size (.slice am (cutC C).ins.length cm) (cutC C).ins ∧ Ext w w'

set_option maxRecDepth 10000 in
set_option maxHeartbeats 4000000 in
theorem few18_any (C : Cod) (v : Value) (w : World) (h : IR w v C.ins) : Calls Tryz.prog 10 #[.agg #[.int .i64 (C).stage, v, .int .i64 (C).regs, .int .i64 (C).attr, .int .i64 (C).unif, .int .i64 (C).vary]] w (CutQ w C) := by
  have HV := hide h
  obtain ⟨ao, ca, rfl, hn0, hlc, hcm, hat⟩ := h
  clear hat hn0
  obtain ⟨M, hM⟩ : ∃ M, C.ins.take 300 = M := ⟨_, rfl⟩
  obtain ⟨n, hn⟩ : ∃ n, M.length = n := ⟨_, rfl⟩
  have hn2 : n ≤ C.ins.length ∧ n ≤ 300 ∧ min (C.ins.length : Int) 300 = (n : Int) := by
    rw [← hn, ← hM, List.length_take]
    omega
  obtain ⟨hn3, hn4, hmi⟩ := hn2
  have HQ : Hid (CutQ w C = fun e w' => ∃ am cm, e = .returned (.agg #[.int .i64 (C).stage, .slice am n cm, .int .i64 (C).regs, .int .i64 (C).attr, .int .i64 (C).unif, .int .i64 (C).vary]) ∧ OI w' w.heap.size (.slice am n cm) M ∧ Ext w w') := by
    show CutQ w C = _
    unfold CutQ cutC
    simp only [hM, hn]
  have HTK : Hid (∀ wx, Ext w wx → IR wx (.slice ao n ca) M) := fun wx hx => by
    rw [← hM, ← hn, ← hM]
    have := ((unhide HV).ext hx).take (C.ins.take 300).length (by rw [List.length_take]; omega)
    rwa [take_len] at this
  have HLT := hide hn
  rw [unhide HQ]
  clear HQ HV hM
  unfold maxLen at hcm
  have HX0 : Hid (Ext w ((w.alloc (.cells #[.int .i64 (C).stage, .slice ao C.ins.length ca, .int .i64 (C).regs, .int .i64 (C).attr, .int .i64 (C).unif, .int .i64 (C).vary] 24)).alloc (.cells #[.int .i64 0, .slice none 0 0, .int .i64 0, .int .i64 0, .int .i64 0, .int .i64 0] 24))) := ((Ext.refl w).alloc _).alloc _
  have HB0 : Hid (Blk ((w.alloc (.cells #[.int .i64 (C).stage, .slice ao C.ins.length ca, .int .i64 (C).regs, .int .i64 (C).attr, .int .i64 (C).unif, .int .i64 (C).vary] 24)).alloc (.cells #[.int .i64 0, .slice none 0 0, .int .i64 0, .int .i64 0, .int .i64 0, .int .i64 0] 24)) w.heap.size #[.int .i64 (C).stage, .slice ao C.ins.length ca, .int .i64 (C).regs, .int .i64 (C).attr, .int .i64 (C).unif, .int .i64 (C).vary] 24) := (Blk.new w _ _).alloc _
  have HR0 : Hid (Blk ((w.alloc (.cells #[.int .i64 (C).stage, .slice ao C.ins.length ca, .int .i64 (C).regs, .int .i64 (C).attr, .int .i64 (C).unif, .int .i64 (C).vary] 24)).alloc (.cells #[.int .i64 0, .slice none 0 0, .int .i64 0, .int .i64 0, .int .i64 0, .int .i64 0] 24)) (w.heap.size + 1) #[.int .i64 0, .slice none 0 0, .int .i64 0, .int .i64 0, .int .i64 0, .int .i64 0] 24) := Blk.here (by simp)
  go_enter Tryz.func10, Tryz.ntmps10
  go_upto_region 1 with fail
  generalize ((w.alloc (.cells #[.int .i64 (C).stage, .slice ao C.ins.length ca, .int .i64 (C).regs, .int .i64 (C).attr, .int .i64 (C).unif, .int .i64 (C).vary] 24)).alloc (.cells #[.int .i64 0, .slice none 0 0, .int .i64 0, .int .i64 0, .int .i64 0, .int .i64 0] 24)) = w0 at HX0 HB0 HR0 ⊢
  go_wp2_with (refine wpList_build_none rfl rfl w.heap.size (unhide HX0).size ?_)
  intro w1 hio e1
  have HX1 : Hid (Ext w w1) := by rw [Hid, e1]; exact (unhide HX0).alloc _
  have HB1 : Hid (Blk w1 w.heap.size #[.int .i64 (C).stage, .slice ao C.ins.length ca, .int .i64 (C).regs, .int .i64 (C).attr, .int .i64 (C).unif, .int .i64 (C).vary] 24) := by rw [Hid, e1]; exact (unhide HB0).alloc _
  have HR1 : Hid (Blk w1 (w.heap.size + 1) #[.int .i64 0, .slice none 0 0, .int .i64 0, .int .i64 0, .int .i64 0, .int .i64 0] 24) := by rw [Hid, e1]; exact (unhide HR0).alloc _
  have HIO := hide hio
  generalize w0.heap.size = g0 at *
  clear e1 hio HX0 HB0 HR0 hn
  obtain ⟨z0, z1, z2, z3, z4, z5⟩ := cellC (unhide HB1)
  go_wp2_with (refine wpList_append_inss rfl (.tmp 3) (.tmp 10) rfl w.heap.size _ [] M rfl (unhide HIO) ao ca (by rw [unhide HLT]; rfl) (by rw [unhide HLT]; exact unhide HTK _ (unhide HX1)) (by rw [unhide HLT]; simp; omega) (unhide HX1).size ?_)
  intro v6 w2 hm2 hg
  try rw [List.nil_append] at hm2
  have hxx : Ext w w2 := (unhide HX1).grown hg (unhide HX1).size (fun k e => ((unhide HIO).lt k e).1)
  have HB2 := hide ((unhide HB1).grownO hg ((unhide HIO).neB (unhide HB1) (by decide)))
  have HR2 := hide ((unhide HR1).grownO hg ((unhide HIO).neB (unhide HR1) (by decide)))
  obtain ⟨am, cm, e6, _⟩ := hm2.shape
  rw [unhide HLT] at e6
  subst e6
  have HM := hide hm2
  have HX2 := hide hxx
  clear hm2 hg hxx HIO HB1 HR1 HX1 z0 z1 z2 z3 z4 z5
  have HB3 := hide ((unhide HB2).set 1 (.slice am n cm))
  have HR3 := hide ((unhide HR2).other (r := w.heap.size) 1 (.slice am n cm) (by omega))
  have HM3 := hide ((unhide HM).kept9 (grownBy_set w2 w.heap.size 1 (.slice am n cm)) ((unhide HM).neB (unhide HB2) (by decide)))
  have HX3 := hide (extSet (i := 1) (v := .slice am n cm) (unhide HX2) (Nat.le_refl _))
  have c1 := (cellC (unhide HB2)).2.1
  have f1 := (unhide HB2).free 1
  go_upto_region 2 with fail
  generalize w2.setCell _ _ = w3 at HB3 HR3 HM3 HX3 ⊢
  clear HB2 HR2 HM HX2 c1 f1
  have HB4 : Hid (Blk w3 w.heap.size #[.int .i64 (C).stage, .slice am n cm, .int .i64 (C).regs, .int .i64 (C).attr, .int .i64 (C).unif, .int .i64 (C).vary] 24) := unhide HB3
  clear HB3
  go_wp2_with (first
    | refine wpList_load_row rfl 24 (.tmp 1) rfl w.heap.size rfl 24 #[.int .i64 (C).stage, .slice am n cm, .int .i64 (C).regs, .int .i64 (C).attr, .int .i64 (C).unif, .int .i64 (C).vary] (0, 0) _ (unhide HB4) Tryz.underlying24 rfl size6 ?_
    | refine wpList_store_row rfl 24 (.tmp 2) (.tmp 13) rfl (w.heap.size + 1) #[.int .i64 (C).stage, .slice am n cm, .int .i64 (C).regs, .int .i64 (C).attr, .int .i64 (C).unif, .int .i64 (C).vary] rfl rfl 24 _ (unhide HR3) size6 rfl (by simp [Value.oneCell']) ?_)
  refine bodyPost_ret (v := .agg #[.int .i64 (C).stage, .slice am n cm, .int .i64 (C).regs, .int .i64 (C).attr, .int .i64 (C).unif, .int .i64 (C).vary]) (results_cell_row Tryz.results10 _ _ (w.heap.size + 1) 24 _ (0, 0) _ rfl ((unhide HR3).rowC) Tryz.underlying24 rfl size6) rfl ?_
  exact ⟨am, cm, rfl, ((unhide HM3).kept9 (row_grown _ _ _) ((unhide HM3).neB (unhide HR3) (by decide))), extRow (unhide HX3) (by omega)⟩

theorem infoV4 : (Tryz.prog.info? 28).map (fun i => (i.zero, i.size, i.bytes)) = some (some (.agg #[.int .i32 0, .int .i32 0, .int .i32 0, .int .i32 0]), 4, 16) := by kernel_rfl
theorem flat4 (L : List (Nat → Int)) (k j : Nat) (hk : k < L.length) (hj : j < 4) : (L.flatMap vEnc)[k * 4 + j]? = some (.int .i32 (L[k] j)) := by
  rw [flat_get vEnc_len L k hk j hj]
  rcases (by omega : j = 0 ∨ j = 1 ∨ j = 2 ∨ j = 3) with rfl | rfl | rfl | rfl <;> rfl
theorem flat4_one (L : List (Nat → Int)) : ∀ u ∈ L.flatMap vEnc, u.oneCell' = true := by
  intro u hu
  obtain ⟨a, _, h⟩ := List.mem_flatMap.1 hu
  simp only [vEnc, List.mem_cons, List.not_mem_nil, or_false] at h
  rcases h with rfl | rfl | rfl | rfl <;> rfl
/-- The first ones of a row of vectors. -/
theorem VRow.first {w : World} {ao : Option Addr} {n cap : Nat} {L : List (Nat → Int)} (h : VRow w (.slice ao n cap) L) (m : Nat) : VRow w (.slice ao (L.take m).length cap) (L.take m) := by
  rcases h with ⟨rfl, _⟩ | ⟨hne, b, off, c, hv, hc⟩
  · exact .inl ⟨by simp, ao, cap, by simp⟩
  · cases hv
    by_cases h0 : L.take m = []
    · exact .inl ⟨h0, _, _, by rw [h0]; rfl⟩
    · refine .inr ⟨h0, b, off, cap, rfl, fun i j hi hj => ?_⟩
      rw [List.length_take] at hi
      rw [hc i j (by omega) hj]
      rw [List.getD_eq_getElem?_getD, List.getD_eq_getElem?_getD, List.getElem?_take_of_lt (by omega)]
section
variable {w : World} {ops : Array Oper} {rest : List Oper} {o : Oper} {a : Act} {Q : Exit → Act → World → Prop}
theorem wpList_buildV_none (hgd : o.guard = none) (ho : o.op = .buildSlice 25 0 #[]) (base : Nat) (hb : base ≤ w.heap.size)
    (h : ∀ w', OV w' base (.slice (some ⟨w.heap.size, 0, none⟩) 0 0) [] → w' = w.alloc (.cells #[] 28) → wpList Tryz.prog ops Q rest (a.put o.dst (.slice (some ⟨w.heap.size, 0, none⟩) 0 0)) w') : wpList Tryz.prog ops Q (o :: rest) a w := by
  refine wpList_plain hgd fun K hK => ?_
  obtain ⟨i0, hi, hz0, hz1, hz2⟩ := info_partsG infoV4
  unfold Oper.wp
  simp [execOp, ho, Instr.buildSlice, run_underlying, run_sizeOf, Tryz.underlying25, hi, hz1, Instr.fill, newRow, newObj, Result.andThen]
  rw [show (Array.map (fun x => (default : Value)) (Array.range 0)) = #[] from by simp]
  refine hK _ _ (h (w.alloc (.cells #[] 28)) ?_ rfl)
  exact ⟨rfl, .inr ⟨w.heap.size, 0, #[], rfl, hb, heap_alloc_last w _, Nat.le_refl _, Nat.zero_le _, rfl, rfl⟩⟩
theorem wpList_append_Vs (hgd : o.guard = none) (s x : Operand) (ho : o.op = .call { callee := .builtin .append, args := #[s, x], argTypes := #[25, 25] }) (base : Nat) (v : Value) (L M : List (Nat → Int)) (hs : a.eval s = v)
    (hown : OV w base v L) (ao : Option Addr) (c : Nat) (hx : a.eval x = .slice ao M.length c) (hrow : VRow w (.slice ao M.length c) M) (h0 : ao = none → c = 0) (hL : L.length + M.length ≤ 1000000) (hbase : base ≤ w.heap.size)
    (h : ∀ v' w', OV w' base v' (L ++ M) → w.grownBy w' v.ownBlock → (∀ b, v'.ownBlock = some b → v.ownBlock = some b ∨ w.heap.size ≤ b) → wpList Tryz.prog ops Q rest (a.put o.dst v') w') : wpList Tryz.prog ops Q (o :: rest) a w := by
  obtain ⟨i0, hi, hz0, hz1, hz2⟩ := info_partsG infoV4
  cases ao with
  | none =>
    obtain rfl := h0 rfl
    have hM : M = [] := by
      rcases hrow with ⟨e, _⟩ | ⟨_, b, off, cap, e, _⟩
      · exact e
      · cases e
    subst hM
    refine wpList_append_own_none hgd s x 25 ho base 28 i0 4 Tryz.underlying25 hi v _ _ hs hown hx ?_
    exact h v w (by rw [List.append_nil]; exact hown) (World.grownBy.refl _ _) (fun b hb => .inl hb)
  | some ad =>
    refine wpList_append_own_at w hgd s x 25 ho base 28 i0 _ 4 16 Tryz.underlying25 hi hz0 hz1 hz2 rfl (by decide) v L.length (L.flatMap vEnc) hs hown ad M.length c (M.flatMap vEnc) hx (flat_len vEnc_len M) ?_ (flat4_one M) (by unfold maxLen; omega) (by omega) hbase ?_
    · intro j u hu
      have hj : j < M.length * 4 := by
        have := (List.getElem?_eq_some_iff.1 hu).1
        rwa [flat_len vEnc_len M] at this
      rcases hrow with ⟨e, _⟩ | ⟨_, b, off, cap, e, hc⟩
      · subst e; simp at hj
      · cases e
        have hk : j / 4 < M.length := by omega
        have h1 := flat4 M (j / 4) (j % 4) hk (by omega)
        rw [show j / 4 * 4 + j % 4 = j by omega, hu] at h1
        have h2 := hc (j / 4) (j % 4) hk (by omega)
        rw [show off + j / 4 * 4 + j % 4 = off + j by omega, show M.getD (j / 4) nul = M[j / 4] by simp [hk]] at h2
        rw [Addr.add_lit, h2, ← Option.some.inj h1]
    · intro v' w' h1 h2 _ h4
      have h3 : OV w' base v' (L ++ M) := by
        unfold OV GO
        rw [List.flatMap_append, List.length_append]
        exact h1
      refine h v' w' h3 h2 (fun b hb => ?_)
      rcases h4 with h4 | h4
      · exact .inl (h4 ▸ hb)
      · rw [h4] at hb
        cases hb
        exact .inr (Nat.le_refl _)
end
/-- The first images of a row. -/
theorem GR.first {w : World} {ao : Option Addr} {n cap : Nat} {G : List (Img × Value × List Ent)} (h : GR w (.slice ao n cap) G) (m : Nat) : GR w (.slice ao (G.take m).length cap) (G.take m) := by
  obtain ⟨ao', cap', e, hc⟩ := h
  cases e
  refine ⟨ao, cap, rfl, fun i hi => ?_⟩
  have hi2 : i < G.length := by rw [List.length_take] at hi; omega
  obtain ⟨b, off, e, h1⟩ := hc i hi2
  refine ⟨b, off, e, ?_⟩
  simp only [List.getElem_take]
  exact h1

/-- Surroundings, cut. -/
def cutS (S : Sur) : Sur := ⟨S.att.take 40, S.uni.take 40, S.vry.take 40, S.co, S.fr, S.pt⟩
/-- Surroundings whose rows are the call's own, apart from one another. -/
structure EnvOwn (w : World) (base : Nat) (E : EnvC) (S : Sur) : Prop where
  va : OV w base E.va S.att
  vu : OV w base E.vu S.uni
  vv : OV w base E.vv S.vry
  co : E.co = S.co
  fr : E.fr = S.fr
  pt : E.pt = S.pt
  au : ∀ b, E.va.ownBlock = some b → E.vu.ownBlock ≠ some b
  av : ∀ b, E.va.ownBlock = some b → E.vv.ownBlock ≠ some b
  uv : ∀ b, E.vu.ownBlock = some b → E.vv.ownBlock ≠ some b
theorem EnvOwn.sur {w : World} {base : Nat} {E : EnvC} {S : Sur} (h : EnvOwn w base E S) : SurAt w E S := ⟨h.va.row, h.vu.row, h.vv.row, h.co, h.fr, h.pt⟩
theorem EnvOwn.keep {w w' : World} {base r : Nat} {E : EnvC} {S : Sur} (h : EnvOwn w base E S) (hg : w.grownBy w' (some r)) (hr : r < base) : EnvOwn w' base E S :=
  ⟨GO.keep h.va hg (fun b hb => by have := (GO.lt h.va b hb).1; omega), GO.keep h.vu hg (fun b hb => by have := (GO.lt h.vu b hb).1; omega), GO.keep h.vv hg (fun b hb => by have := (GO.lt h.vv b hb).1; omega), h.co, h.fr, h.pt, h.au, h.av, h.uv⟩
theorem EnvOwn.ext {w w' : World} {base : Nat} {E : EnvC} {S : Sur} (h : EnvOwn w base E S) (hx : Ext w w') : EnvOwn w' base E S := ⟨GO.ext h.va hx, GO.ext h.vu hx, GO.ext h.vv hx, h.co, h.fr, h.pt, h.au, h.av, h.uv⟩
theorem sur32_cut {W : World} {E : EnvC} {S : Sur} {G : List (Img × Value × List Ent)} (h : EnvIn W E S G) : Sur32 (cutS S) :=
  ⟨fun x i => reg_i32 (fun c hc => h.va.2.1 c (List.mem_of_mem_take hc)) x i, fun x i => reg_i32 (fun c hc => h.vu.2.1 c (List.mem_of_mem_take hc)) x i, fun x i => reg_i32 (fun c hc => h.vv.2.1 c (List.mem_of_mem_take hc)) x i, h.c32, h.p32⟩
/-- A slice, cut. -/
def cutI (v : Value) (m : Nat) : Value := match v with
  | .slice ao n cap => .slice ao (min n m) cap
  | v => v
theorem gr_cut {W : World} {E : EnvC} {S : Sur} {G : List (Img × Value × List Ent)} (h : EnvIn W E S G) : ∀ wx, Ext W wx → GR wx (cutI E.vi 4) (G.take 4) := by
  intro wx hx
  obtain ⟨og, cg, e, _⟩ := h.gi.2
  have h1 := h.gi.1.ext hx
  rw [e] at h1 ⊢
  have h2 := h1.first 4
  rw [List.length_take] at h2
  show GR wx (.slice og (min G.length 4) cg) (G.take 4)
  rw [Nat.min_comm]
  exact h2
theorem EnvIn.ext {w w' : World} {E : EnvC} {S : Sur} {G : List (Img × Value × List Ent)} (h : EnvIn w E S G) (hx : Ext w w') : EnvIn w' E S G :=
  ⟨⟨h.va.1.ext hx, h.va.2⟩, ⟨h.vu.1.ext hx, h.vu.2⟩, ⟨h.vv.1.ext hx, h.vv.2⟩, h.co, h.fr, h.pt, h.c32, h.p32, ⟨h.gi.1.ext hx, h.gi.2⟩⟩
/-- What Run answers, as a result and an error. -/
structure RunS (C : Cod) (S : Sur) (G : List (Img × Value × List Ent)) (w : World) (O : OutC) (r : Int) (w' : World) : Prop where
  ext : Ext w w'
  err : r = refI C S.att.length S.uni.length S.vry.length
  vy : ∃ ao n c, O.vy = .slice ao n c
  ok : r = 0 → O.po = (runP C S G).1.po ∧ O.sz = (runP C S G).1.sz ∧ O.cl = (runP C S G).1.cl ∧ O.dc = (runP C S G).1.dc ∧ OV w' w.heap.size O.vy (runP C S G).1.V
theorem RunQ.shape {C : Cod} {S : Sur} {G : List (Img × Value × List Ent)} {w : World} {e : Ending} {w' : World} (h : RunQ C S G w e w') : ∃ O r, e = .returned (.tuple #[.agg (outA O), .int .i64 r]) ∧ RunS C S G w O r w' := by
  rcases h with ⟨h1, rfl, h2⟩ | ⟨h1, vy, rfl, h2, h3⟩
  · exact ⟨outZ, _, rfl, h2, rfl, ⟨none, 0, 0, rfl⟩, fun h => absurd h h1⟩
  · refine ⟨_, 0, rfl, h3, h1.symm, ?_, fun _ => ⟨rfl, rfl, rfl, rfl, h2⟩⟩
    obtain ⟨ao, cap, e, _⟩ := GO.shape h2
    exact ⟨ao, _, cap, e⟩
theorem sameO_of {A B : OutC} (V : List (Nat → Int)) (h1 : A.po = B.po) (h2 : A.sz = B.sz) (h3 : A.cl = B.cl) (h4 : A.dc = B.dc) : sameO A B V V = true := by
  unfold sameO
  rw [h1, h2, h3, h4, same4_self, same4_self, sameR_self]
  simp
theorem envA_cells {w : World} {b : Nat} {E : EnvC} {t : TypeId} (h : Blk w b (envA E) t) : w.cell? ⟨b, 0, none⟩ = some E.va ∧ w.cell? ⟨b, 1, none⟩ = some E.vu ∧ w.cell? ⟨b, 2, none⟩ = some E.vv ∧ w.cell? ⟨b, 3, none⟩ = some (.int .i32 (E.co 0)) ∧ w.cell? ⟨b, 4, none⟩ = some (.int .i32 (E.co 1)) ∧ w.cell? ⟨b, 5, none⟩ = some (.int .i32 (E.co 2)) ∧ w.cell? ⟨b, 6, none⟩ = some (.int .i32 (E.co 3)) ∧ w.cell? ⟨b, 7, none⟩ = some (.bool E.fr) ∧ w.cell? ⟨b, 8, none⟩ = some (.int .i32 (E.pt 0)) ∧ w.cell? ⟨b, 9, none⟩ = some (.int .i32 (E.pt 1)) ∧ w.cell? ⟨b, 10, none⟩ = some (.int .i32 (E.pt 2)) ∧ w.cell? ⟨b, 11, none⟩ = some (.int .i32 (E.pt 3)) ∧ w.cell? ⟨b, 12, none⟩ = some E.vi :=
  ⟨h.cell rfl, h.cell rfl, h.cell rfl, h.cell rfl, h.cell rfl, h.cell rfl, h.cell rfl, h.cell rfl, h.cell rfl, h.cell rfl, h.cell rfl, h.cell rfl, h.cell rfl⟩
def setA (E : EnvC) (v : Value) : EnvC := ⟨v, E.vu, E.vv, E.co, E.fr, E.pt, E.vi⟩
def setU (E : EnvC) (v : Value) : EnvC := ⟨E.va, v, E.vv, E.co, E.fr, E.pt, E.vi⟩
def setY (E : EnvC) (v : Value) : EnvC := ⟨E.va, E.vu, v, E.co, E.fr, E.pt, E.vi⟩
def setI (E : EnvC) (v : Value) : EnvC := ⟨E.va, E.vu, E.vv, E.co, E.fr, E.pt, v⟩
def envZ : EnvC := ⟨.slice none 0 0, .slice none 0 0, .slice none 0 0, nul, false, nul, .slice none 0 0⟩

def AroundQ (w : World) (E : EnvC) (S : Sur) (G : List (Img × Value × List Ent)) (e : Ending) (w' : World) : Prop := ∃ E', e = .returned (.agg (envA E')) ∧ EnvOwn w' w.heap.size E' (cutS S) ∧ E'.vi = cutI E.vi 4 ∧ Ext w w'

set_option maxRecDepth 10000 in
set_option maxHeartbeats 4000000 in
theorem around18_any (E : EnvC) (S : Sur) (G : List (Img × Value × List Ent)) (w : World) (h : EnvIn w E S G) : Calls Tryz.prog 11 #[.agg (envA E)] w (AroundQ w E S G) := by
  obtain ⟨ha, hu, hv, hco, hfr, hpt, _, _, hg⟩ := h
  obtain ⟨oa, ca, ea, za, la, ma⟩ := ha.2.2
  obtain ⟨Ma, hMa⟩ : ∃ M, S.att.take 40 = M := ⟨_, rfl⟩
  obtain ⟨naq, hna⟩ : ∃ n, Ma.length = n := ⟨_, rfl⟩
  obtain ⟨hna3, hna4, hmia⟩ : naq ≤ S.att.length ∧ naq ≤ 40 ∧ min (S.att.length : Int) 40 = (naq : Int) := by
    rw [← hna, ← hMa, List.length_take]
    omega
  have HTKa : Hid (∀ wx, Ext w wx → VRow wx (.slice oa Ma.length ca) Ma) := fun wx hx => by
    have := ha.1.ext hx
    rw [ea] at this
    rw [← hMa]
    exact this.first 40
  have HLTa := hide hna
  have HZa := hide za
  obtain ⟨ou, cu, eu, zu, lu, mu⟩ := hu.2.2
  obtain ⟨Mu, hMu⟩ : ∃ M, S.uni.take 40 = M := ⟨_, rfl⟩
  obtain ⟨nuq, hnu⟩ : ∃ n, Mu.length = n := ⟨_, rfl⟩
  obtain ⟨hnu3, hnu4, hmiu⟩ : nuq ≤ S.uni.length ∧ nuq ≤ 40 ∧ min (S.uni.length : Int) 40 = (nuq : Int) := by
    rw [← hnu, ← hMu, List.length_take]
    omega
  have HTKu : Hid (∀ wx, Ext w wx → VRow wx (.slice ou Mu.length cu) Mu) := fun wx hx => by
    have := hu.1.ext hx
    rw [eu] at this
    rw [← hMu]
    exact this.first 40
  have HLTu := hide hnu
  have HZu := hide zu
  obtain ⟨ov, cv, ev, zv, lv, mv⟩ := hv.2.2
  obtain ⟨Mv, hMv⟩ : ∃ M, S.vry.take 40 = M := ⟨_, rfl⟩
  obtain ⟨nvq, hnv⟩ : ∃ n, Mv.length = n := ⟨_, rfl⟩
  obtain ⟨hnv3, hnv4, hmiv⟩ : nvq ≤ S.vry.length ∧ nvq ≤ 40 ∧ min (S.vry.length : Int) 40 = (nvq : Int) := by
    rw [← hnv, ← hMv, List.length_take]
    omega
  have HTKv : Hid (∀ wx, Ext w wx → VRow wx (.slice ov Mv.length cv) Mv) := fun wx hx => by
    have := hv.1.ext hx
    rw [ev] at this
    rw [← hMv]
    exact this.first 40
  have HLTv := hide hnv
  have HZv := hide zv
  obtain ⟨og, cg, eg, zg, lg, mg⟩ := hg.2
  obtain ⟨Mg, hMg⟩ : ∃ M, G.take 4 = M := ⟨_, rfl⟩
  obtain ⟨ngq, hng⟩ : ∃ n, Mg.length = n := ⟨_, rfl⟩
  obtain ⟨hng3, hng4, hmig⟩ : ngq ≤ G.length ∧ ngq ≤ 4 ∧ min (G.length : Int) 4 = (ngq : Int) := by
    rw [← hng, ← hMg, List.length_take]
    omega
  have HQ : Hid (AroundQ w E S G = fun e w' => ∃ E', e = .returned (.agg (envA E')) ∧ EnvOwn w' w.heap.size E' ⟨Ma, Mu, Mv, S.co, S.fr, S.pt⟩ ∧ E'.vi = cutI E.vi 4 ∧ Ext w w') := by
    show AroundQ w E S G = _
    unfold AroundQ cutS
    simp only [hMa, hMu, hMv, hMg]
  have HCF := hide (And.intro hco (And.intro hfr hpt))
  rw [unhide HQ]
  clear HQ hMa hMu hMv hMg ha hu hv hg hco hfr hpt za zu zv zg hna hnu hnv hng
  unfold maxLen at ma mu mv mg
  have EV := hide (And.intro ea (And.intro eu (And.intro ev eg)))
  have HX0 : Hid (Ext w ((w.alloc (.cells (envA E) 31)).alloc (.cells (envA envZ) 31))) := ((Ext.refl w).alloc _).alloc _
  have HB0 : Hid (Blk ((w.alloc (.cells (envA E) 31)).alloc (.cells (envA envZ) 31)) w.heap.size (envA E) 31) := (Blk.new w _ _).alloc _
  have HR0 : Hid (Blk ((w.alloc (.cells (envA E) 31)).alloc (.cells (envA envZ) 31)) (w.heap.size + 1) (envA envZ) 31) := Blk.here (by simp)
  go_enter Tryz.func11, Tryz.ntmps11
  go_upto_region 1 with fail
  generalize hw0 : ((w.alloc (.cells (envA E) 31)).alloc (.cells (envA envZ) 31)) = w0 at HX0 HB0 HR0
  try rw [show ((w.alloc (.cells (envA E) 31)).alloc (.cells #[.slice none 0 0, .slice none 0 0, .slice none 0 0, .int .i32 0, .int .i32 0, .int .i32 0, .int .i32 0, .bool false, .int .i32 0, .int .i32 0, .int .i32 0, .int .i32 0, .slice none 0 0] 31)) = w0 from hw0]
  clear hw0
  have hsz0 : w.heap.size + 2 ≤ w0.heap.size := by have := (unhide HR0).lt; omega
  clear ea eu ev eg
  go_wp2_with (refine wpList_buildV_none rfl rfl (w.heap.size + 2) hsz0 ?_)
  intro w1 hio e1
  have HX1 : Hid (Ext w w1) := by rw [Hid, e1]; exact (unhide HX0).alloc _
  have HB1 : Hid (Blk w1 w.heap.size (envA E) 31) := by rw [Hid, e1]; exact (unhide HB0).alloc _
  have HR1 : Hid (Blk w1 (w.heap.size + 1) (envA envZ) 31) := by rw [Hid, e1]; exact (unhide HR0).alloc _
  have HIO := hide hio
  have hsz1 : w.heap.size + 2 ≤ w1.heap.size := by rw [e1]; simp; omega
  have HNB : Hid (∀ b, (Value.slice (some ⟨w0.heap.size, 0, none⟩) 0 0).ownBlock = some b → w.heap.size + 2 ≤ b) := fun b hb => ((unhide HIO).lt b hb).1
  obtain ⟨g0, hg0⟩ : ∃ g, w0.heap.size = g := ⟨_, rfl⟩
  rw [hg0] at HIO HNB 
  rw [show Value.slice (some ⟨w0.heap.size, 0, none⟩) 0 0 = Value.slice (some ⟨g0, 0, none⟩) 0 0 by rw [hg0]]
  clear e1 hio HX0 HB0 HR0 hg0 hsz0 
  have q0 := (unhide HB1).cell (i := 0) (v := .slice oa S.att.length ca) (by rw [← (unhide EV).1]; rfl)
  go_wp2_with (refine wpList_append_Vs rfl (.tmp 3) (.tmp 10) rfl (w.heap.size + 2) _ [] Ma rfl (unhide HIO) oa ca (by rw [unhide HLTa]; rfl) (unhide HTKa _ (unhide HX1)) (unhide HZa) (by rw [unhide HLTa]; simp; omega) hsz1 ?_)
  intro v6 w2 hm2 hg hloc
  try rw [List.nil_append] at hm2
  have hxx : Ext w w2 := (unhide HX1).grown hg (unhide HX1).size (fun b e => by have := unhide HNB b e; omega)
  have HB2 := hide ((unhide HB1).grownO hg (fun e => by have := unhide HNB _ e; omega))
  have HR2 := hide ((unhide HR1).grownO hg (fun e => by have := unhide HNB _ e; omega))
  obtain ⟨am, cm, e6, _⟩ := hm2.shape
  have HM := hide hm2
  have HX2 := hide hxx
  have hsz2 : w.heap.size + 2 ≤ w2.heap.size := by have := hg.size; omega
  clear hm2 hg hxx hloc HIO HB1 HR1 HX1 q0 HNB hsz1 
  have HB3 := hide ((unhide HB2).set 0 v6)
  have HR3 := hide ((unhide HR2).other (r := w.heap.size) 0 v6 (by omega))
  have HM3 := hide (GO.keep (unhide HM) (grownBy_set w2 w.heap.size 0 v6) (fun b hb => by have := ((unhide HM).lt b hb).1; omega))
  have HX3 := hide (extSet (i := 0) (v := v6) (unhide HX2) (Nat.le_refl _))
  have c1 := (unhide HB2).cell (i := 0) (v := .slice oa S.att.length ca) (by rw [← (unhide EV).1]; rfl)
  have f1 := (unhide HB2).free 0
  have hsz3 : w.heap.size + 2 ≤ (w2.setCell ⟨w.heap.size, 0, none⟩ v6).heap.size := by simp; omega
  subst e6
  go_upto_region 2 with fail
  generalize hv6 : Value.slice am Ma.length cm = na at *
  generalize w2.setCell _ _ = w3 at HB3 HR3 HM3 HX3 hsz3  ⊢
  clear HB2 HR2 HM HX2 c1 f1 hsz2 hv6 
  have HB0 : Hid (Blk w3 w.heap.size (envA (setA E na)) 31) := unhide HB3
  have HR0 := hide (unhide HR3)
  have HX0 := hide (unhide HX3)
  have HOa : Hid (OV w3 (w.heap.size + 2) na Ma) := unhide HM3
  have hsz1 := hsz3
  clear HB3 HR3 HX3 HM3 hsz3 
  rename World => w0
  go_wp2_with (refine wpList_buildV_none rfl rfl (w.heap.size + 2) hsz1 ?_)
  intro w1 hio e1
  have HX1 : Hid (Ext w w1) := by rw [Hid, e1]; exact (unhide HX0).alloc _
  have HB1 : Hid (Blk w1 w.heap.size (envA (setA E na)) 31) := by rw [Hid, e1]; exact (unhide HB0).alloc _
  have HR1 : Hid (Blk w1 (w.heap.size + 1) (envA envZ) 31) := by rw [Hid, e1]; exact (unhide HR0).alloc _
  have HOa1 : Hid (OV w1 (w.heap.size + 2) na Ma) := by rw [Hid, e1]; exact OV.ext9 (unhide HOa) ((Ext.refl _).alloc _)
  have HIO := hide hio
  have hsz1 : w.heap.size + 2 ≤ w1.heap.size := by rw [e1]; simp; omega
  have HNB : Hid (∀ b, (Value.slice (some ⟨w0.heap.size, 0, none⟩) 0 0).ownBlock = some b → w.heap.size + 2 ≤ b) := fun b hb => ((unhide HIO).lt b hb).1
  have HNEa : Hid (∀ b, na.ownBlock = some b → b < w0.heap.size) := fun b hb => ((unhide HOa).lt b hb).2
  obtain ⟨g0, hg0⟩ : ∃ g, w0.heap.size = g := ⟨_, rfl⟩
  rw [hg0] at HIO HNB HNEa
  rw [show Value.slice (some ⟨w0.heap.size, 0, none⟩) 0 0 = Value.slice (some ⟨g0, 0, none⟩) 0 0 by rw [hg0]]
  clear e1 hio HX0 HB0 HR0 hg0 HOa
  have q0 := (unhide HB1).cell (i := 1) (v := .slice ou S.uni.length cu) (by rw [← (unhide EV).2.1]; rfl)
  go_wp2_with (refine wpList_append_Vs rfl (.tmp 13) (.tmp 20) rfl (w.heap.size + 2) _ [] Mu rfl (unhide HIO) ou cu (by rw [unhide HLTu]; rfl) (unhide HTKu _ (unhide HX1)) (unhide HZu) (by rw [unhide HLTu]; simp; omega) hsz1 ?_)
  intro v6 w2 hm2 hg hloc
  try rw [List.nil_append] at hm2
  have hxx : Ext w w2 := (unhide HX1).grown hg (unhide HX1).size (fun b e => by have := unhide HNB b e; omega)
  have HB2 := hide ((unhide HB1).grownO hg (fun e => by have := unhide HNB _ e; omega))
  have HR2 := hide ((unhide HR1).grownO hg (fun e => by have := unhide HNB _ e; omega))
  have HOa2 := hide (GO.keep (unhide HOa1) (r := g0) (by simpa [Value.ownBlock] using hg) (fun b hb => by have := unhide HNEa b hb; omega))
  have HDau : Hid (∀ b, na.ownBlock = some b → v6.ownBlock ≠ some b) := fun b hb h6 => by
    have h1 := unhide HNEa b hb
    have h2 := ((unhide HOa1).lt b hb).2
    rcases hloc b h6 with h | h
    · simp [Value.ownBlock] at h
      omega
    · omega
  obtain ⟨am, cm, e6, _⟩ := hm2.shape
  have HM := hide hm2
  have HX2 := hide hxx
  have hsz2 : w.heap.size + 2 ≤ w2.heap.size := by have := hg.size; omega
  clear hm2 hg hxx hloc HIO HB1 HR1 HX1 q0 HNB hsz1 HNEa HOa1
  have HB3 := hide ((unhide HB2).set 1 v6)
  have HR3 := hide ((unhide HR2).other (r := w.heap.size) 1 v6 (by omega))
  have HM3 := hide (GO.keep (unhide HM) (grownBy_set w2 w.heap.size 1 v6) (fun b hb => by have := ((unhide HM).lt b hb).1; omega))
  have HOa3 := hide (GO.keep (unhide HOa2) (grownBy_set w2 w.heap.size 1 v6) (fun b hb => by have := ((unhide HOa2).lt b hb).1; omega))
  have HX3 := hide (extSet (i := 1) (v := v6) (unhide HX2) (Nat.le_refl _))
  have c1 := (unhide HB2).cell (i := 1) (v := .slice ou S.uni.length cu) (by rw [← (unhide EV).2.1]; rfl)
  have f1 := (unhide HB2).free 1
  have hsz3 : w.heap.size + 2 ≤ (w2.setCell ⟨w.heap.size, 1, none⟩ v6).heap.size := by simp; omega
  subst e6
  go_upto_region 3 with fail
  generalize hv6 : Value.slice am Mu.length cm = nu at *
  generalize w2.setCell _ _ = w3 at HB3 HR3 HM3 HX3 hsz3 HOa3 ⊢
  clear HB2 HR2 HM HX2 c1 f1 hsz2 hv6 HOa2
  have HB0 : Hid (Blk w3 w.heap.size (envA (setU (setA E na) nu)) 31) := unhide HB3
  have HR0 := hide (unhide HR3)
  have HX0 := hide (unhide HX3)
  have HOu : Hid (OV w3 (w.heap.size + 2) nu Mu) := unhide HM3
  have HOa : Hid (OV w3 (w.heap.size + 2) na Ma) := unhide HOa3
  have hsz2 := hsz3
  clear HB3 HR3 HX3 HM3 hsz3 HOa3
  rename World => w0
  go_wp2_with (refine wpList_buildV_none rfl rfl (w.heap.size + 2) hsz2 ?_)
  intro w1 hio e1
  have HX1 : Hid (Ext w w1) := by rw [Hid, e1]; exact (unhide HX0).alloc _
  have HB1 : Hid (Blk w1 w.heap.size (envA (setU (setA E na) nu)) 31) := by rw [Hid, e1]; exact (unhide HB0).alloc _
  have HR1 : Hid (Blk w1 (w.heap.size + 1) (envA envZ) 31) := by rw [Hid, e1]; exact (unhide HR0).alloc _
  have HOa1 : Hid (OV w1 (w.heap.size + 2) na Ma) := by rw [Hid, e1]; exact OV.ext9 (unhide HOa) ((Ext.refl _).alloc _)
  have HOu1 : Hid (OV w1 (w.heap.size + 2) nu Mu) := by rw [Hid, e1]; exact OV.ext9 (unhide HOu) ((Ext.refl _).alloc _)
  have HIO := hide hio
  have hsz1 : w.heap.size + 2 ≤ w1.heap.size := by rw [e1]; simp; omega
  have HNB : Hid (∀ b, (Value.slice (some ⟨w0.heap.size, 0, none⟩) 0 0).ownBlock = some b → w.heap.size + 2 ≤ b) := fun b hb => ((unhide HIO).lt b hb).1
  have HNEa : Hid (∀ b, na.ownBlock = some b → b < w0.heap.size) := fun b hb => ((unhide HOa).lt b hb).2
  have HNEu : Hid (∀ b, nu.ownBlock = some b → b < w0.heap.size) := fun b hb => ((unhide HOu).lt b hb).2
  obtain ⟨g0, hg0⟩ : ∃ g, w0.heap.size = g := ⟨_, rfl⟩
  rw [hg0] at HIO HNB HNEa HNEu
  rw [show Value.slice (some ⟨w0.heap.size, 0, none⟩) 0 0 = Value.slice (some ⟨g0, 0, none⟩) 0 0 by rw [hg0]]
  clear e1 hio HX0 HB0 HR0 hg0 HOa HOu
  have q0 := (unhide HB1).cell (i := 2) (v := .slice ov S.vry.length cv) (by rw [← (unhide EV).2.2.1]; rfl)
  go_wp2_with (refine wpList_append_Vs rfl (.tmp 23) (.tmp 30) rfl (w.heap.size + 2) _ [] Mv rfl (unhide HIO) ov cv (by rw [unhide HLTv]; rfl) (unhide HTKv _ (unhide HX1)) (unhide HZv) (by rw [unhide HLTv]; simp; omega) hsz1 ?_)
  intro v6 w2 hm2 hg hloc
  try rw [List.nil_append] at hm2
  have hxx : Ext w w2 := (unhide HX1).grown hg (unhide HX1).size (fun b e => by have := unhide HNB b e; omega)
  have HB2 := hide ((unhide HB1).grownO hg (fun e => by have := unhide HNB _ e; omega))
  have HR2 := hide ((unhide HR1).grownO hg (fun e => by have := unhide HNB _ e; omega))
  have HOa2 := hide (GO.keep (unhide HOa1) (r := g0) (by simpa [Value.ownBlock] using hg) (fun b hb => by have := unhide HNEa b hb; omega))
  have HDav : Hid (∀ b, na.ownBlock = some b → v6.ownBlock ≠ some b) := fun b hb h6 => by
    have h1 := unhide HNEa b hb
    have h2 := ((unhide HOa1).lt b hb).2
    rcases hloc b h6 with h | h
    · simp [Value.ownBlock] at h
      omega
    · omega
  have HOu2 := hide (GO.keep (unhide HOu1) (r := g0) (by simpa [Value.ownBlock] using hg) (fun b hb => by have := unhide HNEu b hb; omega))
  have HDuv : Hid (∀ b, nu.ownBlock = some b → v6.ownBlock ≠ some b) := fun b hb h6 => by
    have h1 := unhide HNEu b hb
    have h2 := ((unhide HOu1).lt b hb).2
    rcases hloc b h6 with h | h
    · simp [Value.ownBlock] at h
      omega
    · omega
  obtain ⟨am, cm, e6, _⟩ := hm2.shape
  have HM := hide hm2
  have HX2 := hide hxx
  have hsz2 : w.heap.size + 2 ≤ w2.heap.size := by have := hg.size; omega
  clear hm2 hg hxx hloc HIO HB1 HR1 HX1 q0 HNB hsz1 HNEa HOa1 HNEu HOu1
  have HB3 := hide ((unhide HB2).set 2 v6)
  have HR3 := hide ((unhide HR2).other (r := w.heap.size) 2 v6 (by omega))
  have HM3 := hide (GO.keep (unhide HM) (grownBy_set w2 w.heap.size 2 v6) (fun b hb => by have := ((unhide HM).lt b hb).1; omega))
  have HOa3 := hide (GO.keep (unhide HOa2) (grownBy_set w2 w.heap.size 2 v6) (fun b hb => by have := ((unhide HOa2).lt b hb).1; omega))
  have HOu3 := hide (GO.keep (unhide HOu2) (grownBy_set w2 w.heap.size 2 v6) (fun b hb => by have := ((unhide HOu2).lt b hb).1; omega))
  have HX3 := hide (extSet (i := 2) (v := v6) (unhide HX2) (Nat.le_refl _))
  have c1 := (unhide HB2).cell (i := 2) (v := .slice ov S.vry.length cv) (by rw [← (unhide EV).2.2.1]; rfl)
  have f1 := (unhide HB2).free 2
  have hsz3 : w.heap.size + 2 ≤ (w2.setCell ⟨w.heap.size, 2, none⟩ v6).heap.size := by simp; omega
  subst e6
  go_upto_region 4 with fail
  generalize hv6 : Value.slice am Mv.length cm = nv at *
  generalize w2.setCell _ _ = w3 at HB3 HR3 HM3 HX3 hsz3 HOa3 HOu3 ⊢
  clear HB2 HR2 HM HX2 c1 f1 hsz2 hv6 HOa2 HOu2
  have HB0 : Hid (Blk w3 w.heap.size (envA (setY (setU (setA E na) nu) nv)) 31) := unhide HB3
  have HR0 := hide (unhide HR3)
  have HX0 := hide (unhide HX3)
  have HOv : Hid (OV w3 (w.heap.size + 2) nv Mv) := unhide HM3
  have HOa : Hid (OV w3 (w.heap.size + 2) na Ma) := unhide HOa3
  have HOu : Hid (OV w3 (w.heap.size + 2) nu Mu) := unhide HOu3
  have hsz3 := hsz3
  clear HB3 HR3 HX3 HM3 hsz3 HOa3 HOu3
  rename World => w0
  have c1 := (unhide HB0).cell (i := 12) (v := .slice og G.length cg) (by rw [← (unhide EV).2.2.2]; rfl)
  have f1 := (unhide HB0).free 12
  have HB3 := hide ((unhide HB0).set 12 (.slice og ngq cg))
  have HR3 := hide ((unhide HR0).other (r := w.heap.size) 12 (.slice og ngq cg) (by omega))
  have HX3 := hide (extSet (i := 12) (v := .slice og ngq cg) (unhide HX0) (Nat.le_refl _))
  have HOa3 := hide (GO.keep (unhide HOa) (grownBy_set w0 w.heap.size 12 (.slice og ngq cg)) (fun b hb => by have := ((unhide HOa).lt b hb).1; omega))
  have HOu3 := hide (GO.keep (unhide HOu) (grownBy_set w0 w.heap.size 12 (.slice og ngq cg)) (fun b hb => by have := ((unhide HOu).lt b hb).1; omega))
  have HOv3 := hide (GO.keep (unhide HOv) (grownBy_set w0 w.heap.size 12 (.slice og ngq cg)) (fun b hb => by have := ((unhide HOv).lt b hb).1; omega))
  go_upto_region 5 with fail
  generalize w0.setCell _ _ = w3 at HB3 HR3 HX3 HOa3 HOu3 HOv3 ⊢
  clear c1 f1 HB0 HR0 HX0 HOa HOu HOv
  have HB4 : Hid (Blk w3 w.heap.size (envA (setI (setY (setU (setA E na) nu) nv) (.slice og ngq cg))) 31) := unhide HB3
  clear HB3
  have H1 : Hid (∃ aa cc, na = .slice aa Ma.length cc) := by obtain ⟨aa, cc, e, _⟩ := GO.shape (unhide HOa3); exact ⟨aa, cc, e⟩
  have H2 : Hid (∃ aa cc, nu = .slice aa Mu.length cc) := by obtain ⟨aa, cc, e, _⟩ := GO.shape (unhide HOu3); exact ⟨aa, cc, e⟩
  have H3 : Hid (∃ aa cc, nv = .slice aa Mv.length cc) := by obtain ⟨aa, cc, e, _⟩ := GO.shape (unhide HOv3); exact ⟨aa, cc, e⟩
  have hone : (envA (setI (setY (setU (setA E na) nu) nv) (.slice og ngq cg))).all (·.oneCell') = true := by
    obtain ⟨_, _, r1⟩ := unhide H1
    obtain ⟨_, _, r2⟩ := unhide H2
    obtain ⟨_, _, r3⟩ := unhide H3
    rw [r1, r2, r3]
    simp [envA, setI, setY, setU, setA, Value.oneCell']
  have HONE := hide hone
  clear hone H1 H2 H3
  go_wp2_with (first
    | refine wpList_load_row rfl 31 (.tmp 1) rfl w.heap.size rfl 31 (envA (setI (setY (setU (setA E na) nu) nv) (.slice og ngq cg))) (0, 0) _ (unhide HB4) Tryz.underlying31 rfl sizeEnv ?_
    | refine wpList_store_row rfl 31 (.tmp 2) (.tmp 41) rfl (w.heap.size + 1) (envA (setI (setY (setU (setA E na) nu) nv) (.slice og ngq cg))) rfl rfl 31 _ (unhide HR3) sizeEnv rfl (unhide HONE) ?_)
  refine bodyPost_ret (v := .agg (envA (setI (setY (setU (setA E na) nu) nv) (.slice og ngq cg)))) (results_cell_row Tryz.results11 _ _ (w.heap.size + 1) 31 _ (0, 0) _ rfl ((unhide HR3).rowC) Tryz.underlying31 rfl sizeEnv) rfl ?_
  have hk : ∀ (v : Value) (M : List (Nat → Int)), OV w3 (w.heap.size + 2) v M → OV (w3.setRow (w.heap.size + 1) (envA (setI (setY (setU (setA E na) nu) nv) (.slice og ngq cg)))) w.heap.size v M := fun v M h => GO.lower (GO.keep h (row_grown _ _ _) (fun b hb => by have := (h.lt b hb).1; omega)) (by omega)
  have hX := extRow (cs := envA (setI (setY (setU (setA E na) nu) nv) (.slice og ngq cg))) (unhide HX3) (show w.heap.size ≤ w.heap.size + 1 by omega)
  exact ⟨(setI (setY (setU (setA E na) nu) nv) (.slice og ngq cg)), rfl, ⟨hk _ _ (unhide HOa3), hk _ _ (unhide HOu3), hk _ _ (unhide HOv3), (unhide HCF).1, (unhide HCF).2.1, (unhide HCF).2.2, unhide HDau, unhide HDav, unhide HDuv⟩, (by show Value.slice og ngq cg = cutI E.vi 4; rw [(unhide EV).2.2.2]; show Value.slice og ngq cg = Value.slice og (min G.length 4) cg; rw [show min G.length 4 = ngq by omega]), hX⟩
end Go.Proofs.YtglfhmlcmffoaaaGreat
