/-
  Codes as bytes: the walk of Encode. What the dump lacks is left out.
-/
import Derived.Test.YtfoffnbkfnbglaaCM
import Derived.Test.YtfoffnbkfnbglaaW4
namespace Go.Proofs.Ytfoffnbkfnbglaa
open Go.RowKit Go.Shelf
set_option linter.unusedVariables false
set_option linter.unusedSimpArgs false
attribute [local go_sem] Oper.semAt_some

/-- The bytes of numbers. -/
def bytL (l : List Int) : List Int := l.flatMap (fun x => low x 4)
def bytP (C : Cod) : List Int := bytL (numL C)
theorem bytL_snoc (l : List Int) (x : Int) : bytL (l ++ [x]) = bytL l ++ low x 4 := by simp [bytL, List.flatMap_append]
theorem bytL_len (l : List Int) : (bytL l).length = 4 * l.length := by
  induction l with
  | nil => rfl
  | cons x r ih =>
    have e : bytL (x :: r) = low x 4 ++ bytL r := by simp [bytL]
    rw [e, List.length_append, ih, low_length]
    simp
    omega
theorem bytP_len (C : Cod) : (bytP C).length = 28 + 64 * C.ins.length := by
  rw [bytP, bytL_len, numL, numK_len C _ (Nat.le_refl _)]
  omega

/-- 'append(out, xs...)', as one operation within a fence. -/
theorem operIn_append_Own {F : Fence} {n : Nat} {P : Program} {w : World} {o : Oper} {a : Act} {K : Act → World → Prop} {Q : Exit → Act → World → Prop} (s x : Operand) (t : TypeId)
    (ho : o.op = .call { callee := .builtin .append, args := #[s, x], argTypes := #[t, t] })
    (base : Nat) (e : TypeId) (i : TypeInfo) (k : IntKind) (bytes : Nat) (ht : P.underlying t = some (.slice e)) (hi : P.info? e = some i) (hz : i.zero = some (.int k 0))
    (hsize : i.size = 1) (hby : i.bytes = bytes) (v : Value) (xs : List Int) (hs : a.eval s = v) (hown : Own k w base e v xs)
    (b off cap : Nat) (ys : List Int) (hx : a.eval x = .slice (some ⟨b, off, none⟩) ys.length cap) (hc : ∀ i, i < ys.length → w.cell? ⟨b, off + i, none⟩ = some (.int k (ys.getD i 0))) (h63 : xs.length + ys.length ≤ maxLen) (hbytes : (xs.length + ys.length) * bytes ≤ 140737488355328) (hbase : base ≤ w.heap.size)
    (h : ∀ v' w', Own k w' base e v' (xs ++ ys) → w.grownBy w' v.ownBlock → K (a.put o.dst v') w') : o.wpIn F n P a w K Q := by
  obtain ⟨v', w', hrun, r1, r2, r3⟩ := run_append_own (P := P) w base t o.type e i (.int k 0) 1 bytes ht hi hz hsize hby rfl (by decide) v xs.length _ hown ⟨b, off, none⟩ ys.length cap (ys.map (Value.int k)) (by simp) (Row.news hc) (ints_oneCell _ _) h63 hbytes hbase
  unfold Oper.wpIn
  refine ⟨?_, ?_⟩
  · simp [Oper.about, ho, resolve, Target.leads, Sem.run_pure]
  · rw [Oper.semAt_plain F _ _ (by rw [ho]; intro c hc'; cases hc')]
    simp [execOp, ho, resolve, invoke, builtin, hs, hx, hrun, Result.andThen]
    refine h v' w' ?_ r2
    unfold Own
    rw [List.length_append, List.map_append]
    exact r1

theorem extG {w w' : World} (hx : Ext w w') (r : Option Nat) : w.grownBy w' r := ⟨hx.os, hx.tape, hx.output, hx.size, fun i hi _ => hx.block i hi⟩
theorem own_cells {k : IntKind} {w : World} {base : Nat} {e : TypeId} {v : Value} {xs : List Int} (h : Own k w base e v xs) : ∀ (j : Nat) (o : Obj), v.ownBlock = some j → w.heap[j]? = some o → o.isCells = true := by
  intro j o hj ho
  rcases h.2 with ⟨rfl, _⟩ | ⟨g, cap, cur, rfl, _, hg, _⟩
  · cases hj
  · cases hj
    rw [hg] at ho
    cases ho
    rfl
theorem Own.kept9 {k : IntKind} {w w' : World} {base r : Nat} {e : TypeId} {v : Value} {xs : List Int} (h : Own k w base e v xs) (hg : w.grownBy w' (some r)) (hne : v.ownBlock ≠ some r) : Own k w' base e v xs := by
  refine World.ownsRow.kept h hg ?_
  cases hv : v.ownBlock with
  | none => exact .inl rfl
  | some b => exact .inr (fun e => hne (by rw [hv, e]))
theorem own_neB {k : IntKind} {w : World} {base G : Nat} {e t : TypeId} {v : Value} {xs : List Int} {cs : Array Value} (h : Own k w base e v xs) (hB : Blk w G cs t) (hne : t ≠ e) : v.ownBlock ≠ some G := by
  intro hv
  rcases h.2 with ⟨rfl, _⟩ | ⟨g, cap, cur, rfl, _, hg, _⟩
  · cases hv
  · cases hv
    rw [show w.heap[g]? = some (.cells cs t (0, 0)) from hB] at hg
    cases hg
    exact hne rfl
theorem blk_keptC {W W' : World} {b : Nat} {cs : Array Value} {t : TypeId} {row : Option Nat} (h : Blk W b cs t) (hg : W.grownBy W' row) (hr : ∀ r, row = some r → ∃ o : Obj, W.heap[r]? = some o ∧ o.isCells = false) : Blk W' b cs t := by
  refine (hg.block b h.lt ?_).trans h
  intro e
  obtain ⟨o, ho, hc⟩ := hr b e.symm
  rw [show W.heap[b]? = some (.cells cs t (0, 0)) from h] at ho
  cases ho
  cases hc
theorem own_keptC {k : IntKind} {W W' : World} {base : Nat} {e : TypeId} {v : Value} {xs : List Int} {row : Option Nat} (h : Own k W base e v xs) (hg : W.grownBy W' row) (hr : ∀ r, row = some r → ∃ o : Obj, W.heap[r]? = some o ∧ o.isCells = false) : Own k W' base e v xs := by
  refine World.ownsRow.kept h hg ?_
  rcases h.2 with ⟨rfl, _⟩ | ⟨g, cap, cur, rfl, _, hgg, _⟩
  · exact .inl rfl
  · refine .inr (fun e => ?_)
    obtain ⟨o, ho, hc⟩ := hr g e.symm
    rw [hgg] at ho
    cases ho
    cases hc
theorem KeptN.trans {w : World} {Bc : Nat} {A B C : World} (h : KeptN w Bc A B) (k : KeptN w Bc B C) : KeptN w Bc A C := ⟨k.1.trans h.1, fun i hi => (k.2 i hi).trans (h.2 i hi)⟩
theorem keptN_put {w : World} {Bc : Nat} {W : World} {l : Nat} {o' : Obj} (hB : Bc ≠ l) (hw : w.heap.size ≤ l) : KeptN w Bc W (W.putObj l o') := ⟨World.putObj_heap_other hB, fun i hi => World.putObj_heap_other (by omega)⟩

/-- What stands between two rounds of Encode: the bytes so far. -/
def EncI (w : World) (G : Nat) (pre : List Nu) (W : World) : Prop := ∃ ao cap, Blk W G #[.slice ao (bytL (valN pre)).length cap] 22 ∧ Own .u8 W w.heap.size 5 (.slice ao (bytL (valN pre)).length cap) (bytL (valN pre)) ∧ Ext w W

set_option maxRecDepth 100000 in
set_option maxHeartbeats 4000000 in
theorem encode_good (C : Cod) (v : Value) (w : World) (h : IR w v C.ins) (hok : ∀ I ∈ C.ins, OkI I) (hn : C.ins.length ≤ 4096) (HM : ∀ wx, Ext w wx → Calls Try.prog 23 #[.agg #[.int .i64 (C).stage, v, .int .i64 (C).regs, .int .i64 (C).attr, .int .i64 (C).unif, .int .i64 (C).vary]] wx fun e w' => e = .returned (.bool true) ∧ Ext wx w') :
    Calls Try.prog 11 #[.agg #[.int .i64 (C).stage, v, .int .i64 (C).regs, .int .i64 (C).attr, .int .i64 (C).unif, .int .i64 (C).vary]] w fun e w' => ∃ ao cap, e = .returned (.tuple #[.slice ao (bytP C).length cap, .int .i64 0]) ∧ Own .u8 w' w.heap.size 5 (.slice ao (bytP C).length cap) (bytP C) ∧ Ext w w' := by
  have HV := hide h
  have HOK := hide hok
  obtain ⟨ao, cap, rfl, hn0, hlc, hcm, hat⟩ := h
  obtain ⟨i0, hi, hz0, hz1, hz2⟩ := info_parts info5
  have HM := hide HM
  have HB := hide (Blk.new w #[.int .i64 (C).stage, .slice ao C.ins.length cap, .int .i64 (C).regs, .int .i64 (C).attr, .int .i64 (C).unif, .int .i64 (C).vary] 26)
  have HX := hide ((Ext.refl w).alloc (.cells #[.int .i64 (C).stage, .slice ao C.ins.length cap, .int .i64 (C).regs, .int .i64 (C).attr, .int .i64 (C).unif, .int .i64 (C).vary] 26))
  unfold maxLen at hcm
  clear hat hn0 hok
  refine (callsIn_wide (n := 9)).1 ?_
  refine callsIn_of_wp_marks Try.func11 rfl trivial ?_ rfl
  simp only [Try.ntmps11, List.size_toArray, List.length_cons, List.length_nil, Nat.reduceAdd, Nat.reduceSub, Array.replicate_succ, Array.replicate_zero, List.push_toArray, List.append_toArray, List.nil_append, List.cons_append]
  refine wpIn_wide.2 ?_
  go_wp2_with (first
    | refine wpList_load_row rfl 26 (.tmp 1) rfl w.heap.size rfl 26 #[.int .i64 (C).stage, .slice ao C.ins.length cap, .int .i64 (C).regs, .int .i64 (C).attr, .int .i64 (C).unif, .int .i64 (C).vary] (0, 0) _ (unhide HB) Try.underlying26 rfl size6 ?_
    | (go_at_call 9999))
  refine (unhide HM _ (unhide HX)).mono ?_
  rintro e w2 ⟨rfl, hx2⟩
  have HB2 := hide ((unhide HB).ext hx2)
  have HX2 := hide ((unhide HX).trans hx2)
  obtain ⟨_, c1, _, _, _, _⟩ := cellC (unhide HB2)
  clear hx2 HX HB HM
  go_wp2_with (first | (at_make; refine wpList_make_Own _ rfl _ _ 22 rfl w2.heap.size 5 i0 (.int .u8 0) .u8 Try.underlying22 hi hz0 hz1 _ _ _ ((7 + 16 * C.ins.length) * 4) rfl rfl (by omega) ?b1 ?b2 ?b3 ?_))
  case b1 => rw [hz2]; omega
  case b2 => unfold maxLen; omega
  case b3 => exact Nat.le_refl _
  intro w3 hown hgrow
  have hx3 : Ext w2 w3 := grown_below hgrow (Nat.le_refl _) (fun k h => by cases h)
  have HO3 := hide (hown.low (b2 := w.heap.size) (unhide HX2).size)
  have HB3 := hide ((unhide HB2).ext hx3)
  have HX3 := hide ((unhide HX2).trans hx3)
  clear hown hgrow hx3 HB2 HX2 c1
  go_wp2_with (first
    | refine wpList_load_row rfl 26 (.tmp 1) rfl w.heap.size rfl 26 #[.int .i64 (C).stage, .slice ao C.ins.length cap, .int .i64 (C).regs, .int .i64 (C).attr, .int .i64 (C).unif, .int .i64 (C).vary] (0, 0) _ ((unhide HB3).alloc _) Try.underlying26 rfl size6 ?_
    | (go_at_call 30; refine (numbersOf_any C _ _).mono ?_; rintro e w1 ⟨rfl, rfl⟩))
  -- RANGE
  refine (wpIn_wide (n := 9)).1 ?_
  have h0 : EncI w w3.heap.size [] ((w3.alloc (.cells #[.slice (some ⟨w2.heap.size, 0, none⟩) 0 ((7 + 16 * C.ins.length) * 4)] 22)).alloc (.cells #[.int .i64 (C).stage, .slice ao C.ins.length cap, .int .i64 (C).regs, .int .i64 (C).attr, .int .i64 (C).unif, .int .i64 (C).vary] 26)) := ⟨some ⟨w2.heap.size, 0, none⟩, (7 + 16 * C.ins.length) * 4, (Blk.here rfl).alloc _, (unhide HO3).kept (((Ext.refl _).alloc _).alloc _), ((unhide HX3).alloc _).alloc _⟩
  have hC : Blk ((w3.alloc (.cells #[.slice (some ⟨w2.heap.size, 0, none⟩) 0 ((7 + 16 * C.ins.length) * 4)] 22)).alloc (.cells #[.int .i64 (C).stage, .slice ao C.ins.length cap, .int .i64 (C).regs, .int .i64 (C).attr, .int .i64 (C).unif, .int .i64 (C).vary] 26)) (w3.heap.size + 1) #[.int .i64 (C).stage, .slice ao C.ins.length cap, .int .i64 (C).regs, .int .i64 (C).attr, .int .i64 (C).unif, .int .i64 (C).vary] 26 := Blk.here (by simp)
  have hA : Agr w ((w3.alloc (.cells #[.slice (some ⟨w2.heap.size, 0, none⟩) 0 ((7 + 16 * C.ins.length) * 4)] 22)).alloc (.cells #[.int .i64 (C).stage, .slice ao C.ins.length cap, .int .i64 (C).regs, .int .i64 (C).attr, .int .i64 (C).unif, .int .i64 (C).vary] 26)) := fun i hi => (((unhide HX3).alloc _).alloc _).block i hi
  have hG : w.heap.size ≤ w3.heap.size := (unhide HX3).size
  clear HO3 HB3 HX3
  obtain ⟨W0, hW0⟩ : ∃ W0, ((w3.alloc (.cells #[.slice (some ⟨w2.heap.size, 0, none⟩) 0 ((7 + 16 * C.ins.length) * 4)] 22)).alloc (.cells #[.int .i64 (C).stage, .slice ao C.ins.length cap, .int .i64 (C).regs, .int .i64 (C).attr, .int .i64 (C).unif, .int .i64 (C).vary] 26)) = W0 := ⟨_, rfl⟩
  rw [hW0] at h0 hA hC ⊢
  clear hW0
  have hCl := hC.lt
  refine wpIn_rangeFunc_ownF (α := Nu) rfl (by omega) (gf := 46) (lb := #[.pointer (some ⟨w3.heap.size + 1, 0, none⟩)]) rfl trivial (enters_of Try.func46 (by kernel_rfl) rfl)
    (numIter (9 - 1) (by omega) C _ (w3.heap.size + 1) w W0 (unhide HV) (unhide HOK) hA hC) KeptN.trans (fun W l o o' hl _ _ _ => keptN_put (by omega) (by omega)) (Below.refl _ _) (fun _ => rfl)
    (fun pre W => EncI w w3.heap.size pre W ∧ Blk W (w3.heap.size + 1) #[.int .i64 (C).stage, .slice ao C.ins.length cap, .int .i64 (C).regs, .int .i64 (C).attr, .int .i64 (C).unif, .int .i64 (C).vary] 26)
    (fun _ _ _ => False)
    (fun pre A B' row hs hg hr => by
      obtain ⟨⟨ao1, cap1, h1, h2, h3⟩, h4⟩ := hs
      exact ⟨⟨ao1, cap1, blk_keptC h1 hg (fun r e => (hr r e).2), own_keptC h2 hg (fun r e => (hr r e).2), h3.grown hg h3.size (fun r e => by have := (hr r e).1; omega)⟩, blk_keptC h4 hg (fun r e => (hr r e).2)⟩)
    (fun _ _ _ _ _ hs _ _ => hs)
    ⟨h0, hC⟩
    (fun x => { tmps := #[.agg #[.int .i64 (C).stage, .slice ao C.ins.length cap, .int .i64 (C).regs, .int .i64 (C).attr, .int .i64 (C).unif, .int .i64 (C).vary], .pointer (some ⟨w.heap.size, 0, none⟩), .slice none 0 0, .int .i64 0, .pointer (some ⟨w3.heap.size, 0, none⟩), .int .u32 x.1, .agg #[.int .i64 (C).stage, .slice ao C.ins.length cap, .int .i64 (C).regs, .int .i64 (C).attr, .int .i64 (C).unif, .int .i64 (C).vary], .bool true, .bool false, .pointer (some ⟨w.heap.size, 1, none⟩), .slice ao C.ins.length cap, .int .i64 (C.ins.length : Int), .int .i64 (16 * (C.ins.length : Int)), .int .i64 (7 + 16 * (C.ins.length : Int)), .int .i64 ((7 + 16 * (C.ins.length : Int)) * 4), .slice (some ⟨w2.heap.size, 0, none⟩) 0 ((7 + 16 * C.ins.length) * 4), .agg #[.int .i64 (C).stage, .slice ao C.ins.length cap, .int .i64 (C).regs, .int .i64 (C).attr, .int .i64 (C).unif, .int .i64 (C).vary], .func (.func 46) #[] #[.pointer (some ⟨w3.heap.size + 1, 0, none⟩)], .int .u32 x.1, undef, undef, undef, undef, undef], defers := [] }) ?assign ?body ?done ?stop
  case assign =>
    intro l x W K hK
    gi_wp2
    simpa using hK
  case body =>
    rintro l pre x W ⟨⟨ao1, cap1, hb1, ho1, hx1⟩, hbc⟩ hlt
    have HBL : Hid ((bytL (valN pre)).length = 4 * pre.length) := by rw [Hid, bytL_len]; simp [valN]
    have HD := hide (And.intro hb1 (And.intro ho1 hx1))
    have HBC := hide hbc
    have c0 := hb1.cell (i := 0) rfl
    have HP : Hid (∀ wx, Calls Try.prog 31 #[.slice none 0 0, .int .u32 x.1] wx fun e w' => ∃ ao cap, e = .returned (.slice ao 4 cap) ∧ Row .u8 w' (.slice ao 4 cap) (low x.1 4) ∧ Ext wx w') := fun wx => by
      refine (put32_any (.slice none 0 0) [] x.1 wx (Row.nil _ _) (by simp) x.2.1 x.2.2).mono ?_
      rintro e w1 ⟨a1, b1, rfl, h1, h2⟩
      exact ⟨a1, b1, rfl, by simpa using h1.row, h2⟩
    have hBG : (w3.heap.size + 1 : Nat) ≠ w3.heap.size := by omega
    clear hb1 ho1 hx1 hbc
    obtain ⟨G, eG⟩ : ∃ G, w3.heap.size = G := ⟨_, rfl⟩
    obtain ⟨Bc, eBc⟩ : ∃ Bc, w3.heap.size + 1 = Bc := ⟨_, rfl⟩
    rw [eBc] at hBG HBC
    simp only [eBc]
    simp only [eG] at *
    gi_wp2
    refine wpIn_region_any (by kernel_rfl) ?_
    try (change wpAnyIn _ _ _ _ _ _ _ _ _ (World.drew _))
    refine wpAnyIn_ready (rs := [0, 1]) (by kernel_rfl) (by simp) (AllReadyIn.cons rfl (fun KK hK => ?_) (AllReadyIn.cons rfl (fun KK hK => ?_) AllReadyIn.nil))
    · go_simp
      refine hK _ _ ?_
      clear hK KK
      refine wpAnyIn_ready (rs := [1]) (by kernel_rfl) (by simp) (AllReadyIn.cons rfl (fun KK hK => ?_) AllReadyIn.nil)
      go_simp
      refine hK _ _ ?_
      clear hK KK
      refine wpAnyIn_ready (rs := [2]) (by kernel_rfl) (by simp) (AllReadyIn.cons rfl (fun KK hK => ?_) AllReadyIn.nil)
      go_simp
      refine ⟨trivial, (CallsIn.inRound l (callsIn_wide.2 (unhide HP _))).mono ?_⟩
      rintro e ws ⟨ao2, cap2, rfl, hrow2, hb2⟩
      have hxs : Ext W ws := ((Ext.refl W).drew).trans hb2
      have HBs := hide ((unhide HD).1.ext hxs)
      have HOs := hide ((unhide HD).2.1.kept hxs)
      have HXs := hide ((unhide HD).2.2.trans hxs)
      have HN := hide hrow2
      have HSX := hide hxs
      have c0 := (unhide HBs).cell (i := 0) rfl
      clear hrow2 hb2 hxs
      refine hK _ _ ?_
      clear hK KK
      refine wpAnyIn_ready (rs := [3]) (by kernel_rfl) (by simp) (AllReadyIn.cons rfl (fun KK hK => ?_) AllReadyIn.nil)
      rw [if_pos (by rfl)]
      obtain ⟨b2, off2, rfl, hc2⟩ := (unhide HN).at 0 (by rw [low_length]; omega)
      refine operIn_append_Own (.tmp 19) (.tmp 21) 22 rfl w.heap.size 5 i0 .u8 1 Try.underlying22 hi hz0 hz1 hz2 (.slice ao1 (bytL (valN pre)).length cap1) (bytL (valN pre)) rfl (unhide HOs) b2 off2 cap2 (low x.1 4) (by rw [low_length]; rfl) (fun j hj => by rw [hc2 j hj]; simp [hj]) (by rw [low_length, unhide HBL]; unfold maxLen; omega) (by rw [low_length, unhide HBL]; omega) (unhide HXs).size ?_
      intro v9 w9 ho9 hg9
      have hne := own_neB (unhide HOs) (unhide HBs) (by decide)
      have hB9 : Blk w9 G #[.slice ao1 (bytL (valN pre)).length cap1] 22 := (hg9.block G (unhide HBs).lt (fun e => hne e.symm)).trans (unhide HBs)
      have hX9 : Ext w w9 := (unhide HXs).grown hg9 (unhide HXs).size (fun j e => ((unhide HOs).lt j e).1)
      have HK0 : KeepsOthers W w9 := (KeepsOthers.of_grownBy (extG (unhide HSX) none) (fun j o e _ => by cases e)).trans (KeepsOthers.of_grownBy hg9 (own_cells (unhide HOs)))
      have HP0 : KeptN w Bc W w9 := ⟨((hg9.block Bc (Nat.lt_of_lt_of_le (unhide HBC).lt (unhide HSX).size) (fun e => own_neB (unhide HOs) ((unhide HBC).ext (unhide HSX)) (by decide) e.symm)).trans ((unhide HSX).block Bc (unhide HBC).lt)), fun j hj => (hg9.block j (Nat.lt_of_lt_of_le hj (unhide HXs).size) (fun e => by have := ((unhide HOs).lt j e.symm).1; omega)).trans ((unhide HSX).block j (Nat.lt_of_lt_of_le hj (unhide HD).2.2.size))⟩
      obtain ⟨ao9, cap9, rfl⟩ := ho9.shape
      have c9 := hB9.cell (i := 0) rfl
      have f9 := hB9.free 0
      have HK9 : KeepsOthers W (w9.setCell ⟨G, 0, none⟩ (.slice ao9 (bytL (valN pre) ++ low x.1 4).length cap9)) := HK0.trans (KeepsOthers.setCell _ _ _)
      have HP9 : KeptN w Bc W (w9.setCell ⟨G, 0, none⟩ (.slice ao9 (bytL (valN pre) ++ low x.1 4).length cap9)) := HP0.trans ⟨heap_setCell_other _ _ _ _ hBG, fun j hj => heap_setCell_other _ _ _ _ (by simp; omega)⟩
      have HI9 : EncI w G (pre ++ [x]) (w9.setCell ⟨G, 0, none⟩ (.slice ao9 (bytL (valN pre) ++ low x.1 4).length cap9)) := by
        rw [EncI, valN_snoc, bytL_snoc]
        exact ⟨ao9, cap9, hB9.set 0 _, ho9.kept9 (grownBy_set _ _ _ _) (own_neB ho9 hB9 (by decide)), extSet hX9 hG⟩
      rw [List.length_append] at HK9 HP9 HI9
      refine hK _ _ ?_
      clear hK KK
      refine wpAnyIn_ready (rs := [4]) (by kernel_rfl) (by simp) (AllReadyIn.cons rfl (fun KK hK => ?_) AllReadyIn.nil)
      go_simp
      refine hK _ _ ?_
      clear hK KK
      refine wpAnyIn_done (by kernel_rfl) ?_ _
      exact ⟨HK9, HP9, HI9, HP9.1.trans (unhide HBC)⟩
    · go_simp
      refine hK _ _ ?_
      clear hK KK
      refine wpAnyIn_ready (rs := [0, 2]) (by kernel_rfl) (by simp) (AllReadyIn.cons rfl (fun KK hK => ?_) (AllReadyIn.cons rfl (fun KK hK => ?_) AllReadyIn.nil))
      · go_simp
        refine hK _ _ ?_
        clear hK KK
        refine wpAnyIn_ready (rs := [2]) (by kernel_rfl) (by simp) (AllReadyIn.cons rfl (fun KK hK => ?_) AllReadyIn.nil)
        go_simp
        refine ⟨trivial, (CallsIn.inRound l (callsIn_wide.2 (unhide HP _))).mono ?_⟩
        rintro e ws ⟨ao2, cap2, rfl, hrow2, hb2⟩
        have hxs : Ext W ws := ((Ext.refl W).drew).trans hb2
        have HBs := hide ((unhide HD).1.ext hxs)
        have HOs := hide ((unhide HD).2.1.kept hxs)
        have HXs := hide ((unhide HD).2.2.trans hxs)
        have HN := hide hrow2
        have HSX := hide hxs
        have c0 := (unhide HBs).cell (i := 0) rfl
        clear hrow2 hb2 hxs
        refine hK _ _ ?_
        clear hK KK
        refine wpAnyIn_ready (rs := [3]) (by kernel_rfl) (by simp) (AllReadyIn.cons rfl (fun KK hK => ?_) AllReadyIn.nil)
        rw [if_pos (by rfl)]
        obtain ⟨b2, off2, rfl, hc2⟩ := (unhide HN).at 0 (by rw [low_length]; omega)
        refine operIn_append_Own (.tmp 19) (.tmp 21) 22 rfl w.heap.size 5 i0 .u8 1 Try.underlying22 hi hz0 hz1 hz2 (.slice ao1 (bytL (valN pre)).length cap1) (bytL (valN pre)) rfl (unhide HOs) b2 off2 cap2 (low x.1 4) (by rw [low_length]; rfl) (fun j hj => by rw [hc2 j hj]; simp [hj]) (by rw [low_length, unhide HBL]; unfold maxLen; omega) (by rw [low_length, unhide HBL]; omega) (unhide HXs).size ?_
        intro v9 w9 ho9 hg9
        have hne := own_neB (unhide HOs) (unhide HBs) (by decide)
        have hB9 : Blk w9 G #[.slice ao1 (bytL (valN pre)).length cap1] 22 := (hg9.block G (unhide HBs).lt (fun e => hne e.symm)).trans (unhide HBs)
        have hX9 : Ext w w9 := (unhide HXs).grown hg9 (unhide HXs).size (fun j e => ((unhide HOs).lt j e).1)
        have HK0 : KeepsOthers W w9 := (KeepsOthers.of_grownBy (extG (unhide HSX) none) (fun j o e _ => by cases e)).trans (KeepsOthers.of_grownBy hg9 (own_cells (unhide HOs)))
        have HP0 : KeptN w Bc W w9 := ⟨((hg9.block Bc (Nat.lt_of_lt_of_le (unhide HBC).lt (unhide HSX).size) (fun e => own_neB (unhide HOs) ((unhide HBC).ext (unhide HSX)) (by decide) e.symm)).trans ((unhide HSX).block Bc (unhide HBC).lt)), fun j hj => (hg9.block j (Nat.lt_of_lt_of_le hj (unhide HXs).size) (fun e => by have := ((unhide HOs).lt j e.symm).1; omega)).trans ((unhide HSX).block j (Nat.lt_of_lt_of_le hj (unhide HD).2.2.size))⟩
        obtain ⟨ao9, cap9, rfl⟩ := ho9.shape
        have c9 := hB9.cell (i := 0) rfl
        have f9 := hB9.free 0
        have HK9 : KeepsOthers W (w9.setCell ⟨G, 0, none⟩ (.slice ao9 (bytL (valN pre) ++ low x.1 4).length cap9)) := HK0.trans (KeepsOthers.setCell _ _ _)
        have HP9 : KeptN w Bc W (w9.setCell ⟨G, 0, none⟩ (.slice ao9 (bytL (valN pre) ++ low x.1 4).length cap9)) := HP0.trans ⟨heap_setCell_other _ _ _ _ hBG, fun j hj => heap_setCell_other _ _ _ _ (by simp; omega)⟩
        have HI9 : EncI w G (pre ++ [x]) (w9.setCell ⟨G, 0, none⟩ (.slice ao9 (bytL (valN pre) ++ low x.1 4).length cap9)) := by
          rw [EncI, valN_snoc, bytL_snoc]
          exact ⟨ao9, cap9, hB9.set 0 _, ho9.kept9 (grownBy_set _ _ _ _) (own_neB ho9 hB9 (by decide)), extSet hX9 hG⟩
        rw [List.length_append] at HK9 HP9 HI9
        refine hK _ _ ?_
        clear hK KK
        refine wpAnyIn_ready (rs := [4]) (by kernel_rfl) (by simp) (AllReadyIn.cons rfl (fun KK hK => ?_) AllReadyIn.nil)
        go_simp
        refine hK _ _ ?_
        clear hK KK
        refine wpAnyIn_done (by kernel_rfl) ?_ _
        exact ⟨HK9, HP9, HI9, HP9.1.trans (unhide HBC)⟩
      · go_simp
        refine ⟨trivial, (CallsIn.inRound l (callsIn_wide.2 (unhide HP _))).mono ?_⟩
        rintro e ws ⟨ao2, cap2, rfl, hrow2, hb2⟩
        have hxs : Ext W ws := ((Ext.refl W).drew).trans hb2
        have HBs := hide ((unhide HD).1.ext hxs)
        have HOs := hide ((unhide HD).2.1.kept hxs)
        have HXs := hide ((unhide HD).2.2.trans hxs)
        have HN := hide hrow2
        have HSX := hide hxs
        have c0 := (unhide HBs).cell (i := 0) rfl
        clear hrow2 hb2 hxs
        refine hK _ _ ?_
        clear hK KK
        refine wpAnyIn_ready (rs := [0]) (by kernel_rfl) (by simp) (AllReadyIn.cons rfl (fun KK hK => ?_) AllReadyIn.nil)
        go_simp
        refine hK _ _ ?_
        clear hK KK
        refine wpAnyIn_ready (rs := [3]) (by kernel_rfl) (by simp) (AllReadyIn.cons rfl (fun KK hK => ?_) AllReadyIn.nil)
        rw [if_pos (by rfl)]
        obtain ⟨b2, off2, rfl, hc2⟩ := (unhide HN).at 0 (by rw [low_length]; omega)
        refine operIn_append_Own (.tmp 19) (.tmp 21) 22 rfl w.heap.size 5 i0 .u8 1 Try.underlying22 hi hz0 hz1 hz2 (.slice ao1 (bytL (valN pre)).length cap1) (bytL (valN pre)) rfl (unhide HOs) b2 off2 cap2 (low x.1 4) (by rw [low_length]; rfl) (fun j hj => by rw [hc2 j hj]; simp [hj]) (by rw [low_length, unhide HBL]; unfold maxLen; omega) (by rw [low_length, unhide HBL]; omega) (unhide HXs).size ?_
        intro v9 w9 ho9 hg9
        have hne := own_neB (unhide HOs) (unhide HBs) (by decide)
        have hB9 : Blk w9 G #[.slice ao1 (bytL (valN pre)).length cap1] 22 := (hg9.block G (unhide HBs).lt (fun e => hne e.symm)).trans (unhide HBs)
        have hX9 : Ext w w9 := (unhide HXs).grown hg9 (unhide HXs).size (fun j e => ((unhide HOs).lt j e).1)
        have HK0 : KeepsOthers W w9 := (KeepsOthers.of_grownBy (extG (unhide HSX) none) (fun j o e _ => by cases e)).trans (KeepsOthers.of_grownBy hg9 (own_cells (unhide HOs)))
        have HP0 : KeptN w Bc W w9 := ⟨((hg9.block Bc (Nat.lt_of_lt_of_le (unhide HBC).lt (unhide HSX).size) (fun e => own_neB (unhide HOs) ((unhide HBC).ext (unhide HSX)) (by decide) e.symm)).trans ((unhide HSX).block Bc (unhide HBC).lt)), fun j hj => (hg9.block j (Nat.lt_of_lt_of_le hj (unhide HXs).size) (fun e => by have := ((unhide HOs).lt j e.symm).1; omega)).trans ((unhide HSX).block j (Nat.lt_of_lt_of_le hj (unhide HD).2.2.size))⟩
        obtain ⟨ao9, cap9, rfl⟩ := ho9.shape
        have c9 := hB9.cell (i := 0) rfl
        have f9 := hB9.free 0
        have HK9 : KeepsOthers W (w9.setCell ⟨G, 0, none⟩ (.slice ao9 (bytL (valN pre) ++ low x.1 4).length cap9)) := HK0.trans (KeepsOthers.setCell _ _ _)
        have HP9 : KeptN w Bc W (w9.setCell ⟨G, 0, none⟩ (.slice ao9 (bytL (valN pre) ++ low x.1 4).length cap9)) := HP0.trans ⟨heap_setCell_other _ _ _ _ hBG, fun j hj => heap_setCell_other _ _ _ _ (by simp; omega)⟩
        have HI9 : EncI w G (pre ++ [x]) (w9.setCell ⟨G, 0, none⟩ (.slice ao9 (bytL (valN pre) ++ low x.1 4).length cap9)) := by
          rw [EncI, valN_snoc, bytL_snoc]
          exact ⟨ao9, cap9, hB9.set 0 _, ho9.kept9 (grownBy_set _ _ _ _) (own_neB ho9 hB9 (by decide)), extSet hX9 hG⟩
        rw [List.length_append] at HK9 HP9 HI9
        refine hK _ _ ?_
        clear hK KK
        refine wpAnyIn_ready (rs := [4]) (by kernel_rfl) (by simp) (AllReadyIn.cons rfl (fun KK hK => ?_) AllReadyIn.nil)
        go_simp
        refine hK _ _ ?_
        clear hK KK
        refine wpAnyIn_done (by kernel_rfl) ?_ _
        exact ⟨HK9, HP9, HI9, HP9.1.trans (unhide HBC)⟩
  case done =>
    rintro D ys W hD hys ⟨⟨ao1, cap1, hb1, ho1, hx1⟩, hbc⟩ hK
    have c0 := hb1.cell (i := 0) rfl
    have HB2 := hide (And.intro ho1 hx1)
    have HK := hide hK
    have HY := hide hys
    clear hb1 ho1 hx1 hK hys hbc
    go_wp2
    refine ⟨by simp, .inl ⟨_, _, rfl, run_takeDeferred (unhide HK), ?_⟩⟩
    have e : bytL (valN ys) = bytP C := by rw [unhide HY]; rfl
    rw [e] at HB2 ⊢
    refine ⟨.tuple #[.slice ao1 (bytP C).length cap1, .int .i64 0], by simp [results, Try.results11, go_sem], ao1, cap1, rfl, ?_, (show Below w.heap.size w W from (unhide HB2).2).trans (belowK_b (w := w) (Nat.le_refl _) W D _ _ (by omega) (unhide HK) rfl rfl)⟩
    exact own_keptC (row := some D) (unhide HB2).1 ⟨rfl, rfl, rfl, by simp [World.putObj], fun i hi hne => World.putObj_heap_other (fun e => hne (by rw [e]))⟩ (fun r e => by cases e; exact ⟨_, unhide HK, rfl⟩)
  case stop =>
    rintro D c pre W _ _ h _
    exact h.elim
end Go.Proofs.Ytfoffnbkfnbglaa
