/-
  Images: the walk of Get: the bytes of a piece.
-/
import Derived.Test.YtpjapdifmfpcnaaJNa
namespace Go.Proofs.Ytpjapdifmfpcnaa
open Go.RowKit Go.Shelf
set_option linter.unusedVariables false
set_option linter.unusedSimpArgs false
attribute [local go_sem] Oper.semAt_some

/-- What a round of Get's range holds: the bytes that were got. -/
structure GtI (w4 W : World) (Bb : Nat) (G : List Int) : Prop where
  ext : Ext w4 W
  grp : ∃ ao cap, Blk W Bb #[.slice ao G.length cap] 27 ∧ Own .u8 W w4.heap.size 5 (.slice ao G.length cap) G
/-- The bytes of pixels. -/
def gbyt (s : Nat) (bs : List Int) {N : Nat} (pre : List (Plc N)) : List Int := (vals pre).flatMap (cellL s bs)
theorem gbyt_snoc (s : Nat) (bs : List Int) {N : Nat} (pre : List (Plc N)) (x : Plc N) : gbyt s bs (pre ++ [x]) = gbyt s bs pre ++ cellL s bs x.1 := by simp [gbyt, vals]
theorem getK_flat (s : Nat) (bs : List Int) (q : Nat → Nat) : ∀ n, getK s bs q n = ((List.range n).map q).flatMap (cellL s bs)
  | 0 => rfl
  | n + 1 => by rw [getK, getK_flat s bs q n, List.range_succ, List.map_append, List.flatMap_append]; simp
theorem gbyt_getK {s W X Y pw ph : Nat} {bs : List Int} {N : Nat} {ys : List (Plc N)} (h : vals ys = plcs W X Y pw ph) : gbyt s bs ys = getK s bs (pq W X Y pw) (pw * ph) := by
  unfold gbyt
  rw [h, getK_flat]
  rfl
theorem gbyt_len {s : Nat} {bs : List Int} {N : Nat} : ∀ (pre : List (Plc N)), (∀ x : Plc N, (x.1 + 1) * s ≤ bs.length) → (gbyt s bs pre).length = pre.length * s
  | [], _ => by simp [gbyt, vals]
  | x :: r, h => by
    have ih := gbyt_len r h
    have e : gbyt s bs (x :: r) = cellL s bs x.1 ++ gbyt s bs r := by simp [gbyt, vals]
    rw [e, List.length_append, ih, cellL_len (h x), List.length_cons, Nat.succ_mul, Nat.add_comm]

theorem ext_set1 {w w1 : World} {b : Nat} {x0 : Value} (h : Ext w w1) (hb : w.heap.size ≤ b) : Ext w (w1.setCell ⟨b, 0, none⟩ x0) := below_grown h (grownBy_set _ _ _ _) h.size hb
theorem Blk.put1 {w : World} {b : Nat} {o0 : Value} {t : TypeId} (h : Blk w b #[o0] t) (a0 : Value) : Blk (w.setCell ⟨b, 0, none⟩ a0) b #[a0] t := by
  have := h.set 0 a0
  simpa using this
/-- 'append' of a row to a row of the call's own. -/
theorem app_row {k : IntKind} {P : Program} {w : World} {base : Nat} {e t ty : TypeId} {i0 : TypeInfo} {bytes : Nat} (ht : P.underlying t = some (.slice e)) (hi : P.info? e = some i0) (hz : i0.zero = some (.int k 0)) (hs1 : i0.size = 1) (hby : i0.bytes = bytes) {v : Value} {G : List Int} (ho : Own k w base e v G)
    {b off cap : Nat} {ys : List Int} (hr : Row k w (.slice (some ⟨b, off, none⟩) ys.length cap) ys) (hy : 0 < ys.length) (hb : base ≤ w.heap.size) (h63 : G.length + ys.length ≤ maxLen) (hbb : (G.length + ys.length) * bytes ≤ 140737488355328) :
    ∃ ao cap' w', (Builtin.append_ #[t, t] ty #[v, .slice (some ⟨b, off, none⟩) ys.length cap]).run P w = .ok (.slice ao (G.length + ys.length) cap') w' ∧ Own k w' base e (.slice ao (G.length + ys.length) cap') (G ++ ys) ∧ w.grownBy w' v.ownBlock := by
  obtain ⟨b2, off2, e2, hc⟩ := hr.at 0 hy
  cases e2
  obtain ⟨v', w2, hrun, h1, h2, _⟩ := run_append_own_at (P := P) w base t ty e i0 (.int k 0) 1 bytes ht hi hz hs1 hby rfl (by decide) v G.length (G.map (Value.int k)) ho ⟨b, off, none⟩ ys.length cap (ys.map (Value.int k)) (by simp)
    (Row.news fun i hi => by rw [hc i hi]; simp [hi]) (ints_oneCell _ _) h63 hbb hb
  have h3 : Own k w2 base e v' (G ++ ys) := by
    unfold Own
    rw [List.length_append, List.map_append]
    exact h1
  obtain ⟨ao, cap', hv⟩ := h3.shape
  rw [List.length_append] at hv
  subst hv
  exact ⟨ao, cap', w2, hrun, h3, h2⟩

section
variable {w : World} {v : Value} {L : List Ent} {I : Img}
set_option maxRecDepth 100000 in
set_option maxHeartbeats 4000000 in
theorem get_good (h : LR w v L) (hL : L.length ≤ 1000) (hA : I.L = absL L) (k X Y pw ph s W H : Nat) (hk : k < L.length) (hs : sizI I.f = (s : Int)) (hs0 : s ≠ 0) (hW : L[k].1 = (W : Int)) (hH : L[k].2.1 = (H : Int)) (hW6 : W ≤ 64) (hH6 : H ≤ 64)
    (hx : X + pw ≤ W) (hy : Y + ph ≤ H) (hlen : L[k].2.2.2.length = W * H * s) (hE : pieceE I k X Y pw ph = 0) :
    Calls Try.prog 13 #[.agg #[.int .i64 I.f, v, .int .i64 I.ws, .int .i64 I.wt, .int .i64 I.mn, .int .i64 I.mg], .int .i64 (k : Int), .agg #[.int .i64 (X : Int), .int .i64 (Y : Int), .int .i64 (pw : Int), .int .i64 (ph : Int)]] w fun e w' => ∃ ao cap, e = .returned (.tuple #[.slice ao (pw * ph * s) cap, .int .i64 0]) ∧
      Own .u8 w' w.heap.size 5 (.slice ao (pw * ph * s) cap) (getK s L[k].2.2.2 (pq W X Y pw) (pw * ph)) ∧ Ext w w' := by
  obtain ⟨_, _, _, hs4⟩ := chs_sum hs hs0
  obtain ⟨ao, cap, rfl, hao, hlc, hcm, _⟩ := h.shape
  obtain ⟨b, off, bo, bcap, eao, eb, c0, c1, c2, hr⟩ := h.at k hk
  rw [hW] at c0
  rw [hH] at c1
  have HA := hide hA
  have HH := hide h
  have HE := hide hE
  have HR := hide hr
  have HLEN := hide hlen
  have HC := hide (And.intro c0 (And.intro c1 c2))
  have HSZ : Hid (∀ wx, Calls Try.prog 25 #[.int .i64 I.f] wx fun e w' => e = .returned (.int .i64 (s : Int)) ∧ Ext wx w') := fun wx => by rw [← hs]; exact size_any I.f wx
  have hX1 := ((Ext.refl w).alloc (.cells #[.int .i64 I.f, .slice ao L.length cap, .int .i64 I.ws, .int .i64 I.wt, .int .i64 I.mn, .int .i64 I.mg] 24)).alloc (.cells #[.int .i64 (X : Int), .int .i64 (Y : Int), .int .i64 (pw : Int), .int .i64 (ph : Int)] 26)
  have hB1 := (Blk.new w #[.int .i64 I.f, .slice ao L.length cap, .int .i64 I.ws, .int .i64 I.wt, .int .i64 I.mn, .int .i64 I.mg] 24).alloc (.cells #[.int .i64 (X : Int), .int .i64 (Y : Int), .int .i64 (pw : Int), .int .i64 (ph : Int)] 26)
  have hP1 : Blk ((w.alloc (.cells #[.int .i64 I.f, .slice ao L.length cap, .int .i64 I.ws, .int .i64 I.wt, .int .i64 I.mn, .int .i64 I.mg] 24)).alloc (.cells #[.int .i64 (X : Int), .int .i64 (Y : Int), .int .i64 (pw : Int), .int .i64 (ph : Int)] 26)) (w.heap.size + 1) #[.int .i64 (X : Int), .int .i64 (Y : Int), .int .i64 (pw : Int), .int .i64 (ph : Int)] 26 := Blk.at (by simp)
  have H1 := hide (And.intro hX1 (And.intro hB1 hP1))
  have hkn : (k : Int) < (L.length : Int) := by omega
  subst eao
  generalize L[k].2.2.2 = bs at *
  clear h hA hao hcm hX1 hB1 hP1 hE hr hlen hs c0 c1 c2 eb hW hH
  refine (callsIn_wide (n := 9)).1 ?_
  refine callsIn_of_wp_marks Try.func13 rfl trivial ?_ rfl
  simp only [Try.ntmps13, List.size_toArray, List.length_cons, List.length_nil, Nat.reduceAdd, Nat.reduceSub, Array.replicate_succ, Array.replicate_zero, List.push_toArray, List.append_toArray, List.nil_append, List.cons_append]
  refine wpIn_wide.2 ?_
  go_wp2_with fail
  refine (pieceRefusal_any (I := I) ((unhide HH).ext (unhide H1).1) hL (unhide HA) k X Y pw ph).mono ?_
  rintro e w2 ⟨rfl, hx2⟩
  rw [unhide HE]
  have H2 := hide (And.intro ((unhide H1).1.trans hx2) (And.intro ((unhide H1).2.1.ext hx2) ((unhide H1).2.2.ext hx2)))
  clear H1 hx2
  go_upto_region 4 with fail
  have HCL : Hid (∀ wx, Ext w2 wx → wx.cell? ⟨w.heap.size, 0, none⟩ = some (.int .i64 I.f) ∧ wx.cell? ⟨w.heap.size, 1, none⟩ = some (.slice (some ⟨b, off, none⟩) L.length cap) ∧ wx.cell? ⟨b, off + k * 3, none⟩ = some (.int .i64 (W : Int)) ∧ wx.cell? ⟨b, off + k * 3 + 1, none⟩ = some (.int .i64 (H : Int)) ∧ wx.cell? ⟨b, off + k * 3 + 2, none⟩ = some (.slice bo bs.length bcap)) := fun wx hx => by
    have hc : ∀ j u, w.cell? ⟨b, j, none⟩ = some u → wx.cell? ⟨b, j, none⟩ = some u := fun j u hu => by
      rw [((unhide H2).1.trans hx).cell (p := ⟨b, j, none⟩) (World.block_lt_of_cell? w _ hu)]
      exact hu
    exact ⟨((unhide H2).2.1.ext hx).six.1, ((unhide H2).2.1.ext hx).six.2.1, hc _ _ (unhide HC).1, hc _ _ (unhide HC).2.1, hc _ _ (unhide HC).2.2⟩
  go_cut [9, 10] from 11 to 47 (fun p q wc => ∃ Bl Bs, p = .pointer (some ⟨Bl, 0, none⟩) ∧ q = .pointer (some ⟨Bs, 0, none⟩) ∧ Blk wc Bl #[.int .i64 (W : Int), .int .i64 (H : Int), .slice bo bs.length bcap] 48 ∧ Blk wc Bs #[.int .i64 (s : Int)] 3 ∧ w2.heap.size ≤ Bl ∧ w2.heap.size ≤ Bs ∧ Ext w2 wc)
  case first =>
    refine wp_region_noPanic ?_
    refine wp_region_held_drew (S := fun wx => Ext w2 wx) (by kernel_rfl) (ext_0 w2) (fun HS => ?_)
    refine wpAnyH_take (i := 0) (oi := { dst := some 20, op := Op.fieldAddr 24 (Operand.tmp 3) 1, type := 0, pos := _, after := _, guard := none }) (v := .pointer (some ⟨w.heap.size, 1, none⟩)) rfl (by kernel_rfl) (by kernel_rfl) (by kernel_rfl) (fun _ _ _ h => h) (Or.inl ⟨by rfl, fun _ _ => rfl⟩) HS ?_
    simp only [Act.put, List.setIfInBounds_toArray, List.set_cons_zero, List.set_cons_succ]
    refine wpAnyH_take (i := 1) (oi := { dst := some 21, op := Op.load 22 (Operand.tmp 20), type := 22, pos := _, after := _, guard := none }) (v := .slice (some ⟨b, off, none⟩) L.length cap) rfl (by kernel_rfl) (by kernel_rfl) (by kernel_rfl) (fun _ _ _ h => h) (Or.inl ⟨by rfl, fun wx hx => by have hcl := unhide HCL wx hx; have h1 := hcl.2.1; clear hcl; go_simp⟩) HS ?_
    simp only [Act.put, List.setIfInBounds_toArray, List.set_cons_zero, List.set_cons_succ]
    refine wpAnyH_take (i := 2) (oi := { dst := some 22, op := Op.move (Operand.tmp 1), type := 3, pos := _, after := _, guard := none }) (v := .int .i64 (k : Int)) rfl (by kernel_rfl) (by kernel_rfl) (by kernel_rfl) (fun _ _ _ h => h) (Or.inl ⟨by rfl, fun _ _ => rfl⟩) HS ?_
    simp only [Act.put, List.setIfInBounds_toArray, List.set_cons_zero, List.set_cons_succ]
    refine wpAnyH_take (i := 3) (oi := { dst := some 23, op := Op.indexAddr 22 (Operand.tmp 21) (Operand.tmp 22), type := 0, pos := _, after := _, guard := none }) (v := .pointer (some ⟨b, off + k * 3, none⟩)) rfl (by kernel_rfl) (by kernel_rfl) (by kernel_rfl) (fun _ _ _ h => h) (Or.inl ⟨by rfl, fun wx hx => by go_simp⟩) HS ?_
    simp only [Act.put, List.setIfInBounds_toArray, List.set_cons_zero, List.set_cons_succ]
    refine wpAnyH_take (i := 4) (oi := { dst := some 24, op := Op.load 48 (Operand.tmp 23), type := 48, pos := _, after := _, guard := none }) (v := .agg #[.int .i64 (W : Int), .int .i64 (H : Int), .slice bo bs.length bcap]) rfl (by kernel_rfl) (by kernel_rfl) (by kernel_rfl) (fun _ _ _ h => h) (Or.inl ⟨by rfl, fun wx hx => by have hcl := unhide HCL wx hx; have h1 := hcl.2.2.1; have h2 := hcl.2.2.2.1; have h3 := hcl.2.2.2.2; clear hcl; go_simp⟩) HS ?_
    simp only [Act.put, List.setIfInBounds_toArray, List.set_cons_zero, List.set_cons_succ]
    refine wpAnyH_take (i := 5) (oi := { dst := some 25, op := Op.fieldAddr 24 (Operand.tmp 3) 0, type := 0, pos := _, after := _, guard := none }) (v := .pointer (some ⟨w.heap.size, 0, none⟩)) rfl (by kernel_rfl) (by kernel_rfl) (by kernel_rfl) (fun _ _ _ h => h) (Or.inl ⟨by rfl, fun _ _ => rfl⟩) HS ?_
    simp only [Act.put, List.setIfInBounds_toArray, List.set_cons_zero, List.set_cons_succ]
    refine wpAnyH_take (i := 6) (oi := { dst := some 26, op := Op.load 3 (Operand.tmp 25), type := 3, pos := _, after := _, guard := none }) (v := .int .i64 I.f) rfl (by kernel_rfl) (by kernel_rfl) (by kernel_rfl) (fun _ _ _ h => h) (Or.inl ⟨by rfl, fun wx hx => by have hcl := unhide HCL wx hx; have h1 := hcl.1; clear hcl; go_simp⟩) HS ?_
    simp only [Act.put, List.setIfInBounds_toArray, List.set_cons_zero, List.set_cons_succ]
    refine wpAnyH_ready (rs := [7, 8, 9]) (by kernel_rfl) (by simp) (AllReadyH.cons (o := { dst := some 27, op := Op.call { callee := Callee.value (Operand.func 25), args := #[Operand.tmp 26], argTypes := #[3] }, type := 3, pos := _, after := _, guard := none }) rfl (fun KK hK => ?_) (AllReadyH.cons (o := { dst := some 9, op := Op.alloc 48, type := 0, pos := _, after := _, guard := none }) rfl (fun KK hK => ?_) (AllReadyH.cons (o := { dst := some 10, op := Op.alloc 3, type := 0, pos := _, after := _, guard := none }) rfl (fun KK hK => ?_) AllReadyH.nil)))
    · go_simp
      refine (unhide HSZ _).mono ?_
      rintro e ws ⟨rfl, hxs⟩
      have HS2 := HS.trans hxs
      clear hxs HS
      have HS := HS2
      clear HS2
      refine hK.out _ _ HS (fun _ => ?_)
      clear hK KK
      try simp only [Act.put, List.setIfInBounds_toArray, List.set_cons_zero, List.set_cons_succ]
      refine wpAnyH_ready (rs := [8, 9]) (by kernel_rfl) (by simp) (AllReadyH.cons (o := { dst := some 9, op := Op.alloc 48, type := 0, pos := _, after := _, guard := none }) rfl (fun KK hK => ?_) (AllReadyH.cons (o := { dst := some 10, op := Op.alloc 3, type := 0, pos := _, after := _, guard := none }) rfl (fun KK hK => ?_) AllReadyH.nil))
      · refine Eq.mpr (if_pos (by rfl)) ?_
        go_simp
        refine hK.out _ (ws.alloc (.cells #[.int .i64 0, .int .i64 0, .slice none 0 0] 48)) (HS.alloc _) (fun _ => ?_)
        clear hK KK
        have RBl := hide (Blk.new ws #[.int .i64 0, .int .i64 0, .slice none 0 0] 48)
        have RLl := hide (Below.size HS)
        have HS2 := HS.alloc (.cells #[.int .i64 0, .int .i64 0, .slice none 0 0] 48)
        clear HS
        have HS := HS2
        clear HS2
        generalize ws.alloc (.cells #[.int .i64 0, .int .i64 0, .slice none 0 0] 48) = wa at HS RBl ⊢
        try simp only [Act.put, List.setIfInBounds_toArray, List.set_cons_zero, List.set_cons_succ]
        refine wpAnyH_ready (rs := [9]) (by kernel_rfl) (by simp) (AllReadyH.cons (o := { dst := some 10, op := Op.alloc 3, type := 0, pos := _, after := _, guard := none }) rfl (fun KK hK => ?_) AllReadyH.nil)
        refine Eq.mpr (if_pos (by rfl)) ?_
        go_simp
        refine hK.out _ (wa.alloc (.cells #[.int .i64 0] 3)) (HS.alloc _) (fun _ => ?_)
        clear hK KK
        have NE := hide (show _ ≠ _ from Nat.ne_of_lt (unhide RBl).lt)
        have RBl := hide ((unhide RBl).alloc (.cells #[.int .i64 0] 3))
        have RBs := hide (Blk.new wa #[.int .i64 0] 3)
        have RLs := hide (Below.size HS)
        have HS2 := HS.alloc (.cells #[.int .i64 0] 3)
        clear HS
        have HS := HS2
        clear HS2
        generalize wa.alloc (.cells #[.int .i64 0] 3) = wa at HS RBl RBs ⊢
        try simp only [Act.put, List.setIfInBounds_toArray, List.set_cons_zero, List.set_cons_succ]
        refine wpAnyH_ready (rs := [10]) (by kernel_rfl) (by simp) (AllReadyH.cons (o := { dst := none, op := Op.store 48 (Operand.tmp 9) (Operand.tmp 24), type := 0, pos := _, after := _, guard := none }) rfl (fun KK hK => ?_) AllReadyH.nil)
        refine Eq.mpr (if_pos (by rfl)) ?_
        have z0 := (unhide RBl).cell (i := 0) rfl
        have z1 := (unhide RBl).cell (i := 1) rfl
        have z2 := (unhide RBl).cell (i := 2) rfl
        have f0 := (unhide RBl).free 0
        have f1 := (unhide RBl).free 1
        have f2 := (unhide RBl).free 2
        have HS2 := ext_set3 (x0 := (.int .i64 (W : Int))) (x1 := (.int .i64 (H : Int))) (x2 := (.slice bo bs.length bcap)) HS (unhide RLl)
        have RB2 := hide ((unhide RBl).put3 (.int .i64 (W : Int)) (.int .i64 (H : Int)) (.slice bo bs.length bcap))
        have RB3 := hide ((unhide RBs).grown (grown_set3 wa _ (.int .i64 (W : Int)) (.int .i64 (H : Int)) (.slice bo bs.length bcap)) (Ne.symm (unhide NE)))
        go_simp
        refine hK.out _ _ HS2 (fun _ => ?_)
        clear hK KK z0 f0 z1 f1 z2 f2 RBl RBs HS
        have HS := HS2
        have RBl := RB2
        have RBs := RB3
        clear HS2 RB2 RB3
        generalize hw9 : World.setCell _ _ _ = w9 at HS RBl RBs ⊢
        clear hw9
        try simp only [Act.put, List.setIfInBounds_toArray, List.set_cons_zero, List.set_cons_succ]
        refine wpAnyH_ready (rs := [11]) (by kernel_rfl) (by simp) (AllReadyH.cons (o := { dst := none, op := Op.store 3 (Operand.tmp 10) (Operand.tmp 27), type := 0, pos := _, after := _, guard := none }) rfl (fun KK hK => ?_) AllReadyH.nil)
        refine Eq.mpr (if_pos (by rfl)) ?_
        have z0 := (unhide RBs).cell (i := 0) rfl
        have f0 := (unhide RBs).free 0
        have HS2 := ext_set1 (x0 := (.int .i64 (s : Int))) HS (unhide RLs)
        have RB2 := hide ((unhide RBs).put1 (.int .i64 (s : Int)))
        have RB3 := hide ((unhide RBl).grown (grownBy_set w9 _ 0 (.int .i64 (s : Int))) (unhide NE))
        go_simp
        refine hK.out _ _ HS2 (fun _ => ?_)
        clear hK KK z0 f0 RBs RBl HS
        have HS := HS2
        have RBs := RB2
        have RBl := RB3
        clear HS2 RB2 RB3
        try simp only [Act.put, List.setIfInBounds_toArray, List.set_cons_zero, List.set_cons_succ]
        refine wpAnyH_done (by kernel_rfl) ?_ _
        refine NoPanic.normal ?_
        go_wp2
        go_meet
        exact ⟨_, _, rfl, rfl, unhide RBl, unhide RBs, unhide RLl, unhide RLs, HS⟩
      · refine Eq.mpr (if_pos (by rfl)) ?_
        go_simp
        refine hK.out _ (ws.alloc (.cells #[.int .i64 0] 3)) (HS.alloc _) (fun _ => ?_)
        clear hK KK
        have RBs := hide (Blk.new ws #[.int .i64 0] 3)
        have RLs := hide (Below.size HS)
        have HS2 := HS.alloc (.cells #[.int .i64 0] 3)
        clear HS
        have HS := HS2
        clear HS2
        generalize ws.alloc (.cells #[.int .i64 0] 3) = wa at HS RBs ⊢
        try simp only [Act.put, List.setIfInBounds_toArray, List.set_cons_zero, List.set_cons_succ]
        refine wpAnyH_ready (rs := [8]) (by kernel_rfl) (by simp) (AllReadyH.cons (o := { dst := some 9, op := Op.alloc 48, type := 0, pos := _, after := _, guard := none }) rfl (fun KK hK => ?_) AllReadyH.nil)
        refine Eq.mpr (if_pos (by rfl)) ?_
        go_simp
        refine hK.out _ (wa.alloc (.cells #[.int .i64 0, .int .i64 0, .slice none 0 0] 48)) (HS.alloc _) (fun _ => ?_)
        clear hK KK
        have NE := hide (show _ ≠ _ from Nat.ne_of_lt (unhide RBs).lt)
        have RBs := hide ((unhide RBs).alloc (.cells #[.int .i64 0, .int .i64 0, .slice none 0 0] 48))
        have RBl := hide (Blk.new wa #[.int .i64 0, .int .i64 0, .slice none 0 0] 48)
        have RLl := hide (Below.size HS)
        have HS2 := HS.alloc (.cells #[.int .i64 0, .int .i64 0, .slice none 0 0] 48)
        clear HS
        have HS := HS2
        clear HS2
        generalize wa.alloc (.cells #[.int .i64 0, .int .i64 0, .slice none 0 0] 48) = wa at HS RBs RBl ⊢
        try simp only [Act.put, List.setIfInBounds_toArray, List.set_cons_zero, List.set_cons_succ]
        refine wpAnyH_ready (rs := [10]) (by kernel_rfl) (by simp) (AllReadyH.cons (o := { dst := none, op := Op.store 48 (Operand.tmp 9) (Operand.tmp 24), type := 0, pos := _, after := _, guard := none }) rfl (fun KK hK => ?_) AllReadyH.nil)
        refine Eq.mpr (if_pos (by rfl)) ?_
        have z0 := (unhide RBl).cell (i := 0) rfl
        have z1 := (unhide RBl).cell (i := 1) rfl
        have z2 := (unhide RBl).cell (i := 2) rfl
        have f0 := (unhide RBl).free 0
        have f1 := (unhide RBl).free 1
        have f2 := (unhide RBl).free 2
        have HS2 := ext_set3 (x0 := (.int .i64 (W : Int))) (x1 := (.int .i64 (H : Int))) (x2 := (.slice bo bs.length bcap)) HS (unhide RLl)
        have RB2 := hide ((unhide RBl).put3 (.int .i64 (W : Int)) (.int .i64 (H : Int)) (.slice bo bs.length bcap))
        have RB3 := hide ((unhide RBs).grown (grown_set3 wa _ (.int .i64 (W : Int)) (.int .i64 (H : Int)) (.slice bo bs.length bcap)) (unhide NE))
        go_simp
        refine hK.out _ _ HS2 (fun _ => ?_)
        clear hK KK z0 f0 z1 f1 z2 f2 RBl RBs HS
        have HS := HS2
        have RBl := RB2
        have RBs := RB3
        clear HS2 RB2 RB3
        generalize hw9 : World.setCell _ _ _ = w9 at HS RBl RBs ⊢
        clear hw9
        try simp only [Act.put, List.setIfInBounds_toArray, List.set_cons_zero, List.set_cons_succ]
        refine wpAnyH_ready (rs := [11]) (by kernel_rfl) (by simp) (AllReadyH.cons (o := { dst := none, op := Op.store 3 (Operand.tmp 10) (Operand.tmp 27), type := 0, pos := _, after := _, guard := none }) rfl (fun KK hK => ?_) AllReadyH.nil)
        refine Eq.mpr (if_pos (by rfl)) ?_
        have z0 := (unhide RBs).cell (i := 0) rfl
        have f0 := (unhide RBs).free 0
        have HS2 := ext_set1 (x0 := (.int .i64 (s : Int))) HS (unhide RLs)
        have RB2 := hide ((unhide RBs).put1 (.int .i64 (s : Int)))
        have RB3 := hide ((unhide RBl).grown (grownBy_set w9 _ 0 (.int .i64 (s : Int))) (Ne.symm (unhide NE)))
        go_simp
        refine hK.out _ _ HS2 (fun _ => ?_)
        clear hK KK z0 f0 RBs RBl HS
        have HS := HS2
        have RBs := RB2
        have RBl := RB3
        clear HS2 RB2 RB3
        try simp only [Act.put, List.setIfInBounds_toArray, List.set_cons_zero, List.set_cons_succ]
        refine wpAnyH_done (by kernel_rfl) ?_ _
        refine NoPanic.normal ?_
        go_wp2
        go_meet
        exact ⟨_, _, rfl, rfl, unhide RBl, unhide RBs, unhide RLl, unhide RLs, HS⟩
    · refine Eq.mpr (if_pos (by rfl)) ?_
      go_simp
      refine hK.out _ (w2.drew.alloc (.cells #[.int .i64 0, .int .i64 0, .slice none 0 0] 48)) (HS.alloc _) (fun _ => ?_)
      clear hK KK
      have RBl : Hid (Blk (w2.drew.alloc (.cells #[.int .i64 0, .int .i64 0, .slice none 0 0] 48)) w2.heap.size #[.int .i64 0, .int .i64 0, .slice none 0 0] 48) := hide (Blk.new w2.drew #[.int .i64 0, .int .i64 0, .slice none 0 0] 48)
      have RLl : Hid (w2.heap.size ≤ w2.heap.size) := hide (Nat.le_refl _)
      have HS2 := HS.alloc (.cells #[.int .i64 0, .int .i64 0, .slice none 0 0] 48)
      clear HS
      have HS := HS2
      clear HS2
      generalize w2.drew.alloc (.cells #[.int .i64 0, .int .i64 0, .slice none 0 0] 48) = wa at HS RBl ⊢
      try simp only [Act.put, List.setIfInBounds_toArray, List.set_cons_zero, List.set_cons_succ]
      refine wpAnyH_ready (rs := [7, 9]) (by kernel_rfl) (by simp) (AllReadyH.cons (o := { dst := some 27, op := Op.call { callee := Callee.value (Operand.func 25), args := #[Operand.tmp 26], argTypes := #[3] }, type := 3, pos := _, after := _, guard := none }) rfl (fun KK hK => ?_) (AllReadyH.cons (o := { dst := some 10, op := Op.alloc 3, type := 0, pos := _, after := _, guard := none }) rfl (fun KK hK => ?_) AllReadyH.nil))
      · go_simp
        refine (unhide HSZ _).mono ?_
        rintro e ws ⟨rfl, hxs⟩
        have RBl := hide ((unhide RBl).ext hxs)
        have HS2 := HS.trans hxs
        clear hxs HS
        have HS := HS2
        clear HS2
        refine hK.out _ _ HS (fun _ => ?_)
        clear hK KK
        try simp only [Act.put, List.setIfInBounds_toArray, List.set_cons_zero, List.set_cons_succ]
        refine wpAnyH_ready (rs := [9]) (by kernel_rfl) (by simp) (AllReadyH.cons (o := { dst := some 10, op := Op.alloc 3, type := 0, pos := _, after := _, guard := none }) rfl (fun KK hK => ?_) AllReadyH.nil)
        refine Eq.mpr (if_pos (by rfl)) ?_
        go_simp
        refine hK.out _ (ws.alloc (.cells #[.int .i64 0] 3)) (HS.alloc _) (fun _ => ?_)
        clear hK KK
        have NE := hide (show _ ≠ _ from Nat.ne_of_lt (unhide RBl).lt)
        have RBl := hide ((unhide RBl).alloc (.cells #[.int .i64 0] 3))
        have RBs := hide (Blk.new ws #[.int .i64 0] 3)
        have RLs := hide (Below.size HS)
        have HS2 := HS.alloc (.cells #[.int .i64 0] 3)
        clear HS
        have HS := HS2
        clear HS2
        generalize ws.alloc (.cells #[.int .i64 0] 3) = wa at HS RBl RBs ⊢
        try simp only [Act.put, List.setIfInBounds_toArray, List.set_cons_zero, List.set_cons_succ]
        refine wpAnyH_ready (rs := [10]) (by kernel_rfl) (by simp) (AllReadyH.cons (o := { dst := none, op := Op.store 48 (Operand.tmp 9) (Operand.tmp 24), type := 0, pos := _, after := _, guard := none }) rfl (fun KK hK => ?_) AllReadyH.nil)
        refine Eq.mpr (if_pos (by rfl)) ?_
        have z0 := (unhide RBl).cell (i := 0) rfl
        have z1 := (unhide RBl).cell (i := 1) rfl
        have z2 := (unhide RBl).cell (i := 2) rfl
        have f0 := (unhide RBl).free 0
        have f1 := (unhide RBl).free 1
        have f2 := (unhide RBl).free 2
        have HS2 := ext_set3 (x0 := (.int .i64 (W : Int))) (x1 := (.int .i64 (H : Int))) (x2 := (.slice bo bs.length bcap)) HS (unhide RLl)
        have RB2 := hide ((unhide RBl).put3 (.int .i64 (W : Int)) (.int .i64 (H : Int)) (.slice bo bs.length bcap))
        have RB3 := hide ((unhide RBs).grown (grown_set3 wa _ (.int .i64 (W : Int)) (.int .i64 (H : Int)) (.slice bo bs.length bcap)) (Ne.symm (unhide NE)))
        go_simp
        refine hK.out _ _ HS2 (fun _ => ?_)
        clear hK KK z0 f0 z1 f1 z2 f2 RBl RBs HS
        have HS := HS2
        have RBl := RB2
        have RBs := RB3
        clear HS2 RB2 RB3
        generalize hw9 : World.setCell _ _ _ = w9 at HS RBl RBs ⊢
        clear hw9
        try simp only [Act.put, List.setIfInBounds_toArray, List.set_cons_zero, List.set_cons_succ]
        refine wpAnyH_ready (rs := [11]) (by kernel_rfl) (by simp) (AllReadyH.cons (o := { dst := none, op := Op.store 3 (Operand.tmp 10) (Operand.tmp 27), type := 0, pos := _, after := _, guard := none }) rfl (fun KK hK => ?_) AllReadyH.nil)
        refine Eq.mpr (if_pos (by rfl)) ?_
        have z0 := (unhide RBs).cell (i := 0) rfl
        have f0 := (unhide RBs).free 0
        have HS2 := ext_set1 (x0 := (.int .i64 (s : Int))) HS (unhide RLs)
        have RB2 := hide ((unhide RBs).put1 (.int .i64 (s : Int)))
        have RB3 := hide ((unhide RBl).grown (grownBy_set w9 _ 0 (.int .i64 (s : Int))) (unhide NE))
        go_simp
        refine hK.out _ _ HS2 (fun _ => ?_)
        clear hK KK z0 f0 RBs RBl HS
        have HS := HS2
        have RBs := RB2
        have RBl := RB3
        clear HS2 RB2 RB3
        try simp only [Act.put, List.setIfInBounds_toArray, List.set_cons_zero, List.set_cons_succ]
        refine wpAnyH_done (by kernel_rfl) ?_ _
        refine NoPanic.normal ?_
        go_wp2
        go_meet
        exact ⟨_, _, rfl, rfl, unhide RBl, unhide RBs, unhide RLl, unhide RLs, HS⟩
      · refine Eq.mpr (if_pos (by rfl)) ?_
        go_simp
        refine hK.out _ (wa.alloc (.cells #[.int .i64 0] 3)) (HS.alloc _) (fun _ => ?_)
        clear hK KK
        have NE := hide (show _ ≠ _ from Nat.ne_of_lt (unhide RBl).lt)
        have RBl := hide ((unhide RBl).alloc (.cells #[.int .i64 0] 3))
        have RBs := hide (Blk.new wa #[.int .i64 0] 3)
        have RLs := hide (Below.size HS)
        have HS2 := HS.alloc (.cells #[.int .i64 0] 3)
        clear HS
        have HS := HS2
        clear HS2
        generalize wa.alloc (.cells #[.int .i64 0] 3) = wa at HS RBl RBs ⊢
        try simp only [Act.put, List.setIfInBounds_toArray, List.set_cons_zero, List.set_cons_succ]
        refine wpAnyH_ready (rs := [7]) (by kernel_rfl) (by simp) (AllReadyH.cons (o := { dst := some 27, op := Op.call { callee := Callee.value (Operand.func 25), args := #[Operand.tmp 26], argTypes := #[3] }, type := 3, pos := _, after := _, guard := none }) rfl (fun KK hK => ?_) AllReadyH.nil)
        go_simp
        refine (unhide HSZ _).mono ?_
        rintro e ws ⟨rfl, hxs⟩
        have RBl := hide ((unhide RBl).ext hxs)
        have RBs := hide ((unhide RBs).ext hxs)
        have HS2 := HS.trans hxs
        clear hxs HS
        have HS := HS2
        clear HS2
        refine hK.out _ _ HS (fun _ => ?_)
        clear hK KK
        try simp only [Act.put, List.setIfInBounds_toArray, List.set_cons_zero, List.set_cons_succ]
        refine wpAnyH_ready (rs := [10]) (by kernel_rfl) (by simp) (AllReadyH.cons (o := { dst := none, op := Op.store 48 (Operand.tmp 9) (Operand.tmp 24), type := 0, pos := _, after := _, guard := none }) rfl (fun KK hK => ?_) AllReadyH.nil)
        refine Eq.mpr (if_pos (by rfl)) ?_
        have z0 := (unhide RBl).cell (i := 0) rfl
        have z1 := (unhide RBl).cell (i := 1) rfl
        have z2 := (unhide RBl).cell (i := 2) rfl
        have f0 := (unhide RBl).free 0
        have f1 := (unhide RBl).free 1
        have f2 := (unhide RBl).free 2
        have HS2 := ext_set3 (x0 := (.int .i64 (W : Int))) (x1 := (.int .i64 (H : Int))) (x2 := (.slice bo bs.length bcap)) HS (unhide RLl)
        have RB2 := hide ((unhide RBl).put3 (.int .i64 (W : Int)) (.int .i64 (H : Int)) (.slice bo bs.length bcap))
        have RB3 := hide ((unhide RBs).grown (grown_set3 ws _ (.int .i64 (W : Int)) (.int .i64 (H : Int)) (.slice bo bs.length bcap)) (Ne.symm (unhide NE)))
        go_simp
        refine hK.out _ _ HS2 (fun _ => ?_)
        clear hK KK z0 f0 z1 f1 z2 f2 RBl RBs HS
        have HS := HS2
        have RBl := RB2
        have RBs := RB3
        clear HS2 RB2 RB3
        generalize hw9 : World.setCell _ _ _ = w9 at HS RBl RBs ⊢
        clear hw9
        try simp only [Act.put, List.setIfInBounds_toArray, List.set_cons_zero, List.set_cons_succ]
        refine wpAnyH_ready (rs := [11]) (by kernel_rfl) (by simp) (AllReadyH.cons (o := { dst := none, op := Op.store 3 (Operand.tmp 10) (Operand.tmp 27), type := 0, pos := _, after := _, guard := none }) rfl (fun KK hK => ?_) AllReadyH.nil)
        refine Eq.mpr (if_pos (by rfl)) ?_
        have z0 := (unhide RBs).cell (i := 0) rfl
        have f0 := (unhide RBs).free 0
        have HS2 := ext_set1 (x0 := (.int .i64 (s : Int))) HS (unhide RLs)
        have RB2 := hide ((unhide RBs).put1 (.int .i64 (s : Int)))
        have RB3 := hide ((unhide RBl).grown (grownBy_set w9 _ 0 (.int .i64 (s : Int))) (unhide NE))
        go_simp
        refine hK.out _ _ HS2 (fun _ => ?_)
        clear hK KK z0 f0 RBs RBl HS
        have HS := HS2
        have RBs := RB2
        have RBl := RB3
        clear HS2 RB2 RB3
        try simp only [Act.put, List.setIfInBounds_toArray, List.set_cons_zero, List.set_cons_succ]
        refine wpAnyH_done (by kernel_rfl) ?_ _
        refine NoPanic.normal ?_
        go_wp2
        go_meet
        exact ⟨_, _, rfl, rfl, unhide RBl, unhide RBs, unhide RLl, unhide RLs, HS⟩
    · refine Eq.mpr (if_pos (by rfl)) ?_
      go_simp
      refine hK.out _ (w2.drew.alloc (.cells #[.int .i64 0] 3)) (HS.alloc _) (fun _ => ?_)
      clear hK KK
      have RBs : Hid (Blk (w2.drew.alloc (.cells #[.int .i64 0] 3)) w2.heap.size #[.int .i64 0] 3) := hide (Blk.new w2.drew #[.int .i64 0] 3)
      have RLs : Hid (w2.heap.size ≤ w2.heap.size) := hide (Nat.le_refl _)
      have HS2 := HS.alloc (.cells #[.int .i64 0] 3)
      clear HS
      have HS := HS2
      clear HS2
      generalize w2.drew.alloc (.cells #[.int .i64 0] 3) = wa at HS RBs ⊢
      try simp only [Act.put, List.setIfInBounds_toArray, List.set_cons_zero, List.set_cons_succ]
      refine wpAnyH_ready (rs := [7, 8]) (by kernel_rfl) (by simp) (AllReadyH.cons (o := { dst := some 27, op := Op.call { callee := Callee.value (Operand.func 25), args := #[Operand.tmp 26], argTypes := #[3] }, type := 3, pos := _, after := _, guard := none }) rfl (fun KK hK => ?_) (AllReadyH.cons (o := { dst := some 9, op := Op.alloc 48, type := 0, pos := _, after := _, guard := none }) rfl (fun KK hK => ?_) AllReadyH.nil))
      · go_simp
        refine (unhide HSZ _).mono ?_
        rintro e ws ⟨rfl, hxs⟩
        have RBs := hide ((unhide RBs).ext hxs)
        have HS2 := HS.trans hxs
        clear hxs HS
        have HS := HS2
        clear HS2
        refine hK.out _ _ HS (fun _ => ?_)
        clear hK KK
        try simp only [Act.put, List.setIfInBounds_toArray, List.set_cons_zero, List.set_cons_succ]
        refine wpAnyH_ready (rs := [8]) (by kernel_rfl) (by simp) (AllReadyH.cons (o := { dst := some 9, op := Op.alloc 48, type := 0, pos := _, after := _, guard := none }) rfl (fun KK hK => ?_) AllReadyH.nil)
        refine Eq.mpr (if_pos (by rfl)) ?_
        go_simp
        refine hK.out _ (ws.alloc (.cells #[.int .i64 0, .int .i64 0, .slice none 0 0] 48)) (HS.alloc _) (fun _ => ?_)
        clear hK KK
        have NE := hide (show _ ≠ _ from Nat.ne_of_lt (unhide RBs).lt)
        have RBs := hide ((unhide RBs).alloc (.cells #[.int .i64 0, .int .i64 0, .slice none 0 0] 48))
        have RBl := hide (Blk.new ws #[.int .i64 0, .int .i64 0, .slice none 0 0] 48)
        have RLl := hide (Below.size HS)
        have HS2 := HS.alloc (.cells #[.int .i64 0, .int .i64 0, .slice none 0 0] 48)
        clear HS
        have HS := HS2
        clear HS2
        generalize ws.alloc (.cells #[.int .i64 0, .int .i64 0, .slice none 0 0] 48) = wa at HS RBs RBl ⊢
        try simp only [Act.put, List.setIfInBounds_toArray, List.set_cons_zero, List.set_cons_succ]
        refine wpAnyH_ready (rs := [10]) (by kernel_rfl) (by simp) (AllReadyH.cons (o := { dst := none, op := Op.store 48 (Operand.tmp 9) (Operand.tmp 24), type := 0, pos := _, after := _, guard := none }) rfl (fun KK hK => ?_) AllReadyH.nil)
        refine Eq.mpr (if_pos (by rfl)) ?_
        have z0 := (unhide RBl).cell (i := 0) rfl
        have z1 := (unhide RBl).cell (i := 1) rfl
        have z2 := (unhide RBl).cell (i := 2) rfl
        have f0 := (unhide RBl).free 0
        have f1 := (unhide RBl).free 1
        have f2 := (unhide RBl).free 2
        have HS2 := ext_set3 (x0 := (.int .i64 (W : Int))) (x1 := (.int .i64 (H : Int))) (x2 := (.slice bo bs.length bcap)) HS (unhide RLl)
        have RB2 := hide ((unhide RBl).put3 (.int .i64 (W : Int)) (.int .i64 (H : Int)) (.slice bo bs.length bcap))
        have RB3 := hide ((unhide RBs).grown (grown_set3 wa _ (.int .i64 (W : Int)) (.int .i64 (H : Int)) (.slice bo bs.length bcap)) (unhide NE))
        go_simp
        refine hK.out _ _ HS2 (fun _ => ?_)
        clear hK KK z0 f0 z1 f1 z2 f2 RBl RBs HS
        have HS := HS2
        have RBl := RB2
        have RBs := RB3
        clear HS2 RB2 RB3
        generalize hw9 : World.setCell _ _ _ = w9 at HS RBl RBs ⊢
        clear hw9
        try simp only [Act.put, List.setIfInBounds_toArray, List.set_cons_zero, List.set_cons_succ]
        refine wpAnyH_ready (rs := [11]) (by kernel_rfl) (by simp) (AllReadyH.cons (o := { dst := none, op := Op.store 3 (Operand.tmp 10) (Operand.tmp 27), type := 0, pos := _, after := _, guard := none }) rfl (fun KK hK => ?_) AllReadyH.nil)
        refine Eq.mpr (if_pos (by rfl)) ?_
        have z0 := (unhide RBs).cell (i := 0) rfl
        have f0 := (unhide RBs).free 0
        have HS2 := ext_set1 (x0 := (.int .i64 (s : Int))) HS (unhide RLs)
        have RB2 := hide ((unhide RBs).put1 (.int .i64 (s : Int)))
        have RB3 := hide ((unhide RBl).grown (grownBy_set w9 _ 0 (.int .i64 (s : Int))) (Ne.symm (unhide NE)))
        go_simp
        refine hK.out _ _ HS2 (fun _ => ?_)
        clear hK KK z0 f0 RBs RBl HS
        have HS := HS2
        have RBs := RB2
        have RBl := RB3
        clear HS2 RB2 RB3
        try simp only [Act.put, List.setIfInBounds_toArray, List.set_cons_zero, List.set_cons_succ]
        refine wpAnyH_done (by kernel_rfl) ?_ _
        refine NoPanic.normal ?_
        go_wp2
        go_meet
        exact ⟨_, _, rfl, rfl, unhide RBl, unhide RBs, unhide RLl, unhide RLs, HS⟩
      · refine Eq.mpr (if_pos (by rfl)) ?_
        go_simp
        refine hK.out _ (wa.alloc (.cells #[.int .i64 0, .int .i64 0, .slice none 0 0] 48)) (HS.alloc _) (fun _ => ?_)
        clear hK KK
        have NE := hide (show _ ≠ _ from Nat.ne_of_lt (unhide RBs).lt)
        have RBs := hide ((unhide RBs).alloc (.cells #[.int .i64 0, .int .i64 0, .slice none 0 0] 48))
        have RBl := hide (Blk.new wa #[.int .i64 0, .int .i64 0, .slice none 0 0] 48)
        have RLl := hide (Below.size HS)
        have HS2 := HS.alloc (.cells #[.int .i64 0, .int .i64 0, .slice none 0 0] 48)
        clear HS
        have HS := HS2
        clear HS2
        generalize wa.alloc (.cells #[.int .i64 0, .int .i64 0, .slice none 0 0] 48) = wa at HS RBs RBl ⊢
        try simp only [Act.put, List.setIfInBounds_toArray, List.set_cons_zero, List.set_cons_succ]
        refine wpAnyH_ready (rs := [7]) (by kernel_rfl) (by simp) (AllReadyH.cons (o := { dst := some 27, op := Op.call { callee := Callee.value (Operand.func 25), args := #[Operand.tmp 26], argTypes := #[3] }, type := 3, pos := _, after := _, guard := none }) rfl (fun KK hK => ?_) AllReadyH.nil)
        go_simp
        refine (unhide HSZ _).mono ?_
        rintro e ws ⟨rfl, hxs⟩
        have RBs := hide ((unhide RBs).ext hxs)
        have RBl := hide ((unhide RBl).ext hxs)
        have HS2 := HS.trans hxs
        clear hxs HS
        have HS := HS2
        clear HS2
        refine hK.out _ _ HS (fun _ => ?_)
        clear hK KK
        try simp only [Act.put, List.setIfInBounds_toArray, List.set_cons_zero, List.set_cons_succ]
        refine wpAnyH_ready (rs := [10]) (by kernel_rfl) (by simp) (AllReadyH.cons (o := { dst := none, op := Op.store 48 (Operand.tmp 9) (Operand.tmp 24), type := 0, pos := _, after := _, guard := none }) rfl (fun KK hK => ?_) AllReadyH.nil)
        refine Eq.mpr (if_pos (by rfl)) ?_
        have z0 := (unhide RBl).cell (i := 0) rfl
        have z1 := (unhide RBl).cell (i := 1) rfl
        have z2 := (unhide RBl).cell (i := 2) rfl
        have f0 := (unhide RBl).free 0
        have f1 := (unhide RBl).free 1
        have f2 := (unhide RBl).free 2
        have HS2 := ext_set3 (x0 := (.int .i64 (W : Int))) (x1 := (.int .i64 (H : Int))) (x2 := (.slice bo bs.length bcap)) HS (unhide RLl)
        have RB2 := hide ((unhide RBl).put3 (.int .i64 (W : Int)) (.int .i64 (H : Int)) (.slice bo bs.length bcap))
        have RB3 := hide ((unhide RBs).grown (grown_set3 ws _ (.int .i64 (W : Int)) (.int .i64 (H : Int)) (.slice bo bs.length bcap)) (unhide NE))
        go_simp
        refine hK.out _ _ HS2 (fun _ => ?_)
        clear hK KK z0 f0 z1 f1 z2 f2 RBl RBs HS
        have HS := HS2
        have RBl := RB2
        have RBs := RB3
        clear HS2 RB2 RB3
        generalize hw9 : World.setCell _ _ _ = w9 at HS RBl RBs ⊢
        clear hw9
        try simp only [Act.put, List.setIfInBounds_toArray, List.set_cons_zero, List.set_cons_succ]
        refine wpAnyH_ready (rs := [11]) (by kernel_rfl) (by simp) (AllReadyH.cons (o := { dst := none, op := Op.store 3 (Operand.tmp 10) (Operand.tmp 27), type := 0, pos := _, after := _, guard := none }) rfl (fun KK hK => ?_) AllReadyH.nil)
        refine Eq.mpr (if_pos (by rfl)) ?_
        have z0 := (unhide RBs).cell (i := 0) rfl
        have f0 := (unhide RBs).free 0
        have HS2 := ext_set1 (x0 := (.int .i64 (s : Int))) HS (unhide RLs)
        have RB2 := hide ((unhide RBs).put1 (.int .i64 (s : Int)))
        have RB3 := hide ((unhide RBl).grown (grownBy_set w9 _ 0 (.int .i64 (s : Int))) (Ne.symm (unhide NE)))
        go_simp
        refine hK.out _ _ HS2 (fun _ => ?_)
        clear hK KK z0 f0 RBs RBl HS
        have HS := HS2
        have RBs := RB2
        have RBl := RB3
        clear HS2 RB2 RB3
        try simp only [Act.put, List.setIfInBounds_toArray, List.set_cons_zero, List.set_cons_succ]
        refine wpAnyH_done (by kernel_rfl) ?_ _
        refine NoPanic.normal ?_
        go_wp2
        go_meet
        exact ⟨_, _, rfl, rfl, unhide RBl, unhide RBs, unhide RLl, unhide RLs, HS⟩
  case rest =>
  obtain ⟨Bl, Bs, rfl, rfl, hBl, hBs, hl2, hs2, hx3⟩ := hcut
  rename_i wc
  obtain ⟨i0, hi, hz0, hz1, hz2⟩ := info_parts info5
  have m1 : pw * ph ≤ 64 * 64 := Nat.mul_le_mul (by omega) (by omega)
  have m2 : pw * ph * s ≤ 4096 * 4 := Nat.mul_le_mul m1 hs4
  have e1 : (pw : Int) * (ph : Int) = ((pw * ph : Nat) : Int) := by simp
  have e2 : (pw : Int) * (ph : Int) * (s : Int) = ((pw * ph * s : Nat) : Int) := by simp
  have b1 : (pw : Int) * (ph : Int) ≤ 4096 := by omega
  have b0 : 0 ≤ (pw : Int) * (ph : Int) := by omega
  have b2 : (pw : Int) * (ph : Int) * (s : Int) ≤ 16384 := by omega
  have b3 : 0 ≤ (pw : Int) * (ph : Int) * (s : Int) := by omega
  have E2 := hide e2
  have H3 := hide (And.intro ((unhide H2).1.trans hx3) (And.intro ((unhide H2).2.2.ext hx3) (And.intro hBl hBs)))
  have hw2 := (unhide H2).2.2.lt
  have hPl := (unhide H3).2.1.lt
  have hLl := hBl.lt
  have hSl := hBs.lt
  obtain ⟨p0, p1, p2, p3⟩ := (unhide H3).2.1.four
  have z0 := hBs.cell (i := 0) rfl
  clear e1 e2 HCL H2 hBl hBs hx3
  go_wp2_with (first | (at_make; refine wpList_make_Own _ rfl _ _ 27 rfl wc.heap.size 5 i0 (.int .u8 0) .u8 Try.underlying27 hi hz0 hz1 _ _ _ (pw * ph * s) rfl rfl (unhide E2) ?b1 ?b2 ?b3 ?_))
  case b1 => rw [hz2]; omega
  case b2 => unfold maxLen; omega
  case b3 => exact Nat.le_refl _
  intro w4 hown hg
  have hx4 : Ext wc w4 := grown_below hg (Nat.le_refl _) (fun k h => by cases h)
  have hBB := Blk.new w4 #[.slice (some ⟨wc.heap.size, 0, none⟩) 0 (pw * ph * s)] 27
  have hx5 := hx4.alloc (.cells #[.slice (some ⟨wc.heap.size, 0, none⟩) 0 (pw * ph * s)] 27)
  have hG5 : GtI wc (w4.alloc (.cells #[.slice (some ⟨wc.heap.size, 0, none⟩) 0 (pw * ph * s)] 27)) w4.heap.size [] := ⟨hx5, _, _, hBB, hown.alloc _⟩
  have hw4 : wc.heap.size < w4.heap.size := (hown.lt _ rfl).2
  have H5 := hide (And.intro ((unhide H3).2.1.ext hx5) (And.intro ((unhide H3).2.2.1.ext hx5) (And.intro ((unhide H3).2.2.2.ext hx5) hG5)))
  clear hown hg hx4 hBB hx5 hG5 z0 p0 p1 p2 p3
  obtain ⟨l0, l1, l2⟩ := (unhide H5).2.1.three
  obtain ⟨p0, p1, p2, p3⟩ := (unhide H5).1.four
  go_wp2_with (first | (go_at_call 27; refine (places_any (W : Int) (H : Int) (X : Int) (Y : Int) (pw : Int) (ph : Int) bo bs.length bcap _).mono ?_; rintro e wp ⟨rfl, rfl⟩))
  clear l0 l1 l2 p0 p1 p2 p3
  obtain ⟨w5, hw5⟩ : ∃ w5, w5 = (w4.alloc (.cells #[.slice (some ⟨wc.heap.size, 0, none⟩) 0 (pw * ph * s)] 27)) := ⟨_, rfl⟩
  have hz5 : w4.heap.size + 1 = w5.heap.size := by rw [hw5]; simp
  rw [← hw5] at H5 ⊢
  clear hw5
  have hL0 : Blk ((w5.alloc (.cells #[.int .i64 (W : Int), .int .i64 (H : Int), .slice bo bs.length bcap] 48)).alloc (.cells #[.int .i64 (X : Int), .int .i64 (Y : Int), .int .i64 (pw : Int), .int .i64 (ph : Int)] 26)) w5.heap.size #[.int .i64 (W : Int), .int .i64 (H : Int), .slice bo bs.length bcap] 48 := (Blk.new _ _ _).alloc _
  have hP0 : Blk ((w5.alloc (.cells #[.int .i64 (W : Int), .int .i64 (H : Int), .slice bo bs.length bcap] 48)).alloc (.cells #[.int .i64 (X : Int), .int .i64 (Y : Int), .int .i64 (pw : Int), .int .i64 (ph : Int)] 26)) (w5.heap.size + 1) #[.int .i64 (X : Int), .int .i64 (Y : Int), .int .i64 (pw : Int), .int .i64 (ph : Int)] 26 := Blk.at (by simp)
  have hX0 := ((Ext.refl w5).alloc (.cells #[.int .i64 (W : Int), .int .i64 (H : Int), .slice bo bs.length bcap] 48)).alloc (.cells #[.int .i64 (X : Int), .int .i64 (Y : Int), .int .i64 (pw : Int), .int .i64 (ph : Int)] 26)
  generalize ((w5.alloc (.cells #[.int .i64 (W : Int), .int .i64 (H : Int), .slice bo bs.length bcap] 48)).alloc (.cells #[.int .i64 (X : Int), .int .i64 (Y : Int), .int .i64 (pw : Int), .int .i64 (ph : Int)] 26)) = W0 at hL0 hP0 hX0 ⊢
  rw [← hz5] at hL0 hP0
  have hz6 : w4.heap.size < w5.heap.size := by omega
  clear hz5
  have hL1 := hL0.lt
  have hP1 := hP0.lt
  have hG0 := (unhide H5).2.2.2
  obtain ⟨hg1, ao0, cap0, hg2, hg3⟩ := hG0
  have hG0 : GtI wc W0 w4.heap.size [] := ⟨hg1.trans hX0, ao0, cap0, hg2.ext hX0, hg3.kept hX0⟩
  have hB0 := (unhide H5).2.1.ext hX0
  have hS0 := (unhide H5).2.2.1.ext hX0
  clear hg1 hg2 hg3
  refine (wpIn_wide (n := 9)).1 ?_
  apply wpIn_rangeFunc_ownF (α := Plc (W * H)) rfl (by omega) (gf := 51) (lb := #[.pointer (some ⟨w4.heap.size + 1 + 1, 0, none⟩), .pointer (some ⟨w4.heap.size + 1, 0, none⟩)]) rfl trivial (enters_of Try.func51 (by kernel_rfl) rfl)
    (iter_stops (9 - 1) (by omega) W H X Y pw ph hW6 hH6 hx hy _ (w4.heap.size + 1 + 1) (w4.heap.size + 1) W0 hP0 hL0) Kept.trans (fun W l o o' hl _ _ _ => kept_put (by omega) (by omega)) (Below.refl _ _) (fun _ => rfl)
    (fun pre W' => GtI wc W' w4.heap.size (gbyt s bs pre) ∧ Blk W' (w4.heap.size + 1 + 1) #[.int .i64 (X : Int), .int .i64 (Y : Int), .int .i64 (pw : Int), .int .i64 (ph : Int)] 26 ∧ Blk W' (w4.heap.size + 1) #[.int .i64 (W : Int), .int .i64 (H : Int), .slice bo bs.length bcap] 48)
    (fun _ _ _ => False)
    (fun pre A B' row hs hg hr => ⟨⟨hs.1.ext.grown hg hs.1.ext.size (fun r e => by have := (hr r e).1; omega), by
      obtain ⟨ao, cap, h1, h2⟩ := hs.1.grp
      exact ⟨ao, cap, blk_kept h1 hg (fun r e => (hr r e).2), own_kept h2 hg (fun r e => (hr r e).2)⟩⟩, blk_kept hs.2.1 hg (fun r e => (hr r e).2), blk_kept hs.2.2 hg (fun r e => (hr r e).2)⟩)
    (fun _ _ _ _ _ hs _ _ => hs)
    ⟨hG0, hP0, hL0⟩
  case hassign =>
    intro l x Wq K hK
    have HK := hide hK
    clear hK
    gi_wp2
    exact unhide HK
  case hbody =>
    rintro l pre x Wq hR hlt5
    obtain ⟨⟨hNx, ao, cap, hBg, hGo⟩, hPi, hLi⟩ := hR
    have hq := x.2
    have hqs : (x.1 + 1) * s ≤ bs.length := by
      rw [unhide HLEN]
      exact Nat.mul_le_mul_right _ hq
    have hal : ∀ y : Plc (W * H), (y.1 + 1) * s ≤ bs.length := fun y => by
      rw [unhide HLEN]
      exact Nat.mul_le_mul_right _ y.2
    have hgl := gbyt_len pre hal
    have hpos : 0 < bs.length := by
      have h1 : 1 * 1 ≤ (x.1 + 1) * s := Nat.mul_le_mul (by omega) (by omega)
      omega
    obtain ⟨_, _, eb9, _, hbc, hbm⟩ := (unhide HR).shape
    cases eb9
    have hbm2 : bcap ≤ 9223372036854775807 := by unfold maxLen at hbm; omega
    obtain ⟨b0, off0, hbo, _⟩ := (unhide HR).at 0 hpos
    have HBO := hide hbo
    clear hbo
    have hLev := (unhide H3).2.2.1.ext hNx
    have hSz := (unhide H3).2.2.2.ext hNx
    have hSrc := (unhide HR).ext ((unhide H3).1.trans hNx)
    have HCell : Hid (∀ wx, Calls Try.prog 28 #[.slice bo bs.length bcap, .int .i64 (x.1 : Int), .int .i64 (s : Int)] wx fun e w' => e = .returned (.slice (some ⟨b0, off0 + x.1 * s, none⟩) s (bcap - x.1 * s)) ∧ w' = wx) := fun wx => by
      rw [unhide HBO]
      exact cell_any b0 off0 bs.length bcap x.1 s wx (by omega) hs4 hqs hbc hbm2
    have hcl := cellL_len (s := s) (q := x.1) (xs := bs) hqs
    have hRw : Row .u8 Wq.drew (.slice (some ⟨b0, off0 + x.1 * s, none⟩) (cellL s bs x.1).length (bcap - x.1 * s)) (cellL s bs x.1) := by
      have hs2 := hSrc
      rw [unhide HBO] at hs2
      obtain ⟨b9, o9, e9, hp9⟩ := hs2.part (x.1 * s) s (by omega) (by rw [Nat.succ_mul] at hqs; exact hqs)
      cases e9
      rw [hcl]
      exact hp9.ext (ext_0 Wq)
    have hszq := hNx.size
    have hpl : pre.length * s ≤ pw * ph * s := Nat.mul_le_mul_right _ (by omega)
    obtain ⟨ao8, cap8, w8, hrun8, ho8, hg8⟩ := app_row (P := Try.prog) (t := 27) (ty := 27) Try.underlying27 hi hz0 hz1 hz2 (w := Wq.drew) (hGo.kept (ext_0 Wq)) hRw (by omega) (by exact hszq) (by unfold maxLen; omega) (by omega)
    rw [hcl] at hrun8 ho8
    have HRUN := hide hrun8
    clear hgl hpl
    have hx7 : Ext Wq Wq.drew := ext_0 Wq
    have hGo7 := hGo.kept hx7
    have hne8 : ∀ {b : Nat} {cs : Array Value} {t : TypeId}, Blk Wq b cs t → t ≠ 5 → Blk w8 b cs t := fun {b cs t} hB ht => blk_by2 (hB.ext hx7) hGo7 ht hg8
    have hBg8 := hne8 hBg (by decide)
    have cg : Wq.drew.cell? ⟨w4.heap.size, 0, none⟩ = some (.slice ao (gbyt s bs pre).length cap) := hBg.cell (i := 0) rfl
    have cg8 := hBg8.cell (i := 0) rfl
    have fg8 := hBg8.free 0
    have hg9 := grownBy_set w8 w4.heap.size 0 (.slice ao8 ((gbyt s bs pre).length + s) cap8)
    have hS0 : Wq.drew.cell? ⟨Bl, 2, none⟩ = some (.slice bo bs.length bcap) ∧ Wq.drew.cell? ⟨Bs, 0, none⟩ = some (.int .i64 (s : Int)) := ⟨hLev.three.2.2, hSz.cell (i := 0) rfl⟩
    have hLev8 := hne8 hLev (by decide)
    have hSz8 := hne8 hSz (by decide)
    have hS8 := hide (And.intro hLev8.three.2.2 (hSz8.cell (i := 0) rfl))
    have hS9 := hide (And.intro (hLev8.other (r := w4.heap.size) 0 (.slice ao8 ((gbyt s bs pre).length + s) cap8) (by omega)).three.2.2 ((hSz8.other (r := w4.heap.size) 0 (.slice ao8 ((gbyt s bs pre).length + s) cap8) (by omega)).cell (i := 0) rfl))
    have HFIN : Hid (KeepsOthers Wq (w8.setCell ⟨w4.heap.size, 0, none⟩ (.slice ao8 ((gbyt s bs pre).length + s) cap8)) ∧ Kept (w4.heap.size + 1 + 1) (w4.heap.size + 1) Wq (w8.setCell ⟨w4.heap.size, 0, none⟩ (.slice ao8 ((gbyt s bs pre).length + s) cap8)) ∧ GtI wc (w8.setCell ⟨w4.heap.size, 0, none⟩ (.slice ao8 ((gbyt s bs pre).length + s) cap8)) w4.heap.size (gbyt s bs (pre ++ [x])) ∧ Blk (w8.setCell ⟨w4.heap.size, 0, none⟩ (.slice ao8 ((gbyt s bs pre).length + s) cap8)) (w4.heap.size + 1 + 1) #[.int .i64 (X : Int), .int .i64 (Y : Int), .int .i64 (pw : Int), .int .i64 (ph : Int)] 26 ∧ Blk (w8.setCell ⟨w4.heap.size, 0, none⟩ (.slice ao8 ((gbyt s bs pre).length + s) cap8)) (w4.heap.size + 1) #[.int .i64 (W : Int), .int .i64 (H : Int), .slice bo bs.length bcap] 48) := by
      have hk8 : KeepsOthers Wq w8 := (keeps_ext hx7).trans (keeps_own hGo7 hg8)
      have hk9 : KeepsOthers Wq (w8.setCell ⟨w4.heap.size, 0, none⟩ (.slice ao8 ((gbyt s bs pre).length + s) cap8)) := hk8.trans (KeepsOthers.setCell _ _ _)
      have hPi9 := (hne8 hPi (by decide)).other (r := w4.heap.size) 0 (.slice ao8 ((gbyt s bs pre).length + s) cap8) (by omega)
      have hLi9 := (hne8 hLi (by decide)).other (r := w4.heap.size) 0 (.slice ao8 ((gbyt s bs pre).length + s) cap8) (by omega)
      refine ⟨hk9, ⟨(show _ from hPi9).trans (show _ from hPi).symm, (show _ from hLi9).trans (show _ from hLi).symm⟩, ⟨?_, ao8, cap8, ?_, ?_⟩, hPi9, hLi9⟩
      · have h8 : Ext wc w8 := (hNx.trans hx7).grown hg8 (hNx.trans hx7).size (fun r e => (hGo7.lt r e).1)
        exact below_grown h8 hg9 h8.size (by omega)
      · rw [gbyt_snoc, List.length_append, hcl]
        have := hBg8.set 0 (.slice ao8 ((gbyt s bs pre).length + s) cap8)
        simpa using this
      · rw [gbyt_snoc, List.length_append, hcl]
        exact ho8.grown hg9 (fun b hb => own_neT ho8 hBg8 (by decide) b hb)
    generalize (gbyt s bs pre).length = gn at *
    gi_wp2
    refine region_in (S := fun w' => w'.cell? ⟨Bl, 2, none⟩ = some (.slice bo bs.length bcap) ∧ w'.cell? ⟨Bs, 0, none⟩ = some (.int .i64 (s : Int))) (by kernel_rfl) (by kernel_rfl) (by rintro ⟨_, _, h⟩; exact h) hS0 (fun hHeld => ?_)
    refine wpAnyH_take (i := 1) (v := .pointer (some ⟨Bl, 2, none⟩)) rfl (by kernel_rfl) (by kernel_rfl) (by kernel_rfl) (fun _ _ _ h => h) (Or.inl ⟨by rfl, fun _ _ => rfl⟩) hHeld ?_
    refine wpAnyH_take (i := 2) (v := .slice bo bs.length bcap) rfl (by kernel_rfl) (by kernel_rfl) (by kernel_rfl) (fun _ _ _ h => h) (Or.inl ⟨by rfl, fun w9 h9 => by (have h91 := h9.1; go_simp)⟩) hHeld ?_
    refine wpAnyH_take (i := 3) (v := .int .i64 (x.1 : Int)) rfl (by kernel_rfl) (by kernel_rfl) (by kernel_rfl) (fun _ _ _ h => h) (Or.inl ⟨by rfl, fun _ _ => rfl⟩) hHeld ?_
    refine wpAnyH_take (i := 4) (v := .int .i64 (s : Int)) rfl (by kernel_rfl) (by kernel_rfl) (by kernel_rfl) (fun _ _ _ h => h) (Or.inl ⟨by rfl, fun w9 h9 => by (have h91 := h9.2; go_simp)⟩) hHeld ?_
    refine wpAnyH_ready (rs := [0, 5]) (by kernel_rfl) (by simp) (AllReadyH.cons rfl (fun K hK => ?_) (AllReadyH.cons rfl (fun K hK => ?_) AllReadyH.nil))
    · go_simp
      refine hK.out _ _ hHeld (fun _ => ?_)
      clear hK K
      refine wpAnyH_ready (rs := [5]) (by kernel_rfl) (by simp) (AllReadyH.cons rfl (fun K hK => ?_) AllReadyH.nil)
      go_simp
      refine (unhide HCell _).mono ?_
      rintro e w5 ⟨rfl, rfl⟩
      refine hK.out _ _ hHeld (fun _ => ?_)
      clear hK K
      refine wpAnyH_ready (rs := [6]) (by kernel_rfl) (by simp) (AllReadyH.cons rfl (fun K hK => ?_) AllReadyH.nil)
      refine step_run (by rfl) (.tmp 40) (.tmp 45) 27 (by rfl) (by rfl) (by rfl) (unhide HRUN) ?_
      refine hK.out _ _ (unhide hS8) (fun _ => ?_)
      clear hK K
      refine wpAnyH_ready (rs := [7]) (by kernel_rfl) (by simp) (AllReadyH.cons rfl (fun K hK => ?_) AllReadyH.nil)
      go_simp
      refine hK.out _ _ (unhide hS9) (fun _ => ?_)
      clear hK K
      exact wpAnyH_done (by kernel_rfl) (unhide HFIN) _
    · go_simp
      refine (unhide HCell _).mono ?_
      rintro e w5 ⟨rfl, rfl⟩
      refine hK.out _ _ hHeld (fun _ => ?_)
      clear hK K
      refine wpAnyH_ready (rs := [0]) (by kernel_rfl) (by simp) (AllReadyH.cons rfl (fun K hK => ?_) AllReadyH.nil)
      go_simp
      refine hK.out _ _ hHeld (fun _ => ?_)
      clear hK K
      refine wpAnyH_ready (rs := [6]) (by kernel_rfl) (by simp) (AllReadyH.cons rfl (fun K hK => ?_) AllReadyH.nil)
      refine step_run (by rfl) (.tmp 40) (.tmp 45) 27 (by rfl) (by rfl) (by rfl) (unhide HRUN) ?_
      refine hK.out _ _ (unhide hS8) (fun _ => ?_)
      clear hK K
      refine wpAnyH_ready (rs := [7]) (by kernel_rfl) (by simp) (AllReadyH.cons rfl (fun K hK => ?_) AllReadyH.nil)
      go_simp
      refine hK.out _ _ (unhide hS9) (fun _ => ?_)
      clear hK K
      exact wpAnyH_done (by kernel_rfl) (unhide HFIN) _
  case hdone =>
    rintro D ys Wd hD hys hI9 hK
    obtain ⟨⟨hNx, ao, cap, hBg, hGo⟩, hPi, hLi⟩ := hI9
    have hgg := gbyt_getK (s := s) (bs := bs) hys
    have hgl : (gbyt s bs ys).length = pw * ph * s := by
      rw [gbyt_len ys (fun y => by rw [unhide HLEN]; exact Nat.mul_le_mul_right _ y.2)]
      congr 1
      have h1 := congrArg List.length hys
      rw [plcs_len] at h1
      simpa [vals] using h1
    rw [hgl] at hBg hGo
    rw [hgg] at hGo
    have cg := hBg.cell (i := 0) rfl
    have HX9 := hide (And.intro hNx (And.intro hGo hK))
    clear hgg hgl hys hPi hLi hBg hGo hNx hK
    go_wp2
    have hX9 := (unhide H3).1.trans (unhide HX9).1
    refine leaves_marks (b0 := wc.heap.size) [D] _ (unhide HX9).1.size (by simp) (fun D' hD' => ?_) (fun W' hW' hck => ?_)
    · rw [List.mem_singleton] at hD'
      subst hD'
      exact ⟨by omega, (unhide HX9).2.2⟩
    · have ho10 := (hck.own (unhide HX9).2.1).lower (b2 := w.heap.size) (unhide H3).1.size
      refine ⟨.tuple #[.slice ao (pw * ph * s) cap, .int .i64 0], ?_, ao, cap, rfl, ho10, Below.trans hX9 (hW'.mono (unhide H3).1.size)⟩
      simp [results, Try.f13, go_sem]
  case hstop =>
    rintro D c pre Wq _ _ h _
    exact h.elim
end
end Go.Proofs.Ytpjapdifmfpcnaa
