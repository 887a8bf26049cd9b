/-
  Proved: ImagePuts answers true for every image and level that is put and turns nothing that was there.
-/
import Derived.Test.YtepieneefjhbkaaRK
import Derived.Test.YtepieneefjhbkaaRS
namespace Go.Proofs.Ytepieneefjhbkaa
open Go.ChangeShapes Go.WideShapes Go.ChangeAt Go.RowKit
set_option linter.unusedVariables false
set_option linter.unusedSimpArgs false

theorem byt_ofP {D : List Ent} {A : List Lev} (h : absL D = A) (hb : ∀ p ∈ A, Byt p.2.2) : ∀ p ∈ D, Byt p.2.2.2 := fun p hp => by
  have := hb (absE p) (by rw [← h]; exact abs_mem hp)
  exact this

set_option maxRecDepth 10000 in
set_option maxHeartbeats 1000000 in
theorem puts_walk {W : World} {I : Img} {v : Value} {L : List Ent} (hI : ImgIn W I v L) (lv f WW HH : Int) (u : Value) (bs0 : List Int) (hq : Row .u8 W u bs0) (hqb : Byt bs0) (hql : bs0.length ≤ 140737488351232) :
    Calls Try.prog 3 #[.agg #[.int .i64 I.f, v, .int .i64 I.ws, .int .i64 I.wt, .int .i64 I.mn, .int .i64 I.mg], .agg #[.int .i64 lv, .int .i64 f, .int .i64 WW, .int .i64 HH, u]] W fun e w' => e = .returned (.bool true) ∧ Ext W w' := by
  obtain ⟨ao, cap, rfl, _⟩ := hI.lr.shape
  obtain ⟨bo, bcap, rfl, hbo, hbc, hbm⟩ := hq.shape
  have hbc2 : bcap ≤ 9223372036854775807 := by unfold maxLen at hbm; omega
  have hX0 := ((Ext.refl W).alloc (.cells #[.int .i64 I.f, .slice ao L.length cap, .int .i64 I.ws, .int .i64 I.wt, .int .i64 I.mn, .int .i64 I.mg] 24)).alloc (.cells #[.int .i64 lv, .int .i64 f, .int .i64 WW, .int .i64 HH, .slice bo bs0.length bcap] 29)
  have hB0 := (Blk.new W #[.int .i64 I.f, .slice ao L.length cap, .int .i64 I.ws, .int .i64 I.wt, .int .i64 I.mn, .int .i64 I.mg] 24).alloc (.cells #[.int .i64 lv, .int .i64 f, .int .i64 WW, .int .i64 HH, .slice bo bs0.length bcap] 29)
  have hP0 : Blk ((W.alloc (.cells #[.int .i64 I.f, .slice ao L.length cap, .int .i64 I.ws, .int .i64 I.wt, .int .i64 I.mn, .int .i64 I.mg] 24)).alloc (.cells #[.int .i64 lv, .int .i64 f, .int .i64 WW, .int .i64 HH, .slice bo bs0.length bcap] 29)) (W.heap.size + 1) #[.int .i64 lv, .int .i64 f, .int .i64 WW, .int .i64 HH, .slice bo bs0.length bcap] 29 := Blk.at (by simp)
  have H0 := hide (And.intro hX0 (And.intro hB0 hP0))
  have HI := hide hI
  have HQ := hide hq
  have HQB := hide hqb
  obtain ⟨m, hm⟩ : ∃ m : Nat, m = min bs0.length 20000 := ⟨_, rfl⟩
  have HM : Hid ((if (20000 : Int) < (bs0.length : Int) then (20000 : Int) else (bs0.length : Int)) = (m : Int)) := by
    show _ = _
    split <;> omega
  have hmL : m ≤ bs0.length := by omega
  have hm9 : m ≤ 20000 := by omega
  clear hI hX0 hB0 hP0 hq hqb hbo hbm hm
  go_enter Try.func3, Try.ntmps3
  go_wp2_with fail
  generalize (W.alloc (.cells #[.int .i64 I.f, .slice ao L.length cap, .int .i64 I.ws, .int .i64 I.wt, .int .i64 I.mn, .int .i64 I.mg] 24)).alloc (.cells #[.int .i64 lv, .int .i64 f, .int .i64 WW, .int .i64 HH, .slice bo bs0.length bcap] 29) = w0 at H0 ⊢
  refine (wakes_any _).mono ?_
  rintro e w1 ⟨rfl, hx1⟩
  have H1 := hide (And.intro ((unhide H0).1.trans hx1) (And.intro ((unhide H0).2.1.ext hx1) ((unhide H0).2.2.ext hx1)))
  clear H0 hx1
  obtain ⟨q0, q1, q2, q3, q4, q5⟩ := (unhide H1).2.1.six
  go_wp2_with fail
  refine (short_in (unhide HI) (unhide H1).1).mono ?_
  rintro e w2 ⟨ao2, cap2, LX, rfl, hlo2, hab2, hx2⟩
  have hB2 := (unhide H1).2.1.ext hx2
  have hX2 := (unhide H1).1.trans hx2
  have hP2 := (unhide H1).2.2.ext hx2
  clear q0 q1 q2 q3 q4 q5
  obtain ⟨q0, q1, q2, q3, q4, q5⟩ := hB2.six
  obtain ⟨f0, f1, f2, f3, f4, f5⟩ := hB2.frees
  have hM3 := mine_put (unhide HI) hB2 hlo2 hab2
  have hg3 := grown_put6 w2 W.heap.size (.int .i64 I.f) (.slice ao2 LX.length cap2) (.int .i64 I.ws) (.int .i64 I.wt) (.int .i64 I.mn) (.int .i64 I.mg)
  have hX3 : Ext W _ := below_grown hX2 hg3 hX2.size (Nat.le_refl _)
  have hP3 := hP2.grown hg3 (by omega)
  have H3 := hide (And.intro hM3 (And.intro hX3 hP3))
  clear H1 hlo2 hab2 hx2 hB2 hX2 hM3 hX3 hP2 hP3 hg3
  go_upto_region 4 with fail
  generalize (((((w2.setCell ⟨W.heap.size, 0, none⟩ (.int .i64 I.f)).setCell ⟨W.heap.size, 1, none⟩ (.slice ao2 LX.length cap2)).setCell ⟨W.heap.size, 2, none⟩ (.int .i64 I.ws)).setCell ⟨W.heap.size, 3, none⟩ (.int .i64 I.wt)).setCell ⟨W.heap.size, 4, none⟩ (.int .i64 I.mn)).setCell ⟨W.heap.size, 5, none⟩ (.int .i64 I.mg) = w3 at H3 ⊢
  have hby := short_byt (abs_byt fun p hp => ((unhide HI).all p hp).2.1)
  rw [← (unhide HI).abs] at hby
  have HBY : Hid (∀ p ∈ (shI I).L, Byt p.2.2) := hby
  clear q0 q1 q2 q3 q4 q5 f0 f1 f2 f3 f4 f5 HI hby
  generalize shI I = X at H3 HBY
  have hL9 := (unhide H3).1.len
  have hXl : X.L.length ≤ 9 := by rw [(unhide H3).1.abs, absL_len]; exact hL9
  have HBL : Hid (∀ p ∈ LX, p.2.2.2.length ≤ 140737488355328) := fun p hp => by have := (unhide H3).1.bys p hp; omega
  obtain ⟨q0, q1, q2, q3, q4, q5⟩ := (unhide H3).1.blk.six
  go_wp2_with fail
  refine (refCopy_any (I := X) (unhide H3).1.lo.lr (by omega) (unhide HBL)).mono ?_
  rintro e w4 ⟨ao4, cap4, LZ, rfl, hlo4, hab4, hx4⟩
  have hx5 := (Ext.refl w4).alloc (.cells #[.int .i64 X.f, .slice ao4 LZ.length cap4, .int .i64 X.ws, .int .i64 X.wt, .int .i64 X.mn, .int .i64 X.mg] 24)
  have hZl : w4.heap.size ≠ W.heap.size + 1 := by have := (unhide H3).2.2.lt; have := hx4.size; omega
  have H5 := hide (And.intro ((unhide H3).1.ext (hx4.trans hx5)) (And.intro (hlo4.ext hx5) (And.intro (Blk.new w4 #[.int .i64 X.f, .slice ao4 LZ.length cap4, .int .i64 X.ws, .int .i64 X.wt, .int .i64 X.mn, .int .i64 X.mg] 24) (And.intro ((unhide H3).2.1.trans (hx4.trans hx5)) ((unhide H3).2.2.ext (hx4.trans hx5))))))
  have HAZ : Hid (X.L = absL LZ) := by show _ = _; rw [hab4]; exact (unhide H3).1.abs
  have hLZ : LZ.length ≤ 9 := by
    have := congrArg List.length hab4
    rw [absL_len, absL_len] at this
    omega
  have HBLZ : Hid (∀ p ∈ LZ, p.2.2.2.length ≤ 20000) := fun p hp => by
    have h1 := abs_mem hp
    rw [hab4] at h1
    obtain ⟨q, hq, hqe⟩ := List.mem_map.1 h1
    have h2 := (unhide H3).1.bys q hq
    have h3 : q.2.2.2 = p.2.2.2 := congrArg (fun t => t.2.2) hqe
    rw [← h3]
    exact h2
  clear q0 q1 q2 q3 q4 q5 hlo4 hab4 hx4 hx5 H3
  go_upto_region 5 with fail
  generalize w4.alloc (.cells #[.int .i64 X.f, .slice ao4 LZ.length cap4, .int .i64 X.ws, .int .i64 X.wt, .int .i64 X.mn, .int .i64 X.mg] 24) = w5 at H5 ⊢
  go_cut [25] (fun p wc => p = .int .i64 (m : Int) ∧ wc = w5.setCell ⟨W.heap.size + 1, 4, none⟩ (.slice bo m bcap))
  case first =>
    obtain ⟨q0, q1, q2, q3, q4⟩ := (unhide H5).2.2.2.2.five
    have f1 := (unhide H5).2.2.2.2.free 4
    by_cases h9 : 20000 < bs0.length
    · have h9' : (20000 : Int) < (bs0.length : Int) := by omega
      have HM2 := unhide HM
      rw [if_pos h9'] at HM2
      obtain rfl : m = 20000 := by omega
      clear HM2
      go_wp2
      go_meet
      exact ⟨rfl, rfl⟩
    · have h9' : ¬ (20000 : Int) < (bs0.length : Int) := by omega
      have HM2 := unhide HM
      rw [if_neg h9'] at HM2
      obtain rfl : m = bs0.length := by omega
      clear HM2
      go_wp2
      go_meet
      exact ⟨rfl, rfl⟩
  case rest =>
  obtain ⟨rfl, rfl⟩ := hcut
  have hP6 : Blk (w5.setCell ⟨W.heap.size + 1, 4, none⟩ (.slice bo m bcap)) (W.heap.size + 1) #[.int .i64 lv, .int .i64 f, .int .i64 WW, .int .i64 HH, .slice bo m bcap] 29 := by
    have := (unhide H5).2.2.2.2.set 4 (.slice bo m bcap)
    simpa using this
  have hg6 := grownBy_set w5 (W.heap.size + 1) 4 (.slice bo m bcap)
  have hM6 : Mine (w5.setCell ⟨W.heap.size + 1, 4, none⟩ (.slice bo m bcap)) w1.heap.size W.heap.size X (.slice ao2 LX.length cap2) LX := by
    obtain ⟨a1, a2, a3, a4, a5, a6⟩ := (unhide H5).1
    exact ⟨a1.grown hg6 (by omega), a2.grown (unhide H5).2.2.2.2 ⟨by decide, by decide⟩ hg6, a3, a4, a5, a6⟩
  have hZ6 := (unhide H5).2.1.grown (unhide H5).2.2.2.2 ⟨by decide, by decide⟩ hg6
  have hBZ6 := (unhide H5).2.2.1.grown hg6 hZl
  have hX6 : Ext W _ := below_grown (unhide H5).2.2.2.1 hg6 (unhide H5).2.2.2.1.size (by omega)
  obtain ⟨bs, hbs⟩ : ∃ bs, bs = bs0.take m := ⟨_, rfl⟩
  have hbl : bs.length = m := by rw [hbs]; simp; omega
  have hbR : Row .u8 W (.slice bo m bcap) bs := by rw [hbs]; exact (unhide HQ).upto m hmL
  have HBB : Hid (Byt bs) := by
    intro x hx
    rw [hbs] at hx
    exact unhide HQB x (List.mem_of_mem_take hx)
  clear hbs H5 HQ HQB HM
  subst hbl
  have hbc3 : bs.length ≤ bcap := by omega
  have HBR := hide hbR
  have H6 := hide (And.intro hM6 (And.intro hZ6 (And.intro hBZ6 (And.intro hX6 hP6))))
  clear hP6 hg6 hM6 hZ6 hBZ6 hX6 hbR
  generalize w5.setCell ⟨W.heap.size + 1, 4, none⟩ (.slice bo bs.length bcap) = w6 at H6 ⊢
  go_upto_region 6 with fail
  have HCL : Hid (∀ wx, Ext w6 wx → wx.cell? ⟨W.heap.size + 1, 4, none⟩ = some (.slice bo bs.length bcap)) := fun wx hx => ((unhide H6).2.2.2.2.ext hx).five.2.2.2.2
  go_cut [6] (fun p wc => ∃ w7 v7, w7 = wc ∧ p = v7 ∧ Own .u8 wc w6.heap.size 5 v7 (bs ++ [7]) ∧ Ext w6 wc)
  case first =>
    have HWR : Hid (IntKind.i64.wrap ((bs.length : Int) + 2) = (bs.length : Int) + 2) := by
      show _ = _
      simp [IntKind.wrap, IntKind.bits, IntKind.signed]
      omega
    obtain ⟨i0, hi, hz0, hz1, hz2⟩ := info_parts info5
    refine wp_region_noPanic ?_
    refine wp_region_held_drew (S := fun wx => Ext w6 wx) (by kernel_rfl) (ext_0 w6) (fun HS => ?_)
    refine wpAnyH_take (i := 0) (oi := { dst := some 29, op := Op.fieldAddr 29 (Operand.tmp 3) 2, type := 0, pos := _, after := _, guard := none }) (v := .pointer (some ⟨W.heap.size + 1, 2, none⟩)) rfl (by kernel_rfl) (by kernel_rfl) (by kernel_rfl) (fun _ _ _ h => h) (Or.inl ⟨by rfl, fun wx hx => by go_simp⟩) HS ?_
    simp only [Act.put, List.setIfInBounds_toArray, List.set_cons_zero, List.set_cons_succ]
    refine wpAnyH_take (i := 1) (oi := { dst := some 30, op := Op.fieldAddr 27 (Operand.tmp 29) 2, type := 0, pos := _, after := _, guard := none }) (v := .pointer (some ⟨W.heap.size + 1, 4, none⟩)) rfl (by kernel_rfl) (by kernel_rfl) (by kernel_rfl) (fun _ _ _ h => h) (Or.inl ⟨by rfl, fun wx hx => by go_simp⟩) HS ?_
    simp only [Act.put, List.setIfInBounds_toArray, List.set_cons_zero, List.set_cons_succ]
    refine wpAnyH_take (i := 2) (oi := { dst := some 31, op := Op.load 25 (Operand.tmp 30), type := 25, pos := _, after := _, guard := none }) (v := .slice bo bs.length bcap) rfl (by kernel_rfl) (by kernel_rfl) (by kernel_rfl) (fun _ _ _ h => h) (Or.inl ⟨by rfl, fun wx hx => by have c4 := unhide HCL wx hx; go_simp⟩) HS ?_
    simp only [Act.put, List.setIfInBounds_toArray, List.set_cons_zero, List.set_cons_succ]
    refine wpAnyH_take (i := 3) (oi := { dst := some 32, op := Op.call { callee := Callee.builtin Builtin.len, args := #[Operand.tmp 31], argTypes := #[25] }, type := 3, pos := _, after := _, guard := none }) (v := .int .i64 (bs.length : Int)) rfl (by kernel_rfl) (by kernel_rfl) (by kernel_rfl) (fun _ _ _ h => h) (Or.inl ⟨by rfl, fun wx hx => by go_simp⟩) HS ?_
    simp only [Act.put, List.setIfInBounds_toArray, List.set_cons_zero, List.set_cons_succ]
    refine wpAnyH_take (i := 4) (oi := { dst := some 33, op := Op.binOp BinOp.add 3 (Operand.tmp 32) (Operand.const (Value.int IntKind.i64 2)) 3, type := 3, pos := _, after := _, guard := none }) (v := .int .i64 ((bs.length : Int) + 2)) rfl (by kernel_rfl) (by kernel_rfl) (by kernel_rfl) (fun _ _ _ h => h) (Or.inl ⟨by rfl, fun wx hx => by have hwr := unhide HWR; go_simp⟩) HS ?_
    simp only [Act.put, List.setIfInBounds_toArray, List.set_cons_zero, List.set_cons_succ]
    refine wpAnyH_take (i := 6) (oi := { dst := some 35, op := Op.fieldAddr 29 (Operand.tmp 3) 2, type := 0, pos := _, after := _, guard := none }) (v := .pointer (some ⟨W.heap.size + 1, 2, none⟩)) rfl (by kernel_rfl) (by kernel_rfl) (by kernel_rfl) (fun _ _ _ h => h) (Or.inl ⟨by rfl, fun wx hx => by go_simp⟩) HS ?_
    simp only [Act.put, List.setIfInBounds_toArray, List.set_cons_zero, List.set_cons_succ]
    refine wpAnyH_take (i := 7) (oi := { dst := some 36, op := Op.fieldAddr 27 (Operand.tmp 35) 2, type := 0, pos := _, after := _, guard := none }) (v := .pointer (some ⟨W.heap.size + 1, 4, none⟩)) rfl (by kernel_rfl) (by kernel_rfl) (by kernel_rfl) (fun _ _ _ h => h) (Or.inl ⟨by rfl, fun wx hx => by go_simp⟩) HS ?_
    simp only [Act.put, List.setIfInBounds_toArray, List.set_cons_zero, List.set_cons_succ]
    refine wpAnyH_take (i := 8) (oi := { dst := some 37, op := Op.load 25 (Operand.tmp 36), type := 25, pos := _, after := _, guard := none }) (v := .slice bo bs.length bcap) rfl (by kernel_rfl) (by kernel_rfl) (by kernel_rfl) (fun _ _ _ h => h) (Or.inl ⟨by rfl, fun wx hx => by have c4 := unhide HCL wx hx; go_simp⟩) HS ?_
    simp only [Act.put, List.setIfInBounds_toArray, List.set_cons_zero, List.set_cons_succ]
    refine wpAnyH_ready (rs := [5, 10]) (by kernel_rfl) (by simp) (AllReadyH.cons (o := { dst := some 34, op := Op.makeSlice 25 (Operand.const (Value.int IntKind.i64 0)) (Operand.tmp 33), type := 25, pos := _, after := _, guard := none }) rfl (fun KK hK => ?_) (AllReadyH.cons (o := { dst := some 39, op := Op.buildSlice 25 1 #[(0, Operand.const (Value.int IntKind.u8 7))], type := 25, pos := _, after := _, guard := none }) rfl (fun KK hK => ?_) AllReadyH.nil))
    · refine Eq.mpr (if_pos (by rfl)) ?_
      refine wp_make_Own _ (.const (.int .i64 0)) (.tmp 33) 25 rfl _ 5 i0 _ .u8 Try.underlying25 hi hz0 hz1 .i64 .i64 (bs.length + 2) rfl (congrArg (Value.int .i64) (by omega)) (by rw [hz2]; omega) (by unfold maxLen; omega) (Nat.le_refl _) ?_
      intro vm wm hom hgm
      have ho0 := hom.lower HS.size
      have HSN := HS.trans (grown_none hgm)
      clear hom hgm
      have HS2 := HSN
      clear HS
      have HS := HS2
      clear HS2 HSN
      refine hK.out _ _ HS (fun _ => ?_)
      clear hK KK
      try simp only [Act.put, List.setIfInBounds_toArray, List.set_cons_zero, List.set_cons_succ]
      refine wpAnyH_ready (rs := [9, 10]) (by kernel_rfl) (by simp) (AllReadyH.cons (o := { dst := some 38, op := Op.call { callee := Callee.builtin Builtin.append, args := #[Operand.tmp 34, Operand.tmp 37], argTypes := #[25, 25] }, type := 25, pos := _, after := _, guard := none }) rfl (fun KK hK => ?_) (AllReadyH.cons (o := { dst := some 39, op := Op.buildSlice 25 1 #[(0, Operand.const (Value.int IntKind.u8 7))], type := 25, pos := _, after := _, guard := none }) rfl (fun KK hK => ?_) AllReadyH.nil))
      · refine Eq.mpr (if_pos (by rfl)) ?_
        refine wp_append_Own (.tmp 34) (.tmp 37) 25 rfl w6.heap.size 5 i0 .u8 1 Try.underlying25 hi hz0 hz1 hz2 _ [] rfl ho0 _ bs rfl ((unhide HBR).ext ((unhide H6).2.2.2.1.trans HS)) (by simp; unfold maxLen; omega) (by simp; omega) HS.size ?_
        intro v1 wy ho1 hg1
        have HSN := ext_by HS ho0 (Nat.le_refl _) hg1
        clear ho0 hg1
        have HS2 := HSN
        clear HS
        have HS := HS2
        clear HS2 HSN
        refine hK.out _ _ HS (fun _ => ?_)
        clear hK KK
        try simp only [Act.put, List.setIfInBounds_toArray, List.set_cons_zero, List.set_cons_succ]
        refine wpAnyH_ready (rs := [10]) (by kernel_rfl) (by simp) (AllReadyH.cons (o := { dst := some 39, op := Op.buildSlice 25 1 #[(0, Operand.const (Value.int IntKind.u8 7))], type := 25, pos := _, after := _, guard := none }) rfl (fun KK hK => ?_) AllReadyH.nil)
        refine Eq.mpr (if_pos (by rfl)) ?_
        refine wp_build_one 25 5 .u8 7 rfl i0 _ Try.underlying25 hi hz0 hz1 ?_
        have RB7 := Blk.new wy #[.int .u8 7] 5
        have NE : ∀ b, v1.ownBlock = some b → wy.heap.size ≠ b := fun b hb => by have h1 := (ho1.lt b hb).2; omega
        have ho9 := ho1.alloc (.cells #[.int .u8 7] 5)
        clear ho1
        have ho1 := ho9
        clear ho9
        have HSN := HS.alloc (.cells #[.int .u8 7] 5)
        have HS2 := HSN
        clear HS
        have HS := HS2
        clear HS2 HSN
        refine hK.out _ _ HS (fun _ => ?_)
        clear hK KK
        generalize wy.alloc (.cells #[.int .u8 7] 5) = wa at RB7 HS ho1 ⊢
        try simp only [Act.put, List.setIfInBounds_toArray, List.set_cons_zero, List.set_cons_succ]
        refine wpAnyH_ready (rs := [11]) (by kernel_rfl) (by simp) (AllReadyH.cons (o := { dst := some 40, op := Op.call { callee := Callee.builtin Builtin.append, args := #[Operand.tmp 38, Operand.tmp 39], argTypes := #[25, 25] }, type := 25, pos := _, after := _, guard := none }) rfl (fun KK hK => ?_) AllReadyH.nil)
        refine Eq.mpr (if_pos (by rfl)) ?_
        refine wp_append_Own (.tmp 38) (.tmp 39) 25 rfl w6.heap.size 5 i0 .u8 1 Try.underlying25 hi hz0 hz1 hz2 _ ([] ++ bs) rfl ho1 _ [7] rfl (row_one RB7) (by simp; unfold maxLen; omega) (by simp; omega) HS.size ?_
        intro v2 wz ho2 hg2
        have HSN := ext_by HS ho1 (Nat.le_refl _) hg2
        clear ho1 hg2
        have HS2 := HSN
        clear HS
        have HS := HS2
        clear HS2 HSN
        refine hK.out _ _ HS (fun _ => ?_)
        clear hK KK
        try simp only [Act.put, List.setIfInBounds_toArray, List.set_cons_zero, List.set_cons_succ]
        refine wpAnyH_take (i := 12) (oi := { dst := some 6, op := Op.assign (Operand.tmp 40), type := 25, pos := _, after := _, guard := none }) (v := v2) rfl (by kernel_rfl) (by kernel_rfl) (by kernel_rfl) (fun _ _ _ h => h) (Or.inl ⟨by rfl, fun _ _ => rfl⟩) HS ?_
        simp only [Act.put, List.setIfInBounds_toArray, List.set_cons_zero, List.set_cons_succ]
        refine wpAnyH_done (by kernel_rfl) ?_ _
        refine NoPanic.normal ?_
        go_wp2
        go_meet
        exact ⟨_, _, rfl, rfl, ho2, HS⟩
      · refine Eq.mpr (if_pos (by rfl)) ?_
        refine wp_build_one 25 5 .u8 7 rfl i0 _ Try.underlying25 hi hz0 hz1 ?_
        have RB7 := Blk.new wm #[.int .u8 7] 5
        have NE : ∀ b, vm.ownBlock = some b → wm.heap.size ≠ b := fun b hb => by have h1 := (ho0.lt b hb).2; omega
        have ho9 := ho0.alloc (.cells #[.int .u8 7] 5)
        clear ho0
        have ho0 := ho9
        clear ho9
        have HSN := HS.alloc (.cells #[.int .u8 7] 5)
        have HS2 := HSN
        clear HS
        have HS := HS2
        clear HS2 HSN
        refine hK.out _ _ HS (fun _ => ?_)
        clear hK KK
        generalize wm.alloc (.cells #[.int .u8 7] 5) = wa at RB7 HS ho0 ⊢
        try simp only [Act.put, List.setIfInBounds_toArray, List.set_cons_zero, List.set_cons_succ]
        refine wpAnyH_ready (rs := [9]) (by kernel_rfl) (by simp) (AllReadyH.cons (o := { dst := some 38, op := Op.call { callee := Callee.builtin Builtin.append, args := #[Operand.tmp 34, Operand.tmp 37], argTypes := #[25, 25] }, type := 25, pos := _, after := _, guard := none }) rfl (fun KK hK => ?_) AllReadyH.nil)
        refine Eq.mpr (if_pos (by rfl)) ?_
        refine wp_append_Own (.tmp 34) (.tmp 37) 25 rfl w6.heap.size 5 i0 .u8 1 Try.underlying25 hi hz0 hz1 hz2 _ [] rfl ho0 _ bs rfl ((unhide HBR).ext ((unhide H6).2.2.2.1.trans HS)) (by simp; unfold maxLen; omega) (by simp; omega) HS.size ?_
        intro v1 wy ho1 hg1
        have HSN := ext_by HS ho0 (Nat.le_refl _) hg1
        have RB8 := blk_by RB7 hg1 NE
        clear RB7 NE
        have RB7 := RB8
        clear RB8
        clear ho0 hg1
        have HS2 := HSN
        clear HS
        have HS := HS2
        clear HS2 HSN
        refine hK.out _ _ HS (fun _ => ?_)
        clear hK KK
        try simp only [Act.put, List.setIfInBounds_toArray, List.set_cons_zero, List.set_cons_succ]
        refine wpAnyH_ready (rs := [11]) (by kernel_rfl) (by simp) (AllReadyH.cons (o := { dst := some 40, op := Op.call { callee := Callee.builtin Builtin.append, args := #[Operand.tmp 38, Operand.tmp 39], argTypes := #[25, 25] }, type := 25, pos := _, after := _, guard := none }) rfl (fun KK hK => ?_) AllReadyH.nil)
        refine Eq.mpr (if_pos (by rfl)) ?_
        refine wp_append_Own (.tmp 38) (.tmp 39) 25 rfl w6.heap.size 5 i0 .u8 1 Try.underlying25 hi hz0 hz1 hz2 _ ([] ++ bs) rfl ho1 _ [7] rfl (row_one RB7) (by simp; unfold maxLen; omega) (by simp; omega) HS.size ?_
        intro v2 wz ho2 hg2
        have HSN := ext_by HS ho1 (Nat.le_refl _) hg2
        clear ho1 hg2
        have HS2 := HSN
        clear HS
        have HS := HS2
        clear HS2 HSN
        refine hK.out _ _ HS (fun _ => ?_)
        clear hK KK
        try simp only [Act.put, List.setIfInBounds_toArray, List.set_cons_zero, List.set_cons_succ]
        refine wpAnyH_take (i := 12) (oi := { dst := some 6, op := Op.assign (Operand.tmp 40), type := 25, pos := _, after := _, guard := none }) (v := v2) rfl (by kernel_rfl) (by kernel_rfl) (by kernel_rfl) (fun _ _ _ h => h) (Or.inl ⟨by rfl, fun _ _ => rfl⟩) HS ?_
        simp only [Act.put, List.setIfInBounds_toArray, List.set_cons_zero, List.set_cons_succ]
        refine wpAnyH_done (by kernel_rfl) ?_ _
        refine NoPanic.normal ?_
        go_wp2
        go_meet
        exact ⟨_, _, rfl, rfl, ho2, HS⟩
    · refine Eq.mpr (if_pos (by rfl)) ?_
      refine wp_build_one 25 5 .u8 7 rfl i0 _ Try.underlying25 hi hz0 hz1 ?_
      have RB7 := Blk.new w6.drew #[.int .u8 7] 5
      have HSN := HS.alloc (.cells #[.int .u8 7] 5)
      have HS2 := HSN
      clear HS
      have HS := HS2
      clear HS2 HSN
      refine hK.out _ _ HS (fun _ => ?_)
      clear hK KK
      generalize w6.drew.alloc (.cells #[.int .u8 7] 5) = wa at RB7 HS ⊢
      try simp only [Act.put, List.setIfInBounds_toArray, List.set_cons_zero, List.set_cons_succ]
      refine wpAnyH_ready (rs := [5]) (by kernel_rfl) (by simp) (AllReadyH.cons (o := { dst := some 34, op := Op.makeSlice 25 (Operand.const (Value.int IntKind.i64 0)) (Operand.tmp 33), type := 25, pos := _, after := _, guard := none }) rfl (fun KK hK => ?_) AllReadyH.nil)
      refine Eq.mpr (if_pos (by rfl)) ?_
      refine wp_make_Own _ (.const (.int .i64 0)) (.tmp 33) 25 rfl _ 5 i0 _ .u8 Try.underlying25 hi hz0 hz1 .i64 .i64 (bs.length + 2) rfl (congrArg (Value.int .i64) (by omega)) (by rw [hz2]; omega) (by unfold maxLen; omega) (Nat.le_refl _) ?_
      intro vm wm hom hgm
      have NE : ∀ b, vm.ownBlock = some b → w6.drew.heap.size ≠ b := fun b hb => by have h1 := (hom.lt b hb).1; have h2 := RB7.lt; omega
      have RB8 := RB7.ext (grown_none hgm)
      clear RB7
      have RB7 := RB8
      clear RB8
      have ho0 := hom.lower HS.size
      have HSN := HS.trans (grown_none hgm)
      clear hom hgm
      have HS2 := HSN
      clear HS
      have HS := HS2
      clear HS2 HSN
      refine hK.out _ _ HS (fun _ => ?_)
      clear hK KK
      try simp only [Act.put, List.setIfInBounds_toArray, List.set_cons_zero, List.set_cons_succ]
      refine wpAnyH_ready (rs := [9]) (by kernel_rfl) (by simp) (AllReadyH.cons (o := { dst := some 38, op := Op.call { callee := Callee.builtin Builtin.append, args := #[Operand.tmp 34, Operand.tmp 37], argTypes := #[25, 25] }, type := 25, pos := _, after := _, guard := none }) rfl (fun KK hK => ?_) AllReadyH.nil)
      refine Eq.mpr (if_pos (by rfl)) ?_
      refine wp_append_Own (.tmp 34) (.tmp 37) 25 rfl w6.heap.size 5 i0 .u8 1 Try.underlying25 hi hz0 hz1 hz2 _ [] rfl ho0 _ bs rfl ((unhide HBR).ext ((unhide H6).2.2.2.1.trans HS)) (by simp; unfold maxLen; omega) (by simp; omega) HS.size ?_
      intro v1 wy ho1 hg1
      have HSN := ext_by HS ho0 (Nat.le_refl _) hg1
      have RB8 := blk_by RB7 hg1 NE
      clear RB7 NE
      have RB7 := RB8
      clear RB8
      clear ho0 hg1
      have HS2 := HSN
      clear HS
      have HS := HS2
      clear HS2 HSN
      refine hK.out _ _ HS (fun _ => ?_)
      clear hK KK
      try simp only [Act.put, List.setIfInBounds_toArray, List.set_cons_zero, List.set_cons_succ]
      refine wpAnyH_ready (rs := [11]) (by kernel_rfl) (by simp) (AllReadyH.cons (o := { dst := some 40, op := Op.call { callee := Callee.builtin Builtin.append, args := #[Operand.tmp 38, Operand.tmp 39], argTypes := #[25, 25] }, type := 25, pos := _, after := _, guard := none }) rfl (fun KK hK => ?_) AllReadyH.nil)
      refine Eq.mpr (if_pos (by rfl)) ?_
      refine wp_append_Own (.tmp 38) (.tmp 39) 25 rfl w6.heap.size 5 i0 .u8 1 Try.underlying25 hi hz0 hz1 hz2 _ ([] ++ bs) rfl ho1 _ [7] rfl (row_one RB7) (by simp; unfold maxLen; omega) (by simp; omega) HS.size ?_
      intro v2 wz ho2 hg2
      have HSN := ext_by HS ho1 (Nat.le_refl _) hg2
      clear ho1 hg2
      have HS2 := HSN
      clear HS
      have HS := HS2
      clear HS2 HSN
      refine hK.out _ _ HS (fun _ => ?_)
      clear hK KK
      try simp only [Act.put, List.setIfInBounds_toArray, List.set_cons_zero, List.set_cons_succ]
      refine wpAnyH_take (i := 12) (oi := { dst := some 6, op := Op.assign (Operand.tmp 40), type := 25, pos := _, after := _, guard := none }) (v := v2) rfl (by kernel_rfl) (by kernel_rfl) (by kernel_rfl) (fun _ _ _ h => h) (Or.inl ⟨by rfl, fun _ _ => rfl⟩) HS ?_
      simp only [Act.put, List.setIfInBounds_toArray, List.set_cons_zero, List.set_cons_succ]
      refine wpAnyH_done (by kernel_rfl) ?_ _
      refine NoPanic.normal ?_
      go_wp2
      go_meet
      exact ⟨_, _, rfl, rfl, ho2, HS⟩
  case rest =>
  obtain ⟨w7, v7, rfl, rfl, hO7, hx7⟩ := hcut
  obtain ⟨g, c7, rfl, hgc, hgm, hgb, hgl⟩ := hO7.headP (n := bs.length + 1) (by simp) (by omega)
  have H7 := hide (And.intro ((unhide H6).1.ext hx7) (And.intro ((unhide H6).2.1.ext hx7) (And.intro ((unhide H6).2.2.1.ext hx7) (And.intro ((unhide H6).2.2.2.1.trans hx7) (And.intro ((unhide H6).2.2.2.2.ext hx7) hO7)))))
  clear H6 HCL hO7 hx7 hgb hgl
  obtain ⟨p0, p1, p2, p3, p4⟩ := (unhide H7).2.2.2.2.1.five
  go_upto_region 8 with fail
  clear p0 p1 p2 p3 p4
  have hx8 := (Ext.refl w7).alloc (.cells #[.int .i64 WW, .int .i64 HH, .slice bo bs.length bcap] 27)
  have hL8 := Blk.new w7 #[.int .i64 WW, .int .i64 HH, .slice bo bs.length bcap] 27
  have H8 := hide (And.intro hx8 hL8)
  clear hx8 hL8
  generalize w7.alloc (.cells #[.int .i64 WW, .int .i64 HH, .slice bo bs.length bcap] 27) = w8 at H8 ⊢
  obtain ⟨p0, p1, p2, p3, p4⟩ := ((unhide H7).2.2.2.2.1.ext (unhide H8).1).five
  obtain ⟨l0, l1, l2⟩ := (unhide H8).2.three
  obtain ⟨f0, f1, f2, f3, f4, f5⟩ := (unhide H8).2.frees
  go_upto_region 9 with fail
  clear p0 p1 p2 p3 p4 l0 l1 l2 f0 f1 f2 f3 f4 f5
  have hL9' : Blk (w8.setCell ⟨w7.heap.size, 2, none⟩ (.slice (some ⟨g, 0, none⟩) bs.length c7)) w7.heap.size #[.int .i64 WW, .int .i64 HH, .slice (some ⟨g, 0, none⟩) bs.length c7] 27 := by
    have := (unhide H8).2.set 2 (.slice (some ⟨g, 0, none⟩) bs.length c7)
    simpa using this
  have hx9 : Ext w7 _ := below_grown (unhide H8).1 (grownBy_set w8 w7.heap.size 2 (.slice (some ⟨g, 0, none⟩) bs.length c7)) (unhide H8).1.size (Nat.le_refl _)
  have hO9 := (unhide H7).2.2.2.2.2.kept hx9
  have HRO : Hid (Row .u8 (w8.setCell ⟨w7.heap.size, 2, none⟩ (.slice (some ⟨g, 0, none⟩) bs.length c7)) (.slice (some ⟨g, 0, none⟩) bs.length c7) bs) := by
    show Row _ _ _ _
    have := (hO9.take bs.length (by simp)).row
    simpa using this
  have HLC : Hid ((w8.setCell ⟨w7.heap.size, 2, none⟩ (.slice (some ⟨g, 0, none⟩) bs.length c7)).cell? ⟨g, bs.length, none⟩ = some (.int .u8 7)) := by
    show _ = _
    have := hO9.cellAt bs.length (by simp)
    simpa using this
  have H9 := hide (And.intro ((unhide H7).1.ext hx9) (And.intro ((unhide H7).2.1.ext hx9) (And.intro ((unhide H7).2.2.1.ext hx9) (And.intro ((unhide H7).2.2.2.1.trans hx9) (And.intro ((unhide H7).2.2.2.2.1.ext hx9) hL9')))))
  have hg9 : g < (w8.setCell ⟨w7.heap.size, 2, none⟩ (.slice (some ⟨g, 0, none⟩) bs.length c7)).heap.size := (hO9.lt g rfl).2
  clear H7 H8 hL9' hx9 hO9
  generalize w8.setCell ⟨w7.heap.size, 2, none⟩ (.slice (some ⟨g, 0, none⟩) bs.length c7) = w9 at H9 HRO HLC hg9 ⊢
  obtain ⟨p0, p1, p2, p3, p4⟩ := (unhide H9).2.2.2.2.1.five
  obtain ⟨l0, l1, l2⟩ := (unhide H9).2.2.2.2.2.three
  obtain ⟨q0, q1, q2, q3, q4, q5⟩ := (unhide H9).1.blk.six
  go_wp2_with fail
  refine (put_all (I := X) (unhide H9).1.lo.lr (by omega) (unhide H9).1.abs (unhide HBL) lv f WW HH (some ⟨g, 0, none⟩) c7 bs (unhide HRO)).mono ?_
  rintro e w10 ⟨ao10, cap10, LG, rfl, hlo10, hab10, hx10⟩
  have HJB : Hid (∀ p ∈ (putI X lv f WW HH bs).L, Byt p.2.2) := putI_byt (unhide HBY) (unhide HBB)
  have hJl : (putI X lv f WW HH bs).L.length ≤ 9 := putI_len hXl
  have HRP : Hid (∀ wx, Ext w9 wx → Calls Try.prog 12 #[.agg #[.int .i64 X.f, .slice ao4 LZ.length cap4, .int .i64 X.ws, .int .i64 X.wt, .int .i64 X.mn, .int .i64 X.mg], .int .i64 lv, .int .i64 f, .agg #[.int .i64 WW, .int .i64 HH, .slice bo bs.length bcap]] wx fun e w' => ∃ ao cap L', e = .returned (.tuple #[.agg #[.int .i64 (putI X lv f WW HH bs).f, .slice ao L'.length cap, .int .i64 (putI X lv f WW HH bs).ws, .int .i64 (putI X lv f WW HH bs).wt, .int .i64 (putI X lv f WW HH bs).mn, .int .i64 (putI X lv f WW HH bs).mg], .int .i64 (putE X lv f WW HH bs.length)]) ∧
      LO w' wx.heap.size (.slice ao L'.length cap) L' ∧ absL L' = (putI X lv f WW HH bs).L ∧ Ext wx w') := fun wx hx =>
    refPut_all (I := X) ((unhide H9).2.1.lr.ext hx) (by omega) (unhide HAZ) (fun p hp => by have := unhide HBLZ p hp; omega) lv f WW HH bo bcap bs ((unhide HBR).ext ((unhide H9).2.2.2.1.trans hx))
  generalize putI X lv f WW HH bs = J at hab10 HJB hJl HRP ⊢
  generalize putE X lv f WW HH bs.length = E at HRP ⊢
  have hx11 := (Ext.refl w10).alloc (.cells #[.int .i64 J.f, .slice ao10 LG.length cap10, .int .i64 J.ws, .int .i64 J.wt, .int .i64 J.mn, .int .i64 J.mg] 24)
  have H11 := hide (And.intro (hlo10.ext hx11) (And.intro hab10 (And.intro (Blk.new w10 #[.int .i64 J.f, .slice ao10 LG.length cap10, .int .i64 J.ws, .int .i64 J.wt, .int .i64 J.mn, .int .i64 J.mg] 24) (hx10.trans hx11))))
  clear p0 p1 p2 p3 p4 l0 l1 l2 q0 q1 q2 q3 q4 q5 hlo10 hab10 hx10 hx11
  go_upto_region 10 with fail
  generalize w10.alloc (.cells #[.int .i64 J.f, .slice ao10 LG.length cap10, .int .i64 J.ws, .int .i64 J.wt, .int .i64 J.mn, .int .i64 J.mg] 24) = w11 at H11 ⊢
  obtain ⟨p0, p1, p2, p3, p4⟩ := ((unhide H9).2.2.2.2.1.ext (unhide H11).2.2.2).five
  obtain ⟨z0, z1, z2, z3, z4, z5⟩ := ((unhide H9).2.2.1.ext (unhide H11).2.2.2).six
  go_wp2_with fail
  refine (unhide HRP _ (unhide H11).2.2.2).mono ?_
  rintro e w12 ⟨ao12, cap12, LW, rfl, hlo12, hab12, hx12⟩
  have hx13 := (Ext.refl w12).alloc (.cells #[.int .i64 J.f, .slice ao12 LW.length cap12, .int .i64 J.ws, .int .i64 J.wt, .int .i64 J.mn, .int .i64 J.mg] 24)
  have hx113 := hx12.trans hx13
  have hB13 := Blk.new w12 #[.int .i64 J.f, .slice ao12 LW.length cap12, .int .i64 J.ws, .int .i64 J.wt, .int .i64 J.mn, .int .i64 J.mg] 24
  have H13 := hide (And.intro ((unhide H11).1.ext hx113) (And.intro (unhide H11).2.1 (And.intro ((unhide H11).2.2.1.ext hx113) (And.intro ((unhide H11).2.2.2.trans hx113) (And.intro (hlo12.lr.ext hx13) (And.intro hab12 hB13))))))
  clear p0 p1 p2 p3 p4 z0 z1 z2 z3 z4 z5 HRP H11 hlo12 hab12 hx12 hx13 hx113 hB13
  go_upto_region 11 with fail
  generalize w12.alloc (.cells #[.int .i64 J.f, .slice ao12 LW.length cap12, .int .i64 J.ws, .int .i64 J.wt, .int .i64 J.mn, .int .i64 J.mg] 24) = w13 at H13 ⊢
  have HRT : Hid (Calls Try.prog 13 #[.agg #[.int .i64 J.f, .slice ao10 LG.length cap10, .int .i64 J.ws, .int .i64 J.wt, .int .i64 J.mn, .int .i64 J.mg], .agg #[.int .i64 J.f, .slice ao12 LW.length cap12, .int .i64 J.ws, .int .i64 J.wt, .int .i64 J.mn, .int .i64 J.mg], .agg #[.int .i64 X.f, .slice ao2 LX.length cap2, .int .i64 X.ws, .int .i64 X.wt, .int .i64 X.mn, .int .i64 X.mg], .agg #[.int .i64 X.f, .slice ao4 LZ.length cap4, .int .i64 X.ws, .int .i64 X.wt, .int .i64 X.mn, .int .i64 X.mg], .int .i64 E, .int .i64 E] w13.drew fun r w' => r = .returned (.bool true) ∧ Ext w9 w') := by
    refine right_any (IG := J) (IW := J) (IF := X) (IZ := X) ((unhide H13).2.2.2.1.trans (ext_0 _)) ((unhide H13).1.ext (ext_0 _)) ((unhide H13).2.2.2.2.1.ext (ext_0 _)) (unhide H9).1.lo.lr (unhide H9).2.1.lr (unhide H13).2.1.symm (unhide H13).2.2.2.2.2.1.symm (unhide H9).1.abs (unhide HAZ) (byt_ofP (unhide H13).2.1 (unhide HJB)) (byt_ofP (unhide H13).2.2.2.2.2.1 (unhide HJB)) (unhide H9).1.byt (byt_ofP (unhide HAZ).symm (unhide HBY)) ?_ (same_refl _) (same_refl _)
    have h1 := hJl
    rw [← (unhide H13).2.1, absL_len] at h1
    omega
  have HEQ : Hid (∀ wx, Ext w9 wx → Calls Try.prog 14 #[.slice (some ⟨g, 0, none⟩) bs.length c7, .slice bo bs.length bcap] wx fun e w' => e = .returned (.bool true) ∧ w' = wx) := fun wx hx => by
    have h := equal_any (some ⟨g, 0, none⟩) bo c7 bcap bs bs wx ((unhide HRO).ext hx) ((unhide HBR).ext ((unhide H9).2.2.2.1.trans hx)) (unhide HBB) (unhide HBB)
    rwa [decide_eq_true rfl] at h
  have HCX : Hid (∀ wx, Ext w9 wx → Blk wx W.heap.size #[.int .i64 X.f, .slice ao2 LX.length cap2, .int .i64 X.ws, .int .i64 X.wt, .int .i64 X.mn, .int .i64 X.mg] 24) := fun wx hx => (unhide H9).1.blk.ext hx
  have HCZ : Hid (∀ wx, Ext w9 wx → Blk wx w4.heap.size #[.int .i64 X.f, .slice ao4 LZ.length cap4, .int .i64 X.ws, .int .i64 X.wt, .int .i64 X.mn, .int .i64 X.mg] 24) := fun wx hx => (unhide H9).2.2.1.ext hx
  have HCP : Hid (∀ wx, Ext w9 wx → wx.cell? ⟨W.heap.size + 1, 4, none⟩ = some (.slice bo bs.length bcap)) := fun wx hx => ((unhide H9).2.2.2.2.1.ext hx).five.2.2.2.2
  have HCO : Hid (∀ wx, Ext w9 wx → wx.cell? ⟨g, bs.length, none⟩ = some (.int .u8 7)) := fun wx hx => by
    show _ = _
    rw [hx.cell hg9]
    exact unhide HLC
  obtain ⟨g0, g1, g2, g3, g4, g5⟩ := (unhide H13).2.2.1.six
  obtain ⟨v0, v1, v2, v3, v4, v5⟩ := (unhide H13).2.2.2.2.2.2.six
  have HX9 := hide (unhide H9).2.2.2.1
  have h913 : Ext w9 w13.drew := (unhide H13).2.2.2.1.trans (ext_0 _)
  have HWS : Hid (IntKind.i64.wrap (bs.length : Int) = (bs.length : Int)) := by
    show _ = _
    simp [IntKind.wrap, IntKind.bits, IntKind.signed]
    omega
  clear H9 H13 HLC HRO HBR HBB HBY HAZ HBLZ HBL HJB
  refine wp_region_noPanic ?_
  refine wp_region_held_drew (S := fun wx => Ext w9 wx) (by kernel_rfl) h913 (fun HS => ?_)
  refine wpAnyH_take (i := 2) (oi := { dst := some 73, op := Op.load 24 (Operand.tmp 2), type := 24, pos := _, after := _, guard := none }) (v := .agg #[.int .i64 X.f, .slice ao2 LX.length cap2, .int .i64 X.ws, .int .i64 X.wt, .int .i64 X.mn, .int .i64 X.mg]) rfl (by kernel_rfl) (by kernel_rfl) (by kernel_rfl) (fun _ _ _ h => h) (Or.inl ⟨by rfl, fun wx hx => by obtain ⟨a0, a1, a2, a3, a4, a5⟩ := (unhide HCX wx hx).six; go_simp⟩) HS ?_
  simp only [Act.put, List.setIfInBounds_toArray, List.set_cons_zero, List.set_cons_succ]
  refine wpAnyH_take (i := 3) (oi := { dst := some 74, op := Op.load 24 (Operand.tmp 5), type := 24, pos := _, after := _, guard := none }) (v := .agg #[.int .i64 X.f, .slice ao4 LZ.length cap4, .int .i64 X.ws, .int .i64 X.wt, .int .i64 X.mn, .int .i64 X.mg]) rfl (by kernel_rfl) (by kernel_rfl) (by kernel_rfl) (fun _ _ _ h => h) (Or.inl ⟨by rfl, fun wx hx => by obtain ⟨a0, a1, a2, a3, a4, a5⟩ := (unhide HCZ wx hx).six; go_simp⟩) HS ?_
  simp only [Act.put, List.setIfInBounds_toArray, List.set_cons_zero, List.set_cons_succ]
  refine wpAnyH_take (i := 4) (oi := { dst := some 75, op := Op.move (Operand.tmp 9), type := 32, pos := _, after := _, guard := none }) (v := .int .i64 E) rfl (by kernel_rfl) (by kernel_rfl) (by kernel_rfl) (fun _ _ _ h => h) (Or.inl ⟨by rfl, fun _ _ => rfl⟩) HS ?_
  simp only [Act.put, List.setIfInBounds_toArray, List.set_cons_zero, List.set_cons_succ]
  refine wpAnyH_take (i := 5) (oi := { dst := some 76, op := Op.move (Operand.tmp 11), type := 32, pos := _, after := _, guard := none }) (v := .int .i64 E) rfl (by kernel_rfl) (by kernel_rfl) (by kernel_rfl) (fun _ _ _ h => h) (Or.inl ⟨by rfl, fun _ _ => rfl⟩) HS ?_
  simp only [Act.put, List.setIfInBounds_toArray, List.set_cons_zero, List.set_cons_succ]
  refine wpAnyH_ready (rs := [0, 1]) (by kernel_rfl) (by simp) (AllReadyH.cons (o := { dst := some 71, op := Op.load 24 (Operand.tmp 8), type := 24, pos := _, after := _, guard := none }) rfl (fun KK hK => ?_) (AllReadyH.cons (o := { dst := some 72, op := Op.load 24 (Operand.tmp 10), type := 24, pos := _, after := _, guard := none }) rfl (fun KK hK => ?_) AllReadyH.nil))
  · go_simp
    refine hK.out _ _ HS (fun _ => ?_)
    clear hK KK
    try simp only [Act.put, List.setIfInBounds_toArray, List.set_cons_zero, List.set_cons_succ]
    refine wpAnyH_ready (rs := [1]) (by kernel_rfl) (by simp) (AllReadyH.cons (o := { dst := some 72, op := Op.load 24 (Operand.tmp 10), type := 24, pos := _, after := _, guard := none }) rfl (fun KK hK => ?_) AllReadyH.nil)
    go_simp
    refine hK.out _ _ HS (fun _ => ?_)
    clear hK KK
    try simp only [Act.put, List.setIfInBounds_toArray, List.set_cons_zero, List.set_cons_succ]
    refine wpAnyH_ready (rs := [6]) (by kernel_rfl) (by simp) (AllReadyH.cons (o := { dst := some 77, op := Op.call { callee := Callee.value (Operand.func 13), args := #[Operand.tmp 71, Operand.tmp 72, Operand.tmp 73, Operand.tmp 74, Operand.tmp 75, Operand.tmp 76], argTypes := #[24, 24, 24, 24, 32, 32] }, type := 4, pos := _, after := _, guard := none }) rfl (fun KK hK => ?_) AllReadyH.nil)
    go_simp
    refine (unhide HRT).mono ?_
    rintro e ws ⟨rfl, hxs⟩
    clear HS
    have HS := hxs
    clear hxs HRT g0 g1 g2 g3 g4 g5 v0 v1 v2 v3 v4 v5
    refine hK.out _ _ HS (fun _ => ?_)
    clear hK KK
    try simp only [Act.put, List.setIfInBounds_toArray, List.set_cons_zero, List.set_cons_succ]
    refine wpAnyH_take (i := 7) (oi := { dst := some 78, op := Op.move (Operand.tmp 77), type := 4, pos := _, after := _, guard := none }) (v := .bool true) rfl (by kernel_rfl) (by kernel_rfl) (by kernel_rfl) (fun _ _ _ h => h) (Or.inl ⟨by rfl, fun _ _ => rfl⟩) HS ?_
    simp only [Act.put, List.setIfInBounds_toArray, List.set_cons_zero, List.set_cons_succ]
    refine wpAnyH_take (i := 8) (oi := { dst := some 79, op := Op.move (Operand.tmp 6), type := 25, pos := _, after := _, guard := some (7, true) }) (v := .slice (some ⟨g, 0, none⟩) (bs.length + 1) c7) rfl (by kernel_rfl) (by kernel_rfl) (by kernel_rfl) (fun _ _ _ h => h) (Or.inl ⟨by rfl, fun _ _ => rfl⟩) HS ?_
    simp only [Act.put, List.setIfInBounds_toArray, List.set_cons_zero, List.set_cons_succ]
    refine wpAnyH_take (i := 9) (oi := { dst := some 80, op := Op.move (Operand.tmp 6), type := 25, pos := _, after := _, guard := some (7, true) }) (v := .slice (some ⟨g, 0, none⟩) (bs.length + 1) c7) rfl (by kernel_rfl) (by kernel_rfl) (by kernel_rfl) (fun _ _ _ h => h) (Or.inl ⟨by rfl, fun _ _ => rfl⟩) HS ?_
    simp only [Act.put, List.setIfInBounds_toArray, List.set_cons_zero, List.set_cons_succ]
    refine wpAnyH_take (i := 10) (oi := { dst := some 81, op := Op.call { callee := Callee.builtin Builtin.len, args := #[Operand.tmp 80], argTypes := #[25] }, type := 3, pos := _, after := _, guard := some (7, true) }) (v := .int .i64 ((bs.length + 1 : Nat) : Int)) rfl (by kernel_rfl) (by kernel_rfl) (by kernel_rfl) (fun _ _ _ h => h) (Or.inl ⟨by rfl, fun wx hx => by go_simp⟩) HS ?_
    simp only [Act.put, List.setIfInBounds_toArray, List.set_cons_zero, List.set_cons_succ]
    refine wpAnyH_take (i := 11) (oi := { dst := some 82, op := Op.binOp BinOp.sub 3 (Operand.tmp 81) (Operand.const (Value.int IntKind.i64 1)) 3, type := 3, pos := _, after := _, guard := some (7, true) }) (v := .int .i64 (bs.length : Int)) rfl (by kernel_rfl) (by kernel_rfl) (by kernel_rfl) (fun _ _ _ h => h) (Or.inl ⟨by rfl, fun wx hx => by have hws := unhide HWS; go_simp⟩) HS ?_
    simp only [Act.put, List.setIfInBounds_toArray, List.set_cons_zero, List.set_cons_succ]
    refine wpAnyH_take (i := 12) (oi := { dst := some 83, op := Op.slice 25 (Operand.tmp 79) none (some (Operand.tmp 82)) none, type := 25, pos := _, after := _, guard := some (7, true) }) (v := .slice (some ⟨g, 0, none⟩) bs.length c7) rfl (by kernel_rfl) (by kernel_rfl) (by kernel_rfl) (fun _ _ _ h => h) (Or.inl ⟨by rfl, fun wx hx => by have hsl : ¬ c7 < bs.length := (by omega); go_simp⟩) HS ?_
    simp only [Act.put, List.setIfInBounds_toArray, List.set_cons_zero, List.set_cons_succ]
    refine wpAnyH_take (i := 13) (oi := { dst := some 84, op := Op.fieldAddr 29 (Operand.tmp 3) 2, type := 0, pos := _, after := _, guard := some (7, true) }) (v := .pointer (some ⟨W.heap.size + 1, 2, none⟩)) rfl (by kernel_rfl) (by kernel_rfl) (by kernel_rfl) (fun _ _ _ h => h) (Or.inl ⟨by rfl, fun wx hx => by go_simp⟩) HS ?_
    simp only [Act.put, List.setIfInBounds_toArray, List.set_cons_zero, List.set_cons_succ]
    refine wpAnyH_take (i := 14) (oi := { dst := some 85, op := Op.fieldAddr 27 (Operand.tmp 84) 2, type := 0, pos := _, after := _, guard := some (7, true) }) (v := .pointer (some ⟨W.heap.size + 1, 4, none⟩)) rfl (by kernel_rfl) (by kernel_rfl) (by kernel_rfl) (fun _ _ _ h => h) (Or.inl ⟨by rfl, fun wx hx => by go_simp⟩) HS ?_
    simp only [Act.put, List.setIfInBounds_toArray, List.set_cons_zero, List.set_cons_succ]
    refine wpAnyH_take (i := 15) (oi := { dst := some 86, op := Op.load 25 (Operand.tmp 85), type := 25, pos := _, after := _, guard := some (7, true) }) (v := .slice bo bs.length bcap) rfl (by kernel_rfl) (by kernel_rfl) (by kernel_rfl) (fun _ _ _ h => h) (Or.inl ⟨by rfl, fun wx hx => by have c4 := unhide HCP wx hx; go_simp⟩) HS ?_
    simp only [Act.put, List.setIfInBounds_toArray, List.set_cons_zero, List.set_cons_succ]
    refine wpAnyH_ready (rs := [16]) (by kernel_rfl) (by simp) (AllReadyH.cons (o := { dst := some 87, op := Op.call { callee := Callee.value (Operand.func 14), args := #[Operand.tmp 83, Operand.tmp 86], argTypes := #[25, 25] }, type := 4, pos := _, after := _, guard := some (7, true) }) rfl (fun KK hK => ?_) AllReadyH.nil)
    go_simp
    refine (unhide HEQ _ HS).mono ?_
    rintro e ws2 ⟨rfl, rfl⟩
    refine hK.out _ _ HS (fun _ => ?_)
    clear hK KK
    try simp only [Act.put, List.setIfInBounds_toArray, List.set_cons_zero, List.set_cons_succ]
    refine wpAnyH_take (i := 17) (oi := { dst := some 88, op := Op.pick (Operand.tmp 78) (Operand.tmp 87) (Operand.const (Value.bool false)), type := 4, pos := _, after := _, guard := none }) (v := .bool true) rfl (by kernel_rfl) (by kernel_rfl) (by kernel_rfl) (fun _ _ _ h => h) (Or.inl ⟨by rfl, fun wx hx => by go_simp⟩) HS ?_
    simp only [Act.put, List.setIfInBounds_toArray, List.set_cons_zero, List.set_cons_succ]
    refine wpAnyH_take (i := 18) (oi := { dst := some 89, op := Op.move (Operand.tmp 88), type := 4, pos := _, after := _, guard := none }) (v := .bool true) rfl (by kernel_rfl) (by kernel_rfl) (by kernel_rfl) (fun _ _ _ h => h) (Or.inl ⟨by rfl, fun _ _ => rfl⟩) HS ?_
    simp only [Act.put, List.setIfInBounds_toArray, List.set_cons_zero, List.set_cons_succ]
    refine wpAnyH_take (i := 19) (oi := { dst := some 90, op := Op.move (Operand.tmp 6), type := 25, pos := _, after := _, guard := some (18, true) }) (v := .slice (some ⟨g, 0, none⟩) (bs.length + 1) c7) rfl (by kernel_rfl) (by kernel_rfl) (by kernel_rfl) (fun _ _ _ h => h) (Or.inl ⟨by rfl, fun _ _ => rfl⟩) HS ?_
    simp only [Act.put, List.setIfInBounds_toArray, List.set_cons_zero, List.set_cons_succ]
    refine wpAnyH_take (i := 20) (oi := { dst := some 91, op := Op.move (Operand.tmp 6), type := 25, pos := _, after := _, guard := some (18, true) }) (v := .slice (some ⟨g, 0, none⟩) (bs.length + 1) c7) rfl (by kernel_rfl) (by kernel_rfl) (by kernel_rfl) (fun _ _ _ h => h) (Or.inl ⟨by rfl, fun _ _ => rfl⟩) HS ?_
    simp only [Act.put, List.setIfInBounds_toArray, List.set_cons_zero, List.set_cons_succ]
    refine wpAnyH_take (i := 21) (oi := { dst := some 92, op := Op.call { callee := Callee.builtin Builtin.len, args := #[Operand.tmp 91], argTypes := #[25] }, type := 3, pos := _, after := _, guard := some (18, true) }) (v := .int .i64 ((bs.length + 1 : Nat) : Int)) rfl (by kernel_rfl) (by kernel_rfl) (by kernel_rfl) (fun _ _ _ h => h) (Or.inl ⟨by rfl, fun wx hx => by go_simp⟩) HS ?_
    simp only [Act.put, List.setIfInBounds_toArray, List.set_cons_zero, List.set_cons_succ]
    refine wpAnyH_take (i := 22) (oi := { dst := some 93, op := Op.binOp BinOp.sub 3 (Operand.tmp 92) (Operand.const (Value.int IntKind.i64 1)) 3, type := 3, pos := _, after := _, guard := some (18, true) }) (v := .int .i64 (bs.length : Int)) rfl (by kernel_rfl) (by kernel_rfl) (by kernel_rfl) (fun _ _ _ h => h) (Or.inl ⟨by rfl, fun wx hx => by have hws := unhide HWS; go_simp⟩) HS ?_
    simp only [Act.put, List.setIfInBounds_toArray, List.set_cons_zero, List.set_cons_succ]
    refine wpAnyH_take (i := 23) (oi := { dst := some 94, op := Op.indexAddr 25 (Operand.tmp 90) (Operand.tmp 93), type := 0, pos := _, after := _, guard := some (18, true) }) (v := .pointer (some ⟨g, bs.length, none⟩)) rfl (by kernel_rfl) (by kernel_rfl) (by kernel_rfl) (fun _ _ _ h => h) (Or.inl ⟨by rfl, fun wx hx => by have hnx : ¬ ((bs.length : Int) + 1 ≤ (bs.length : Int)) := (by omega); go_simp⟩) HS ?_
    simp only [Act.put, List.setIfInBounds_toArray, List.set_cons_zero, List.set_cons_succ]
    refine wpAnyH_take (i := 24) (oi := { dst := some 95, op := Op.load 5 (Operand.tmp 94), type := 5, pos := _, after := _, guard := some (18, true) }) (v := .int .u8 7) rfl (by kernel_rfl) (by kernel_rfl) (by kernel_rfl) (fun _ _ _ h => h) (Or.inl ⟨by rfl, fun wx hx => by have c4 := unhide HCO wx hx; go_simp⟩) HS ?_
    simp only [Act.put, List.setIfInBounds_toArray, List.set_cons_zero, List.set_cons_succ]
    refine wpAnyH_take (i := 25) (oi := { dst := some 96, op := Op.binOp BinOp.eql 5 (Operand.tmp 95) (Operand.const (Value.int IntKind.u8 7)) 5, type := 4, pos := _, after := _, guard := some (18, true) }) (v := .bool true) rfl (by kernel_rfl) (by kernel_rfl) (by kernel_rfl) (fun _ _ _ h => h) (Or.inl ⟨by rfl, fun wx hx => by go_simp⟩) HS ?_
    simp only [Act.put, List.setIfInBounds_toArray, List.set_cons_zero, List.set_cons_succ]
    refine wpAnyH_take (i := 26) (oi := { dst := some 97, op := Op.pick (Operand.tmp 89) (Operand.tmp 96) (Operand.const (Value.bool false)), type := 4, pos := _, after := _, guard := none }) (v := .bool true) rfl (by kernel_rfl) (by kernel_rfl) (by kernel_rfl) (fun _ _ _ h => h) (Or.inl ⟨by rfl, fun wx hx => by go_simp⟩) HS ?_
    simp only [Act.put, List.setIfInBounds_toArray, List.set_cons_zero, List.set_cons_succ]
    refine wpAnyH_take (i := 27) (oi := { dst := some 4, op := Op.assign (Operand.tmp 97), type := 4, pos := _, after := _, guard := none }) (v := .bool true) rfl (by kernel_rfl) (by kernel_rfl) (by kernel_rfl) (fun _ _ _ h => h) (Or.inl ⟨by rfl, fun _ _ => rfl⟩) HS ?_
    simp only [Act.put, List.setIfInBounds_toArray, List.set_cons_zero, List.set_cons_succ]
    refine wpAnyH_done (by kernel_rfl) ?_ _
    refine NoPanic.normal ?_
    go_wp2
    go_ret
    exact ⟨rfl, (unhide HX9).trans HS⟩
  · go_simp
    refine hK.out _ _ HS (fun _ => ?_)
    clear hK KK
    try simp only [Act.put, List.setIfInBounds_toArray, List.set_cons_zero, List.set_cons_succ]
    refine wpAnyH_ready (rs := [0]) (by kernel_rfl) (by simp) (AllReadyH.cons (o := { dst := some 71, op := Op.load 24 (Operand.tmp 8), type := 24, pos := _, after := _, guard := none }) rfl (fun KK hK => ?_) AllReadyH.nil)
    go_simp
    refine hK.out _ _ HS (fun _ => ?_)
    clear hK KK
    try simp only [Act.put, List.setIfInBounds_toArray, List.set_cons_zero, List.set_cons_succ]
    refine wpAnyH_ready (rs := [6]) (by kernel_rfl) (by simp) (AllReadyH.cons (o := { dst := some 77, op := Op.call { callee := Callee.value (Operand.func 13), args := #[Operand.tmp 71, Operand.tmp 72, Operand.tmp 73, Operand.tmp 74, Operand.tmp 75, Operand.tmp 76], argTypes := #[24, 24, 24, 24, 32, 32] }, type := 4, pos := _, after := _, guard := none }) rfl (fun KK hK => ?_) AllReadyH.nil)
    go_simp
    refine (unhide HRT).mono ?_
    rintro e ws ⟨rfl, hxs⟩
    clear HS
    have HS := hxs
    clear hxs HRT g0 g1 g2 g3 g4 g5 v0 v1 v2 v3 v4 v5
    refine hK.out _ _ HS (fun _ => ?_)
    clear hK KK
    try simp only [Act.put, List.setIfInBounds_toArray, List.set_cons_zero, List.set_cons_succ]
    refine wpAnyH_take (i := 7) (oi := { dst := some 78, op := Op.move (Operand.tmp 77), type := 4, pos := _, after := _, guard := none }) (v := .bool true) rfl (by kernel_rfl) (by kernel_rfl) (by kernel_rfl) (fun _ _ _ h => h) (Or.inl ⟨by rfl, fun _ _ => rfl⟩) HS ?_
    simp only [Act.put, List.setIfInBounds_toArray, List.set_cons_zero, List.set_cons_succ]
    refine wpAnyH_take (i := 8) (oi := { dst := some 79, op := Op.move (Operand.tmp 6), type := 25, pos := _, after := _, guard := some (7, true) }) (v := .slice (some ⟨g, 0, none⟩) (bs.length + 1) c7) rfl (by kernel_rfl) (by kernel_rfl) (by kernel_rfl) (fun _ _ _ h => h) (Or.inl ⟨by rfl, fun _ _ => rfl⟩) HS ?_
    simp only [Act.put, List.setIfInBounds_toArray, List.set_cons_zero, List.set_cons_succ]
    refine wpAnyH_take (i := 9) (oi := { dst := some 80, op := Op.move (Operand.tmp 6), type := 25, pos := _, after := _, guard := some (7, true) }) (v := .slice (some ⟨g, 0, none⟩) (bs.length + 1) c7) rfl (by kernel_rfl) (by kernel_rfl) (by kernel_rfl) (fun _ _ _ h => h) (Or.inl ⟨by rfl, fun _ _ => rfl⟩) HS ?_
    simp only [Act.put, List.setIfInBounds_toArray, List.set_cons_zero, List.set_cons_succ]
    refine wpAnyH_take (i := 10) (oi := { dst := some 81, op := Op.call { callee := Callee.builtin Builtin.len, args := #[Operand.tmp 80], argTypes := #[25] }, type := 3, pos := _, after := _, guard := some (7, true) }) (v := .int .i64 ((bs.length + 1 : Nat) : Int)) rfl (by kernel_rfl) (by kernel_rfl) (by kernel_rfl) (fun _ _ _ h => h) (Or.inl ⟨by rfl, fun wx hx => by go_simp⟩) HS ?_
    simp only [Act.put, List.setIfInBounds_toArray, List.set_cons_zero, List.set_cons_succ]
    refine wpAnyH_take (i := 11) (oi := { dst := some 82, op := Op.binOp BinOp.sub 3 (Operand.tmp 81) (Operand.const (Value.int IntKind.i64 1)) 3, type := 3, pos := _, after := _, guard := some (7, true) }) (v := .int .i64 (bs.length : Int)) rfl (by kernel_rfl) (by kernel_rfl) (by kernel_rfl) (fun _ _ _ h => h) (Or.inl ⟨by rfl, fun wx hx => by have hws := unhide HWS; go_simp⟩) HS ?_
    simp only [Act.put, List.setIfInBounds_toArray, List.set_cons_zero, List.set_cons_succ]
    refine wpAnyH_take (i := 12) (oi := { dst := some 83, op := Op.slice 25 (Operand.tmp 79) none (some (Operand.tmp 82)) none, type := 25, pos := _, after := _, guard := some (7, true) }) (v := .slice (some ⟨g, 0, none⟩) bs.length c7) rfl (by kernel_rfl) (by kernel_rfl) (by kernel_rfl) (fun _ _ _ h => h) (Or.inl ⟨by rfl, fun wx hx => by have hsl : ¬ c7 < bs.length := (by omega); go_simp⟩) HS ?_
    simp only [Act.put, List.setIfInBounds_toArray, List.set_cons_zero, List.set_cons_succ]
    refine wpAnyH_take (i := 13) (oi := { dst := some 84, op := Op.fieldAddr 29 (Operand.tmp 3) 2, type := 0, pos := _, after := _, guard := some (7, true) }) (v := .pointer (some ⟨W.heap.size + 1, 2, none⟩)) rfl (by kernel_rfl) (by kernel_rfl) (by kernel_rfl) (fun _ _ _ h => h) (Or.inl ⟨by rfl, fun wx hx => by go_simp⟩) HS ?_
    simp only [Act.put, List.setIfInBounds_toArray, List.set_cons_zero, List.set_cons_succ]
    refine wpAnyH_take (i := 14) (oi := { dst := some 85, op := Op.fieldAddr 27 (Operand.tmp 84) 2, type := 0, pos := _, after := _, guard := some (7, true) }) (v := .pointer (some ⟨W.heap.size + 1, 4, none⟩)) rfl (by kernel_rfl) (by kernel_rfl) (by kernel_rfl) (fun _ _ _ h => h) (Or.inl ⟨by rfl, fun wx hx => by go_simp⟩) HS ?_
    simp only [Act.put, List.setIfInBounds_toArray, List.set_cons_zero, List.set_cons_succ]
    refine wpAnyH_take (i := 15) (oi := { dst := some 86, op := Op.load 25 (Operand.tmp 85), type := 25, pos := _, after := _, guard := some (7, true) }) (v := .slice bo bs.length bcap) rfl (by kernel_rfl) (by kernel_rfl) (by kernel_rfl) (fun _ _ _ h => h) (Or.inl ⟨by rfl, fun wx hx => by have c4 := unhide HCP wx hx; go_simp⟩) HS ?_
    simp only [Act.put, List.setIfInBounds_toArray, List.set_cons_zero, List.set_cons_succ]
    refine wpAnyH_ready (rs := [16]) (by kernel_rfl) (by simp) (AllReadyH.cons (o := { dst := some 87, op := Op.call { callee := Callee.value (Operand.func 14), args := #[Operand.tmp 83, Operand.tmp 86], argTypes := #[25, 25] }, type := 4, pos := _, after := _, guard := some (7, true) }) rfl (fun KK hK => ?_) AllReadyH.nil)
    go_simp
    refine (unhide HEQ _ HS).mono ?_
    rintro e ws2 ⟨rfl, rfl⟩
    refine hK.out _ _ HS (fun _ => ?_)
    clear hK KK
    try simp only [Act.put, List.setIfInBounds_toArray, List.set_cons_zero, List.set_cons_succ]
    refine wpAnyH_take (i := 17) (oi := { dst := some 88, op := Op.pick (Operand.tmp 78) (Operand.tmp 87) (Operand.const (Value.bool false)), type := 4, pos := _, after := _, guard := none }) (v := .bool true) rfl (by kernel_rfl) (by kernel_rfl) (by kernel_rfl) (fun _ _ _ h => h) (Or.inl ⟨by rfl, fun wx hx => by go_simp⟩) HS ?_
    simp only [Act.put, List.setIfInBounds_toArray, List.set_cons_zero, List.set_cons_succ]
    refine wpAnyH_take (i := 18) (oi := { dst := some 89, op := Op.move (Operand.tmp 88), type := 4, pos := _, after := _, guard := none }) (v := .bool true) rfl (by kernel_rfl) (by kernel_rfl) (by kernel_rfl) (fun _ _ _ h => h) (Or.inl ⟨by rfl, fun _ _ => rfl⟩) HS ?_
    simp only [Act.put, List.setIfInBounds_toArray, List.set_cons_zero, List.set_cons_succ]
    refine wpAnyH_take (i := 19) (oi := { dst := some 90, op := Op.move (Operand.tmp 6), type := 25, pos := _, after := _, guard := some (18, true) }) (v := .slice (some ⟨g, 0, none⟩) (bs.length + 1) c7) rfl (by kernel_rfl) (by kernel_rfl) (by kernel_rfl) (fun _ _ _ h => h) (Or.inl ⟨by rfl, fun _ _ => rfl⟩) HS ?_
    simp only [Act.put, List.setIfInBounds_toArray, List.set_cons_zero, List.set_cons_succ]
    refine wpAnyH_take (i := 20) (oi := { dst := some 91, op := Op.move (Operand.tmp 6), type := 25, pos := _, after := _, guard := some (18, true) }) (v := .slice (some ⟨g, 0, none⟩) (bs.length + 1) c7) rfl (by kernel_rfl) (by kernel_rfl) (by kernel_rfl) (fun _ _ _ h => h) (Or.inl ⟨by rfl, fun _ _ => rfl⟩) HS ?_
    simp only [Act.put, List.setIfInBounds_toArray, List.set_cons_zero, List.set_cons_succ]
    refine wpAnyH_take (i := 21) (oi := { dst := some 92, op := Op.call { callee := Callee.builtin Builtin.len, args := #[Operand.tmp 91], argTypes := #[25] }, type := 3, pos := _, after := _, guard := some (18, true) }) (v := .int .i64 ((bs.length + 1 : Nat) : Int)) rfl (by kernel_rfl) (by kernel_rfl) (by kernel_rfl) (fun _ _ _ h => h) (Or.inl ⟨by rfl, fun wx hx => by go_simp⟩) HS ?_
    simp only [Act.put, List.setIfInBounds_toArray, List.set_cons_zero, List.set_cons_succ]
    refine wpAnyH_take (i := 22) (oi := { dst := some 93, op := Op.binOp BinOp.sub 3 (Operand.tmp 92) (Operand.const (Value.int IntKind.i64 1)) 3, type := 3, pos := _, after := _, guard := some (18, true) }) (v := .int .i64 (bs.length : Int)) rfl (by kernel_rfl) (by kernel_rfl) (by kernel_rfl) (fun _ _ _ h => h) (Or.inl ⟨by rfl, fun wx hx => by have hws := unhide HWS; go_simp⟩) HS ?_
    simp only [Act.put, List.setIfInBounds_toArray, List.set_cons_zero, List.set_cons_succ]
    refine wpAnyH_take (i := 23) (oi := { dst := some 94, op := Op.indexAddr 25 (Operand.tmp 90) (Operand.tmp 93), type := 0, pos := _, after := _, guard := some (18, true) }) (v := .pointer (some ⟨g, bs.length, none⟩)) rfl (by kernel_rfl) (by kernel_rfl) (by kernel_rfl) (fun _ _ _ h => h) (Or.inl ⟨by rfl, fun wx hx => by have hnx : ¬ ((bs.length : Int) + 1 ≤ (bs.length : Int)) := (by omega); go_simp⟩) HS ?_
    simp only [Act.put, List.setIfInBounds_toArray, List.set_cons_zero, List.set_cons_succ]
    refine wpAnyH_take (i := 24) (oi := { dst := some 95, op := Op.load 5 (Operand.tmp 94), type := 5, pos := _, after := _, guard := some (18, true) }) (v := .int .u8 7) rfl (by kernel_rfl) (by kernel_rfl) (by kernel_rfl) (fun _ _ _ h => h) (Or.inl ⟨by rfl, fun wx hx => by have c4 := unhide HCO wx hx; go_simp⟩) HS ?_
    simp only [Act.put, List.setIfInBounds_toArray, List.set_cons_zero, List.set_cons_succ]
    refine wpAnyH_take (i := 25) (oi := { dst := some 96, op := Op.binOp BinOp.eql 5 (Operand.tmp 95) (Operand.const (Value.int IntKind.u8 7)) 5, type := 4, pos := _, after := _, guard := some (18, true) }) (v := .bool true) rfl (by kernel_rfl) (by kernel_rfl) (by kernel_rfl) (fun _ _ _ h => h) (Or.inl ⟨by rfl, fun wx hx => by go_simp⟩) HS ?_
    simp only [Act.put, List.setIfInBounds_toArray, List.set_cons_zero, List.set_cons_succ]
    refine wpAnyH_take (i := 26) (oi := { dst := some 97, op := Op.pick (Operand.tmp 89) (Operand.tmp 96) (Operand.const (Value.bool false)), type := 4, pos := _, after := _, guard := none }) (v := .bool true) rfl (by kernel_rfl) (by kernel_rfl) (by kernel_rfl) (fun _ _ _ h => h) (Or.inl ⟨by rfl, fun wx hx => by go_simp⟩) HS ?_
    simp only [Act.put, List.setIfInBounds_toArray, List.set_cons_zero, List.set_cons_succ]
    refine wpAnyH_take (i := 27) (oi := { dst := some 4, op := Op.assign (Operand.tmp 97), type := 4, pos := _, after := _, guard := none }) (v := .bool true) rfl (by kernel_rfl) (by kernel_rfl) (by kernel_rfl) (fun _ _ _ h => h) (Or.inl ⟨by rfl, fun _ _ => rfl⟩) HS ?_
    simp only [Act.put, List.setIfInBounds_toArray, List.set_cons_zero, List.set_cons_succ]
    refine wpAnyH_done (by kernel_rfl) ?_ _
    refine NoPanic.normal ?_
    go_wp2
    go_ret
    exact ⟨rfl, (unhide HX9).trans HS⟩

set_option maxRecDepth 10000
theorem puts_owes (H : Type) (enc : TypeId × Value → H) (W : World) (base : Nat) (args : Array Value) (ds : List (DataW H)) (p : List MemPlace) : Owes H enc Try.prog 3 Try.f3 Rows.imagePutsSpec W base args ds p := by
  intro hval hA hsz
  rw [Try.params3] at hA hval hsz
  obtain ⟨v0, vs0, d0, ds0, p0, q0, hargs, rfl, rfl, h0, r0⟩ := trodAll_cons hA
  obtain ⟨v1, vs1, d1, ds1, p1, q1, rfl, rfl, rfl, h1, r1⟩ := trodAll_cons r0
  obtain ⟨rfl, rfl, rfl⟩ := trodAll_nil r1
  obtain rfl : args = #[v0, v1] := by cases args; simp_all
  obtain ⟨I, u0, L0, rfl, hI⟩ := open_img (hval 0 24 v0 rfl rfl) h0 (Wgt.arg (j := 0) hsz rfl rfl)
  obtain ⟨lv, f, q, rfl, hq⟩ := open_put (hval 1 29 v1 rfl rfl) h1 (Wgt.arg (j := 1) hsz rfl rfl)
  exact ⟨⟨rfl, rfl, rfl⟩, puts_walk hI lv f q.1 q.2.1 q.2.2.1 q.2.2.2 hq.1 hq.2.1 hq.2.2.1⟩

set_option maxRecDepth 100000 in
theorem puts_lifted (os : Os) (started : os.Started) (H : Type) (enc : TypeId × Value → H) :
    ReturnsInHanded {} Try.checked os 3 .any (Rows.imagePutsSpec.pre6 enc Try.prog Try.f3 [] false) (Rows.imagePutsSpec.post enc Try.prog Try.f3 false true false false) :=
  lift_law (C := Try.checked) own laidOut started (by kernel_rfl) Try.func3 (T := 4) rfl Try.underlying4 rfl (by kernel_rfl)
    (ChangeSpec.witness6 (enc := enc) (C := Try.checked) false ⟨#[], #[.agg #[.int .i64 0, .slice none 0 0, .int .i64 0, .int .i64 0, .int .i64 0, .int .i64 0], .agg #[.int .i64 0, .int .i64 0, .int .i64 0, .int .i64 0, .slice none 0 0]], []⟩ 8 (by kernel_rfl) (by kernel_rfl) (by kernel_rfl) (by kernel_rfl)) (puts_owes H enc)

theorem imagePuts_holds : Rows.ImagePutsSaid :=
  OpenClaim.holds_of_wide 3 Try.f3 rfl rfl rfl rfl rfl rfl rfl ⟨rfl, rfl, rfl, rfl, rfl⟩ rfl rfl rfl rfl rfl (by kernel_rfl) Try.func3 (by kernel_rfl)
    (of_decide_eq_true (by kernel_rfl)) (by unfold Func.isWrapper; rw [if_neg (of_decide_eq_false (by kernel_rfl))]; exact ⟨rfl, rfl⟩)
    (fun os started H enc _ => puts_lifted os started H enc)
#print axioms imagePuts_holds
end Go.Proofs.Ytepieneefjhbkaa
