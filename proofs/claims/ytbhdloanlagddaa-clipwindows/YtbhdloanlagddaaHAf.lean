/-
  Corners: the walk of between. What the dump lacks is left out.
-/
import Derived.Test.YtbhdloanlagddaaHAd
import Derived.Deep.DeepCutAuto
import Derived.Test.YtbhdloanlagddaaUZs
import Derived.Deep.RegionHeld3
import Derived.BigQuiet
namespace Go.Proofs.Ytbhdloanlagddaa
open Go.RowKit
set_option linter.unusedVariables false
set_option linter.unusedSimpArgs false

theorem mixS_any (a b t : Int) (w : World) (Ia : I32 a) (Ib : I32 b) (It : I32 t) :
    Calls Try.prog 58 #[.agg #[.int .i32 a, .int .i32 0, .int .i32 0, .int .i32 0], .agg #[.int .i32 b, .int .i32 0, .int .i32 0, .int .i32 0], .int .i32 t] w fun e w' => ∃ y1 y2 y3 : Int, e = .returned (.agg #[.int .i32 (mxI a b t), .int .i32 y1, .int .i32 y2, .int .i32 y3]) ∧ Ext w w' := by
  have z : I32 0 := by unfold I32; omega
  refine (mixC_any (fun i => if i = 0 then a else 0) (fun i => if i = 0 then b else 0) t w (fun i => by show I32 (if i = 0 then a else 0); split; exact Ia; exact z) (fun i => by show I32 (if i = 0 then b else 0); split; exact Ib; exact z) It).mono ?_
  rintro e w' ⟨rfl, hx⟩
  exact ⟨_, _, _, rfl, hx⟩
/-- One more vector, appended to a row of the call's own. -/
theorem push_vec {W W1 : World} {base : Nat} {L : List (Nat → Int)} {v : Value} {y : Nat → Int} {g : Nat} (hO : OV W base v L) (hx : Ext W W1) (hB : Blk W1 g #[.int .i32 (y 0), .int .i32 (y 1), .int .i32 (y 2), .int .i32 (y 3)] 26) (hl : L.length ≤ 1000000) (hbase : base ≤ W1.heap.size) :
    ∃ ao2 cap2 w9, (Builtin.append_ #[27, 27] 27 #[v, .slice (some ⟨g, 0, none⟩) 1 1]).run Try.prog W1 = .ok (.slice ao2 (L.length + 1) cap2) w9 ∧ OV w9 base (.slice ao2 (L.length + 1) cap2) (L ++ [y]) ∧ W1.grownBy w9 v.ownBlock ∧ (∀ b, (Value.slice ao2 (L.length + 1) cap2).ownBlock = some b → v.ownBlock = some b ∨ W1.heap.size ≤ b) := by
  have hS : SR vEnc 4 W1 (.slice (some ⟨g, 0, none⟩) [y].length [y].length) [y] := SR.ofBlk (t := 26) vEnc_len hB (by unfold maxLen; simp)
  obtain ⟨ao2, cap2, N, w9, hN, hrun, r1, r2, r3⟩ := run_append_GL (P := Try.prog) (t := 27) 27 infoVc Try.underlying27 rfl (by decide) (by decide) base v L [y] (GO.ext hO hx) _ hS (by simp) vEnc_len (fun x _ => vEnc_one1 x) (by simp; omega) hbase
  subst hN
  rw [List.length_append, List.length_singleton] at hrun r1 r3
  exact ⟨ao2, cap2, w9, hrun, r1, r2, r3⟩
theorem clB_flds (p q : Vt) (n : Int) : (clB p q n).p = clM p.p q.p (clT p.p q.p n) ∧ (clB p q n).s = mxI p.s q.s (clT p.p q.p n) ∧ (clB p q n).vs = clV p.vs q.vs (clT p.p q.p n) p.vs.length := ⟨rfl, rfl, rfl⟩
theorem getD_nul (L : List (Nat → Int)) (k : Nat) (h : k < L.length) : L.getD k nul = L[k] := by simp [h]

theorem ixV0 (a0 a1 a2 a3 : Int) (w : World) : (Instr.index 26 (.agg #[.int .i32 a0, .int .i32 a1, .int .i32 a2, .int .i32 a3]) (.int .i64 0)).run Try.prog w = .ok (.int .i32 a0) w := by kernel_rfl

set_option maxRecDepth 10000 in
set_option maxHeartbeats 8000000 in
theorem betC_any (p q : Vt) (u1 u2 : Value) (n : Int) (w : World) (h1 : VQ w u1 p.vs) (h2 : VQ w u2 q.vs) (hl : q.vs.length = p.vs.length) (hm : p.vs.length ≤ 1000) (I1 : Vt32 p) (I2 : Vt32 q) :
    Calls Try.prog 45 #[.agg #[.int .i32 (Vt.p p 0), .int .i32 (Vt.p p 1), .int .i32 (Vt.p p 2), .int .i32 (Vt.p p 3), .int .i32 (Vt.s p), u1], .agg #[.int .i32 (Vt.p q 0), .int .i32 (Vt.p q 1), .int .i32 (Vt.p q 2), .int .i32 (Vt.p q 3), .int .i32 (Vt.s q), u2], .int .i64 n] w fun e w' => ∃ u', e = .returned (.agg #[.int .i32 (Vt.p (clB p q n) 0), .int .i32 (Vt.p (clB p q n) 1), .int .i32 (Vt.p (clB p q n) 2), .int .i32 (Vt.p (clB p q n) 3), .int .i32 (Vt.s (clB p q n)), u']) ∧ ClQ w (clB p q n).vs u' w' := by
  obtain ⟨ao1, cap1, rfl, _⟩ := id h1
  obtain ⟨ao2, cap2, rfl, _⟩ := id h2
  rw [(clB_flds p q n).1, (clB_flds p q n).2.1, (clB_flds p q n).2.2]
  rw [hl] at h2 ⊢
  have hcp := fun h0 : 0 < p.vs.length => SR.all h1 h0
  have hcq := fun h0 : 0 < p.vs.length => SR.all h2 (by omega)
  obtain ⟨m, hme⟩ : ∃ m, m = p.vs.length := ⟨_, rfl⟩
  have hmq : m = q.vs.length := by omega
  rw [← hme] at h1 h2 hm ⊢
  have HM := hide (And.intro hme hmq)
  have HCP := hide hcp
  have HCQ := hide hcq
  have h4 := And.intro I1 I2
  have HI := hide h4
  clear hcp hcq h1 h2 I1 I2 h4 hl hme hmq
  have hP : Blk (((w.alloc (.cells #[.int .i32 (Vt.p p 0), .int .i32 (Vt.p p 1), .int .i32 (Vt.p p 2), .int .i32 (Vt.p p 3), .int .i32 (Vt.s p), .slice ao1 m cap1] 29)).alloc (.cells #[.int .i32 (Vt.p q 0), .int .i32 (Vt.p q 1), .int .i32 (Vt.p q 2), .int .i32 (Vt.p q 3), .int .i32 (Vt.s q), .slice ao2 m cap2] 29)).alloc (.cells #[.int .i32 0, .int .i32 0, .int .i32 0, .int .i32 0, .int .i32 0, .slice none 0 0] 29)) w.heap.size #[.int .i32 (Vt.p p 0), .int .i32 (Vt.p p 1), .int .i32 (Vt.p p 2), .int .i32 (Vt.p p 3), .int .i32 (Vt.s p), .slice ao1 m cap1] 29 := ((Blk.new _ _ _).alloc _).alloc _
  have hQ : Blk (((w.alloc (.cells #[.int .i32 (Vt.p p 0), .int .i32 (Vt.p p 1), .int .i32 (Vt.p p 2), .int .i32 (Vt.p p 3), .int .i32 (Vt.s p), .slice ao1 m cap1] 29)).alloc (.cells #[.int .i32 (Vt.p q 0), .int .i32 (Vt.p q 1), .int .i32 (Vt.p q 2), .int .i32 (Vt.p q 3), .int .i32 (Vt.s q), .slice ao2 m cap2] 29)).alloc (.cells #[.int .i32 0, .int .i32 0, .int .i32 0, .int .i32 0, .int .i32 0, .slice none 0 0] 29)) (w.heap.size + 1) #[.int .i32 (Vt.p q 0), .int .i32 (Vt.p q 1), .int .i32 (Vt.p q 2), .int .i32 (Vt.p q 3), .int .i32 (Vt.s q), .slice ao2 m cap2] 29 := (Blk.at (by simp)).alloc _
  have hZ : Blk (((w.alloc (.cells #[.int .i32 (Vt.p p 0), .int .i32 (Vt.p p 1), .int .i32 (Vt.p p 2), .int .i32 (Vt.p p 3), .int .i32 (Vt.s p), .slice ao1 m cap1] 29)).alloc (.cells #[.int .i32 (Vt.p q 0), .int .i32 (Vt.p q 1), .int .i32 (Vt.p q 2), .int .i32 (Vt.p q 3), .int .i32 (Vt.s q), .slice ao2 m cap2] 29)).alloc (.cells #[.int .i32 0, .int .i32 0, .int .i32 0, .int .i32 0, .int .i32 0, .slice none 0 0] 29)) (w.heap.size + 1 + 1) #[.int .i32 0, .int .i32 0, .int .i32 0, .int .i32 0, .int .i32 0, .slice none 0 0] 29 := Blk.at (by simp)
  have hX : Ext w (((w.alloc (.cells #[.int .i32 (Vt.p p 0), .int .i32 (Vt.p p 1), .int .i32 (Vt.p p 2), .int .i32 (Vt.p p 3), .int .i32 (Vt.s p), .slice ao1 m cap1] 29)).alloc (.cells #[.int .i32 (Vt.p q 0), .int .i32 (Vt.p q 1), .int .i32 (Vt.p q 2), .int .i32 (Vt.p q 3), .int .i32 (Vt.s q), .slice ao2 m cap2] 29)).alloc (.cells #[.int .i32 0, .int .i32 0, .int .i32 0, .int .i32 0, .int .i32 0, .slice none 0 0] 29)) := (((Ext.refl w).alloc _).alloc _).alloc _
  have hsz : (((w.alloc (.cells #[.int .i32 (Vt.p p 0), .int .i32 (Vt.p p 1), .int .i32 (Vt.p p 2), .int .i32 (Vt.p p 3), .int .i32 (Vt.s p), .slice ao1 m cap1] 29)).alloc (.cells #[.int .i32 (Vt.p q 0), .int .i32 (Vt.p q 1), .int .i32 (Vt.p q 2), .int .i32 (Vt.p q 3), .int .i32 (Vt.s q), .slice ao2 m cap2] 29)).alloc (.cells #[.int .i32 0, .int .i32 0, .int .i32 0, .int .i32 0, .int .i32 0, .slice none 0 0] 29)).heap.size = w.heap.size + 3 := by simp
  have p0 := hP.six
  obtain ⟨W0, hW0⟩ : ∃ W0, W0 = (((w.alloc (.cells #[.int .i32 (Vt.p p 0), .int .i32 (Vt.p p 1), .int .i32 (Vt.p p 2), .int .i32 (Vt.p p 3), .int .i32 (Vt.s p), .slice ao1 m cap1] 29)).alloc (.cells #[.int .i32 (Vt.p q 0), .int .i32 (Vt.p q 1), .int .i32 (Vt.p q 2), .int .i32 (Vt.p q 3), .int .i32 (Vt.s q), .slice ao2 m cap2] 29)).alloc (.cells #[.int .i32 0, .int .i32 0, .int .i32 0, .int .i32 0, .int .i32 0, .slice none 0 0] 29)) := ⟨_, rfl⟩
  rw [← hW0] at hP hQ hZ hX hsz
  have HPC := hide (fun wx (hx : Below (w.heap.size + 3) W0 wx) => show _ from (Blk.six (show Blk wx w.heap.size #[.int .i32 (Vt.p p 0), .int .i32 (Vt.p p 1), .int .i32 (Vt.p p 2), .int .i32 (Vt.p p 3), .int .i32 (Vt.s p), .slice ao1 m cap1] 29 from (hx.block _ (by omega)).trans hP)))
  have HQC := hide (fun wx (hx : Below (w.heap.size + 3) W0 wx) => show _ from (Blk.six (show Blk wx (w.heap.size + 1) #[.int .i32 (Vt.p q 0), .int .i32 (Vt.p q 1), .int .i32 (Vt.p q 2), .int .i32 (Vt.p q 3), .int .i32 (Vt.s q), .slice ao2 m cap2] 29 from (hx.block _ (by omega)).trans hQ)))
  have HZB := hide (fun wx (hx : Below (w.heap.size + 3) W0 wx) => show Blk wx (w.heap.size + 1 + 1) #[.int .i32 0, .int .i32 0, .int .i32 0, .int .i32 0, .int .i32 0, .slice none 0 0] 29 from (hx.block _ (by omega)).trans hZ)
  have HPQ1 := hide (fun wx (hx : Below (w.heap.size + 2) W0 wx) => (show Blk wx w.heap.size #[.int .i32 (Vt.p p 0), .int .i32 (Vt.p p 1), .int .i32 (Vt.p p 2), .int .i32 (Vt.p p 3), .int .i32 (Vt.s p), .slice ao1 m cap1] 29 from (hx.block _ (by omega)).trans hP).cell (i := 5) rfl)
  have HPQ2 := hide (fun wx (hx : Below (w.heap.size + 2) W0 wx) => (show Blk wx (w.heap.size + 1) #[.int .i32 (Vt.p q 0), .int .i32 (Vt.p q 1), .int .i32 (Vt.p q 2), .int .i32 (Vt.p q 3), .int .i32 (Vt.s q), .slice ao2 m cap2] 29 from (hx.block _ (by omega)).trans hQ).cell (i := 5) rfl)
  have HX := hide (And.intro hX hsz)
  have HD1 := hide (fun wx => dist_any p (.slice ao1 m cap1) n wx (unhide HI).1.1)
  have HD2 := hide (fun wx => dist_any q (.slice ao2 m cap2) n wx (unhide HI).2.1)
  obtain ⟨t, ht⟩ : ∃ t, t = clT p.p q.p n := ⟨_, rfl⟩
  have HT := hide (And.intro ht (show I32 t by rw [ht]; exact clT_i32 _ _ _))
  rw [← ht]
  obtain ⟨g0, g1, g2, g3, g4, g5⟩ := p0
  clear ht hP hQ hZ hX hsz
  go_enter Try.func45, Try.ntmps45
  go_wp2_with fail
  refine (unhide HD1 _).mono ?_
  rintro e w1 ⟨rfl, hx1⟩
  rw [← hW0] at hx1
  have B1 := hide (show Below (w.heap.size + 3) W0 w1 from Below.mono hx1 (Nat.le_of_eq (unhide HX).2.symm))
  clear g0 g1 g2 g3 g4 g5 hx1 hW0
  obtain ⟨q0, q1, q2, q3, q4, q5⟩ := unhide HQC _ (unhide B1)
  go_wp2_with fail
  refine (unhide HD2 _).mono ?_
  rintro e w2 ⟨rfl, hx2⟩
  have B2 := hide (show Below (w.heap.size + 3) W0 w2 from (unhide B1).trans (Below.mono hx2 (by have := (unhide B1).size; have := (unhide HX).2; omega)))
  clear q0 q1 q2 q3 q4 q5 hx2
  go_upto_region 4 with (first
    | (go_at_call 37; refine (sub_any _ _ _ (clD_i32 _) (clD_i32 _)).mono ?_; rintro e w' ⟨rfl, hw'⟩; obtain rfl := hw'.symm)
    | (go_at_call 57; refine (div_any _ _ _ (clD_i32 _) (subI_i32 _ _)).mono ?_; rintro e w' ⟨rfl, hw'⟩; obtain rfl := hw'.symm))
  rw [show divI (clD p.p n) (subI (clD p.p n) (clD q.p n)) = t from (unhide HT).1.symm]
  have hs2 : w.heap.size + 3 ≤ w2.heap.size := by have h1 := (unhide B2).size; have h2 := (unhide HX).2; omega
  have k0 := fun wx (hx : Ext w2 wx) => unhide HPC wx ((unhide B2).trans (Below.mono hx hs2))
  have k1 := fun wx (hx : Ext w2 wx) => unhide HQC wx ((unhide B2).trans (Below.mono hx hs2))
  have HKK := hide (fun wx hx => And.intro (k0 wx hx) (k1 wx hx))
  clear k0 k1
  go_cut [12] (fun c wc => ∃ bc, c = .pointer (some ⟨bc, 0, none⟩) ∧ w2.heap.size ≤ bc ∧ Blk wc bc #[.int .i32 (clM p.p q.p t 0), .int .i32 (clM p.p q.p t 1), .int .i32 (clM p.p q.p t 2), .int .i32 (clM p.p q.p t 3), .int .i32 (mxI p.s q.s t), .slice none 0 0] 29 ∧ Ext w2 wc)
  case first =>
    have HIT := hide (And.intro (unhide HI) (unhide HT).2)
    have HZ0 := hide (show w2.heap.size ≤ w2.heap.size from Nat.le_refl _)
    have hix := fun a0 a1 a2 a3 wx => ixV0 a0 a1 a2 a3 wx
    have k0 : ∀ wx, Ext w2 wx → wx.cell? ⟨w.heap.size, 0, none⟩ = some (.int .i32 (Vt.p p 0)) := fun wx hx => (unhide HKK wx hx).1.1
    have k1 : ∀ wx, Ext w2 wx → wx.cell? ⟨w.heap.size, 1, none⟩ = some (.int .i32 (Vt.p p 1)) := fun wx hx => (unhide HKK wx hx).1.2.1
    have k2 : ∀ wx, Ext w2 wx → wx.cell? ⟨w.heap.size, 2, none⟩ = some (.int .i32 (Vt.p p 2)) := fun wx hx => (unhide HKK wx hx).1.2.2.1
    have k3 : ∀ wx, Ext w2 wx → wx.cell? ⟨w.heap.size, 3, none⟩ = some (.int .i32 (Vt.p p 3)) := fun wx hx => (unhide HKK wx hx).1.2.2.2.1
    have k4 : ∀ wx, Ext w2 wx → wx.cell? ⟨w.heap.size, 4, none⟩ = some (.int .i32 (Vt.s p)) := fun wx hx => (unhide HKK wx hx).1.2.2.2.2.1
    have k5 : ∀ wx, Ext w2 wx → wx.cell? ⟨w.heap.size + 1, 0, none⟩ = some (.int .i32 (Vt.p q 0)) := fun wx hx => (unhide HKK wx hx).2.1
    have k6 : ∀ wx, Ext w2 wx → wx.cell? ⟨w.heap.size + 1, 1, none⟩ = some (.int .i32 (Vt.p q 1)) := fun wx hx => (unhide HKK wx hx).2.2.1
    have k7 : ∀ wx, Ext w2 wx → wx.cell? ⟨w.heap.size + 1, 2, none⟩ = some (.int .i32 (Vt.p q 2)) := fun wx hx => (unhide HKK wx hx).2.2.2.1
    have k8 : ∀ wx, Ext w2 wx → wx.cell? ⟨w.heap.size + 1, 3, none⟩ = some (.int .i32 (Vt.p q 3)) := fun wx hx => (unhide HKK wx hx).2.2.2.2.1
    have k9 : ∀ wx, Ext w2 wx → wx.cell? ⟨w.heap.size + 1, 4, none⟩ = some (.int .i32 (Vt.s q)) := fun wx hx => (unhide HKK wx hx).2.2.2.2.2.1
    clear HD1 HD2 HCP HCQ HM HPC HQC HZB
    go_region_held3 (fun wx => Ext w2 wx)
      (first | with_reducible exact unhide E6 | with_reducible exact unhide E5 | with_reducible exact (Ext.refl w2).drew | with_reducible exact ((Ext.refl w2).alloc _).drew | with_reducible exact (unhide E5).alloc _ | with_reducible exact (unhide E6).alloc _ | with_reducible exact ext_lay6 (unhide E6) (unhide HZ0) | with_reducible exact ext_lay6 (unhide E6) (unhide HZ5))
      (first
        | (go_at_call_of 58 (Value.int IntKind.i32 (p.p 0)); refine (mixC_any p.p q.p t _ (unhide HIT).1.1.1 (unhide HIT).1.2.1 (unhide HIT).2).mono ?_; rintro e w5 ⟨rfl, hx5⟩; have E5 := hide ((by assumption : Ext w2 _).trans hx5); have HZ5 := hide (Below.size ((by assumption : Ext w2 _).trans hx5)); (try have F1 := hide (show Blk w5 w2.heap.size #[.int .i32 0, .int .i32 0, .int .i32 0, .int .i32 0, .int .i32 0, .slice none 0 0] 29 by with_reducible exact Blk.ext (Blk.ext (Blk.new w2 #[.int .i32 0, .int .i32 0, .int .i32 0, .int .i32 0, .int .i32 0, .slice none 0 0] 29) ((Ext.refl _).drew)) hx5)); clear hx5)
        | (go_at_call 58; refine (mixS_any p.s q.s t _ (unhide HIT).1.1.2.1 (unhide HIT).1.2.2.1 (unhide HIT).2).mono ?_; rintro e w6 ⟨y1, y2, y3, rfl, hx6⟩; have E6 := hide ((by assumption : Ext w2 _).trans hx6); (try have F2 := hide (show Blk w6 w2.heap.size #[.int .i32 0, .int .i32 0, .int .i32 0, .int .i32 0, .int .i32 0, .slice none 0 0] 29 by with_reducible exact Blk.ext (unhide F1) hx6)); (try have F2 := hide (show Blk w6 w5.heap.size #[.int .i32 0, .int .i32 0, .int .i32 0, .int .i32 0, .int .i32 0, .slice none 0 0] 29 by with_reducible exact Blk.ext (Blk.new w5 #[.int .i32 0, .int .i32 0, .int .i32 0, .int .i32 0, .int .i32 0, .slice none 0 0] 29) hx6)); (try (obtain ⟨r0, r1, r2, r3, r4, r5⟩ := (unhide F2).six; obtain ⟨f0, f1, f2, f3, f4, f5⟩ := (unhide F2).free6)); clear hx6))
    all_goals clear k0 k1 k2 k3 k4 k5 k6 k7 k8 k9 hix HI HX HT HKK
    all_goals go_wp2
    all_goals go_meet
    all_goals first
      | exact ⟨_, rfl, Below.size (unhide E6), Blk.new _ _ _, (unhide E6).alloc _⟩
      | exact ⟨_, rfl, unhide HZ5, (unhide F2).lay6 _ _ _ _ _ _, ext_lay6 (unhide E6) (unhide HZ5)⟩
      | exact ⟨_, rfl, unhide HZ0, (unhide F2).lay6 _ _ _ _ _ _, ext_lay6 (unhide E6) (unhide HZ0)⟩
  case rest =>
    obtain ⟨bc, rfl, hbc, hB, hX3⟩ := hcut
    rename_i wc
    have B3 := hide (show Below (w.heap.size + 3) W0 wc from (unhide B2).trans (Below.mono hX3 hs2))
    have HBC := hide (show w.heap.size + 3 ≤ bc by omega)
    have HB := hide hB
    have HIT := hide (And.intro (unhide HI) (unhide HT).2)
    have HLT := hide (show bc < wc.heap.size from hB.lt)
    clear hB hX3 hbc hs2 HKK HD1 HD2 B1 B2
    generalize hcm : clM p.p q.p t = M at *
    generalize hcn : mxI p.s q.s t = N at *
    have HCM := hide (And.intro hcm hcn)
    clear hcm hcn
    obtain ⟨p0, p1, p2, p3, p4, p5⟩ := unhide HPC _ (unhide B3)
    go_wp2_with fail
    clear p0 p1 p2 p3 p4 p5
    go_loopw [50] (fun iv wr => ∃ (k : Nat) (vo : Option Addr) (vc : Nat), k ≤ m ∧ iv = .int .i64 (k : Int) ∧ Blk wr bc #[.int .i32 (M 0), .int .i32 (M 1), .int .i32 (M 2), .int .i32 (M 3), .int .i32 N, .slice vo k vc] 29 ∧ OV wr (w.heap.size + 3) (.slice vo k vc) (clV p.vs q.vs t k) ∧ Below (w.heap.size + 3) W0 wr ∧ (∀ b, (Value.slice vo k vc).ownBlock = some b → b ≠ bc)) (fun iv _ => m - (intOf iv).toNat)
    case atStart => exact ⟨0, none, 0, Nat.zero_le _, rfl, unhide HB, GO.nil _ _, unhide B3, fun b h => by cases h⟩
    case round =>
      clear HB B3 HLT
      obtain ⟨k, vo, vc, hk, rfl, hB, hO, hW, hne⟩ := hrel
      have D := hide (And.intro hB (And.intro hO (And.intro hW hne)))
      clear hB hO hW hne
      by_cases hlt : k < m
      · have hkn : (k : Int) < (m : Int) := by omega
        have hk1 : k < p.vs.length := by have := (unhide HM).1; omega
        have hk2 : k < q.vs.length := by have := (unhide HM).2; omega
        obtain ⟨bp, fp, rfl, hcp⟩ := unhide HCP (by omega)
        obtain ⟨bq, fq, rfl, hcq⟩ := unhide HCQ (by omega)
        have HW := hide (fun wx (hx : Below (w.heap.size + 2) W0 wx) => show Ext w wx from Below.trans (show Below w.heap.size w W0 from (unhide HX).1) (Below.mono hx (Nat.le_add_right _ _)))
        have hp := fun wx hx j u => hcp k hk1 wx (unhide HW wx hx) j u
        have hq := fun wx hx j u => hcq k hk2 wx (unhide HW wx hx) j u
        have HS1 := hide (show clV p.vs q.vs t (k + 1) = clV p.vs q.vs t k ++ [clM p.vs[k] q.vs[k] t] by rw [clV_succ, getD_nul _ _ hk1, getD_nul _ _ hk2])
        have HV := hide (And.intro (fun j => (unhide HIT).1.1.2.2 _ (List.getElem_mem hk1) j) (fun j => (unhide HIT).1.2.2.2 _ (List.getElem_mem hk2) j))
        generalize p.vs[k] = x at *
        generalize q.vs[k] = z at *
        have hb5 := hide (show ∀ wx, Below (w.heap.size + 2) W0 wx → Ext w wx from unhide HW)
        have kp0 : ∀ wx, Below (w.heap.size + 2) W0 wx → wx.cell? ⟨bp, fp + k * 4, none⟩ = some (.int .i32 (x 0)) := fun wx hx => hp wx hx 0 _ rfl
        have kp1 : ∀ wx, Below (w.heap.size + 2) W0 wx → wx.cell? ⟨bp, fp + k * 4 + 1, none⟩ = some (.int .i32 (x 1)) := fun wx hx => hp wx hx 1 _ rfl
        have kp2 : ∀ wx, Below (w.heap.size + 2) W0 wx → wx.cell? ⟨bp, fp + k * 4 + 2, none⟩ = some (.int .i32 (x 2)) := fun wx hx => hp wx hx 2 _ rfl
        have kp3 : ∀ wx, Below (w.heap.size + 2) W0 wx → wx.cell? ⟨bp, fp + k * 4 + 3, none⟩ = some (.int .i32 (x 3)) := fun wx hx => hp wx hx 3 _ rfl
        have kq0 : ∀ wx, Below (w.heap.size + 2) W0 wx → wx.cell? ⟨bq, fq + k * 4, none⟩ = some (.int .i32 (z 0)) := fun wx hx => hq wx hx 0 _ rfl
        have kq1 : ∀ wx, Below (w.heap.size + 2) W0 wx → wx.cell? ⟨bq, fq + k * 4 + 1, none⟩ = some (.int .i32 (z 1)) := fun wx hx => hq wx hx 1 _ rfl
        have kq2 : ∀ wx, Below (w.heap.size + 2) W0 wx → wx.cell? ⟨bq, fq + k * 4 + 2, none⟩ = some (.int .i32 (z 2)) := fun wx hx => hq wx hx 2 _ rfl
        have kq3 : ∀ wx, Below (w.heap.size + 2) W0 wx → wx.cell? ⟨bq, fq + k * 4 + 3, none⟩ = some (.int .i32 (z 3)) := fun wx hx => hq wx hx 3 _ rfl
        have kp5 : ∀ wx, Below (w.heap.size + 2) W0 wx → wx.cell? ⟨w.heap.size, 5, none⟩ = some (.slice (some ⟨bp, fp, none⟩) m cap1) := unhide HPQ1
        have kq5 : ∀ wx, Below (w.heap.size + 2) W0 wx → wx.cell? ⟨w.heap.size + 1, 5, none⟩ = some (.slice (some ⟨bq, fq, none⟩) m cap2) := unhide HPQ2
        clear hp hq hcp hcq hb5 HW hk1 hk2
        have hy : clM x z t = clM x z t := rfl
        obtain ⟨y, hyy⟩ : ∃ y, clM x z t = y := ⟨_, rfl⟩
        have HMX := hide (fun wx => mixC_any x z t wx (unhide HV).1 (unhide HV).2 (unhide HIT).2)
        rw [hyy] at HMX HS1
        clear hyy hy HV
        have BR := hide (show Below (w.heap.size + 2) W0 wr from Below.mono (unhide D).2.2.1 (by omega))
        have HSZ := hide (show w.heap.size + 3 ≤ wr.heap.size by have h1 := (unhide D).2.2.1.size; have h2 := (unhide HX).2; omega)
        have cc := (unhide D).1.cell (i := 5) rfl
        go_upto_region 8 with fail
        refine wp_region_noPanic ?_
        refine wp_regionL (S := SL 17 17 17 (fun wx => Below (w.heap.size + 2) W0 wx ∧ wx.cell? ⟨bc, 5, none⟩ = some (.slice vo k vc)) (fun wx => Below (w.heap.size + 2) W0 wx ∧ wx.cell? ⟨bc, 5, none⟩ = some (.slice vo k vc)) (fun wx => Below (w.heap.size + 2) W0 wx ∧ wx.cell? ⟨bc, 5, none⟩ = some (.slice vo k vc))) (by kernel_rfl) ?_
        have F6 : Below (w.heap.size + 2) W0 wr.drew ∧ wr.drew.cell? ⟨bc, 5, none⟩ = some (.slice vo k vc) := ⟨(unhide BR).drew, ((unhide D).1.ext ((Ext.refl wr).drew)).cell (i := 5) rfl⟩
        have XD := hide (show Ext wr wr.drew from (Ext.refl wr).drew)
        generalize wr.drew = wd at F6 XD ⊢
        clear cc
        refine wpAnyL_take (fun _ => True) [] (i := 0) (oi := { dst := some 53, op := Op.fieldAddr _ (Operand.tmp 12) 2, type := _, pos := _, after := _, guard := none }) (v := .pointer (some ⟨bc, 5, none⟩)) rfl (by kernel_rfl) (by kernel_rfl) (by kernel_rfl) (by kernel_rfl) (by kernel_rfl) (fun _ _ _ h => h) (SL.ind (by decide) (by decide) (by decide)) (fun _ _ _ _ => trivial) (Or.inl ⟨by rfl, fun _ _ => by first | rfl | go_simp⟩) (SL.all F6 F6 F6) (SL.all F6 F6 F6) ?_
        simp only [Act.put, List.setIfInBounds_toArray, List.set_cons_zero, List.set_cons_succ]
        refine wpAnyL_take (fun wx => Below (w.heap.size + 2) W0 wx ∧ wx.cell? ⟨bc, 5, none⟩ = some (.slice vo k vc)) [17] (i := 1) (oi := { dst := some 54, op := Op.load _ (Operand.tmp 53), type := _, pos := _, after := _, guard := none }) (v := .slice vo k vc) rfl (by kernel_rfl) (by kernel_rfl) (by kernel_rfl) (by kernel_rfl) (by kernel_rfl) (fun _ _ _ h => h) (SL.ind (by decide) (by decide) (by decide)) (SL.get1) (Or.inl ⟨by rfl, fun wx hx => by have h1 := hx.2; clear hx; go_simp⟩) (SL.all F6 F6 F6) (SL.all F6 F6 F6) ?_
        simp only [Act.put, List.setIfInBounds_toArray, List.set_cons_zero, List.set_cons_succ]
        refine wpAnyL_take (fun _ => True) [] (i := 2) (oi := { dst := some 55, op := Op.fieldAddr _ (Operand.tmp 3) 2, type := _, pos := _, after := _, guard := none }) (v := .pointer (some ⟨w.heap.size, 5, none⟩)) rfl (by kernel_rfl) (by kernel_rfl) (by kernel_rfl) (by kernel_rfl) (by kernel_rfl) (fun _ _ _ h => h) (SL.ind (by decide) (by decide) (by decide)) (fun _ _ _ _ => trivial) (Or.inl ⟨by rfl, fun _ _ => by first | rfl | go_simp⟩) (SL.all F6 F6 F6) (SL.all F6 F6 F6) ?_
        simp only [Act.put, List.setIfInBounds_toArray, List.set_cons_zero, List.set_cons_succ]
        refine wpAnyL_take (fun wx => Below (w.heap.size + 2) W0 wx ∧ wx.cell? ⟨bc, 5, none⟩ = some (.slice vo k vc)) [17] (i := 3) (oi := { dst := some 56, op := Op.load _ (Operand.tmp 55), type := _, pos := _, after := _, guard := none }) (v := .slice (some ⟨bp, fp, none⟩) m cap1) rfl (by kernel_rfl) (by kernel_rfl) (by kernel_rfl) (by kernel_rfl) (by kernel_rfl) (fun _ _ _ h => h) (SL.ind (by decide) (by decide) (by decide)) (SL.get1) (Or.inl ⟨by rfl, fun wx hx => by have h1 := kp5 wx hx.1; clear hx; go_simp⟩) (SL.all F6 F6 F6) (SL.all F6 F6 F6) ?_
        simp only [Act.put, List.setIfInBounds_toArray, List.set_cons_zero, List.set_cons_succ]
        refine wpAnyL_take (fun _ => True) [] (i := 4) (oi := { dst := some 57, op := Op.move (Operand.tmp 13), type := _, pos := _, after := _, guard := none }) (v := .int .i64 (k : Int)) rfl (by kernel_rfl) (by kernel_rfl) (by kernel_rfl) (by kernel_rfl) (by kernel_rfl) (fun _ _ _ h => h) (SL.ind (by decide) (by decide) (by decide)) (fun _ _ _ _ => trivial) (Or.inl ⟨by rfl, fun _ _ => by first | rfl | go_simp⟩) (SL.all F6 F6 F6) (SL.all F6 F6 F6) ?_
        simp only [Act.put, List.setIfInBounds_toArray, List.set_cons_zero, List.set_cons_succ]
        refine wpAnyL_take (fun _ => True) [] (i := 5) (oi := { dst := some 58, op := Op.indexAddr _ (Operand.tmp 56) (Operand.tmp 57), type := _, pos := _, after := _, guard := none }) (v := .pointer (some ⟨bp, fp + k * 4, none⟩)) rfl (by kernel_rfl) (by kernel_rfl) (by kernel_rfl) (by kernel_rfl) (by kernel_rfl) (fun _ _ _ h => h) (SL.ind (by decide) (by decide) (by decide)) (fun _ _ _ _ => trivial) (Or.inl ⟨by rfl, fun _ _ => by first | rfl | go_simp⟩) (SL.all F6 F6 F6) (SL.all F6 F6 F6) ?_
        simp only [Act.put, List.setIfInBounds_toArray, List.set_cons_zero, List.set_cons_succ]
        refine wpAnyL_take (fun wx => Below (w.heap.size + 2) W0 wx ∧ wx.cell? ⟨bc, 5, none⟩ = some (.slice vo k vc)) [17] (i := 6) (oi := { dst := some 59, op := Op.load _ (Operand.tmp 58), type := _, pos := _, after := _, guard := none }) (v := .agg #[.int .i32 (x 0), .int .i32 (x 1), .int .i32 (x 2), .int .i32 (x 3)]) rfl (by kernel_rfl) (by kernel_rfl) (by kernel_rfl) (by kernel_rfl) (by kernel_rfl) (fun _ _ _ h => h) (SL.ind (by decide) (by decide) (by decide)) (SL.get1) (Or.inl ⟨by rfl, fun wx hx => by have h1 := kp0 wx hx.1; have h2 := kp1 wx hx.1; have h3 := kp2 wx hx.1; have h4 := kp3 wx hx.1; clear hx; go_simp⟩) (SL.all F6 F6 F6) (SL.all F6 F6 F6) ?_
        simp only [Act.put, List.setIfInBounds_toArray, List.set_cons_zero, List.set_cons_succ]
        refine wpAnyL_take (fun _ => True) [] (i := 7) (oi := { dst := some 60, op := Op.fieldAddr _ (Operand.tmp 4) 2, type := _, pos := _, after := _, guard := none }) (v := .pointer (some ⟨w.heap.size + 1, 5, none⟩)) rfl (by kernel_rfl) (by kernel_rfl) (by kernel_rfl) (by kernel_rfl) (by kernel_rfl) (fun _ _ _ h => h) (SL.ind (by decide) (by decide) (by decide)) (fun _ _ _ _ => trivial) (Or.inl ⟨by rfl, fun _ _ => by first | rfl | go_simp⟩) (SL.all F6 F6 F6) (SL.all F6 F6 F6) ?_
        simp only [Act.put, List.setIfInBounds_toArray, List.set_cons_zero, List.set_cons_succ]
        refine wpAnyL_take (fun wx => Below (w.heap.size + 2) W0 wx ∧ wx.cell? ⟨bc, 5, none⟩ = some (.slice vo k vc)) [17] (i := 8) (oi := { dst := some 61, op := Op.load _ (Operand.tmp 60), type := _, pos := _, after := _, guard := none }) (v := .slice (some ⟨bq, fq, none⟩) m cap2) rfl (by kernel_rfl) (by kernel_rfl) (by kernel_rfl) (by kernel_rfl) (by kernel_rfl) (fun _ _ _ h => h) (SL.ind (by decide) (by decide) (by decide)) (SL.get1) (Or.inl ⟨by rfl, fun wx hx => by have h1 := kq5 wx hx.1; clear hx; go_simp⟩) (SL.all F6 F6 F6) (SL.all F6 F6 F6) ?_
        simp only [Act.put, List.setIfInBounds_toArray, List.set_cons_zero, List.set_cons_succ]
        refine wpAnyL_take (fun _ => True) [] (i := 9) (oi := { dst := some 62, op := Op.move (Operand.tmp 13), type := _, pos := _, after := _, guard := none }) (v := .int .i64 (k : Int)) rfl (by kernel_rfl) (by kernel_rfl) (by kernel_rfl) (by kernel_rfl) (by kernel_rfl) (fun _ _ _ h => h) (SL.ind (by decide) (by decide) (by decide)) (fun _ _ _ _ => trivial) (Or.inl ⟨by rfl, fun _ _ => by first | rfl | go_simp⟩) (SL.all F6 F6 F6) (SL.all F6 F6 F6) ?_
        simp only [Act.put, List.setIfInBounds_toArray, List.set_cons_zero, List.set_cons_succ]
        refine wpAnyL_take (fun _ => True) [] (i := 10) (oi := { dst := some 63, op := Op.indexAddr _ (Operand.tmp 61) (Operand.tmp 62), type := _, pos := _, after := _, guard := none }) (v := .pointer (some ⟨bq, fq + k * 4, none⟩)) rfl (by kernel_rfl) (by kernel_rfl) (by kernel_rfl) (by kernel_rfl) (by kernel_rfl) (fun _ _ _ h => h) (SL.ind (by decide) (by decide) (by decide)) (fun _ _ _ _ => trivial) (Or.inl ⟨by rfl, fun _ _ => by first | rfl | go_simp⟩) (SL.all F6 F6 F6) (SL.all F6 F6 F6) ?_
        simp only [Act.put, List.setIfInBounds_toArray, List.set_cons_zero, List.set_cons_succ]
        refine wpAnyL_take (fun wx => Below (w.heap.size + 2) W0 wx ∧ wx.cell? ⟨bc, 5, none⟩ = some (.slice vo k vc)) [17] (i := 11) (oi := { dst := some 64, op := Op.load _ (Operand.tmp 63), type := _, pos := _, after := _, guard := none }) (v := .agg #[.int .i32 (z 0), .int .i32 (z 1), .int .i32 (z 2), .int .i32 (z 3)]) rfl (by kernel_rfl) (by kernel_rfl) (by kernel_rfl) (by kernel_rfl) (by kernel_rfl) (fun _ _ _ h => h) (SL.ind (by decide) (by decide) (by decide)) (SL.get1) (Or.inl ⟨by rfl, fun wx hx => by have h1 := kq0 wx hx.1; have h2 := kq1 wx hx.1; have h3 := kq2 wx hx.1; have h4 := kq3 wx hx.1; clear hx; go_simp⟩) (SL.all F6 F6 F6) (SL.all F6 F6 F6) ?_
        simp only [Act.put, List.setIfInBounds_toArray, List.set_cons_zero, List.set_cons_succ]
        refine wpAnyL_take (fun _ => True) [] (i := 12) (oi := { dst := some 65, op := Op.move (Operand.tmp 11), type := _, pos := _, after := _, guard := none }) (v := .int .i32 t) rfl (by kernel_rfl) (by kernel_rfl) (by kernel_rfl) (by kernel_rfl) (by kernel_rfl) (fun _ _ _ h => h) (SL.ind (by decide) (by decide) (by decide)) (fun _ _ _ _ => trivial) (Or.inl ⟨by rfl, fun _ _ => by first | rfl | go_simp⟩) (SL.all F6 F6 F6) (SL.all F6 F6 F6) ?_
        simp only [Act.put, List.setIfInBounds_toArray, List.set_cons_zero, List.set_cons_succ]
        clear kp0 kp1 kp2 kp3 kq0 kq1 kq2 kq3 kp5 kq5
        refine wpAnyL_next (i := 13) (o := { dst := some 66, op := Op.call { callee := Callee.value (Operand.func 58), args := #[Operand.tmp 59, Operand.tmp 64, Operand.tmp 65], argTypes := _ }, type := _, pos := _, after := _, guard := none }) (by kernel_rfl) rfl (by rfl) (fun KK hK => ?_)
        go_simp
        refine (unhide HMX _).mono ?_
        rintro e w5 ⟨rfl, hx5⟩
        have X5 := hide ((unhide XD).trans hx5)
        have B5 := hide (show Below (w.heap.size + 2) W0 w5 from (unhide BR).trans (Below.mono (unhide X5) (by have := unhide HSZ; omega)))
        have B5s := hide (show w.heap.size + 2 ≤ w5.heap.size by have h1 := (unhide X5).size; have h2 := unhide HSZ; omega)
        obtain ⟨ao9, cap9, w9, hrun, r1, r2, r3⟩ := push_vec (W1 := w5.alloc (.cells #[.int .i32 (y 0), .int .i32 (y 1), .int .i32 (y 2), .int .i32 (y 3)] 26)) (y := y) (g := w5.heap.size) (unhide D).2.1 ((unhide X5).alloc _) (Blk.new _ _ _) (by rw [clV_len]; omega) (by have h1 := (unhide X5).size; have h2 := unhide HSZ; simp; omega)
        rw [clV_len] at hrun r1 r3
        rw [← unhide HS1] at r1
        have hne : ∀ r, (Value.slice vo k vc).ownBlock = some r → bc ≠ r := fun r hr e => (unhide D).2.2.2 r hr e.symm
        have hb9 : Blk w9 bc #[.int .i32 (M 0), .int .i32 (M 1), .int .i32 (M 2), .int .i32 (M 3), .int .i32 N, .slice vo k vc] 29 := (r2.block bc ((unhide D).1.ext ((unhide X5).alloc _)).lt (fun e => hne bc e.symm rfl)).trans ((unhide D).1.ext ((unhide X5).alloc _))
        have B9 := hide (show Below (w.heap.size + 2) W0 w9 from Below.grown ((unhide B5).alloc (unhide B5s) _) r2 (by have := unhide B5s; simp; omega) (fun r hr => by have := ((unhide D).2.1.lt r hr).1; omega))
        have B93 := hide (show Below (w.heap.size + 3) W0 w9 from Below.grown ((unhide D).2.2.1.trans (Below.mono ((unhide X5).alloc _) (unhide HSZ))) r2 (by have h1 := (unhide X5).size; have h2 := unhide HSZ; simp; omega) (fun r hr => ((unhide D).2.1.lt r hr).1))
        have B9s := hide (show w.heap.size + 2 ≤ w9.heap.size by have h1 := r2.size; have h2 := unhide B5s; simp at h1; omega)
        have B9t := hide (show w.heap.size + 3 ≤ w9.heap.size by have h1 := r2.size; have h2 := (unhide X5).size; have h3 := unhide HSZ; simp at h1; omega)
        have HBC2 := hide (show w.heap.size + 2 ≤ bc by have := unhide HBC; omega)
        have n9 : ∀ b, (Value.slice ao9 (k + 1) cap9).ownBlock = some b → b ≠ bc := fun b hb e => by
          rcases r3 b hb with h | h
          · exact (unhide D).2.2.2 b h e
          · have h1 := (unhide D).1.lt
            have h2 := (unhide X5).size
            simp at h
            omega
        have F7 : Below (w.heap.size + 2) W0 w5 ∧ w5.cell? ⟨bc, 5, none⟩ = some (.slice vo k vc) := ⟨unhide B5, ((unhide D).1.ext (unhide X5)).cell (i := 5) rfl⟩
        have F8 : Below (w.heap.size + 2) W0 (w5.alloc (.cells #[.int .i32 (y 0), .int .i32 (y 1), .int .i32 (y 2), .int .i32 (y 3)] 26)) ∧ (w5.alloc (.cells #[.int .i32 (y 0), .int .i32 (y 1), .int .i32 (y 2), .int .i32 (y 3)] 26)).cell? ⟨bc, 5, none⟩ = some (.slice vo k vc) := ⟨(unhide B5).alloc (unhide B5s) _, (((unhide D).1.ext (unhide X5)).alloc _).cell (i := 5) rfl⟩
        have F9 : Below (w.heap.size + 2) W0 w9 ∧ w9.cell? ⟨bc, 5, none⟩ = some (.slice vo k vc) := ⟨unhide B9, hb9.cell (i := 5) rfl⟩
        have ff9 := hb9.free 5
        have H9 := hide (And.intro r1 (And.intro n9 hb9))
        have HRUN := hide hrun
        clear r1 r2 r3 hne n9 hb9 hrun hx5
        refine unhide hK _ _ (SL.all F7 F7 F7) ?_
        clear hK KK F6 F7
        try simp only [Act.put, List.setIfInBounds_toArray, List.set_cons_zero, List.set_cons_succ]
        refine wpAnyL_next (i := 14) (o := { dst := some 67, op := Op.buildSlice _ _ #[(_, Operand.tmp 66)], type := _, pos := _, after := _, guard := none }) (by kernel_rfl) rfl (by rfl) (fun KK hK => ?_)
        go_simp
        refine unhide hK _ _ (SL.all F8 F8 F8) ?_
        clear hK KK F8
        try simp only [Act.put, List.setIfInBounds_toArray, List.set_cons_zero, List.set_cons_succ]
        refine wpAnyL_next (i := 15) (o := { dst := some 68, op := Op.call { callee := Callee.builtin Builtin.append, args := #[Operand.tmp 54, Operand.tmp 67], argTypes := #[27, 27] }, type := 27, pos := _, after := _, guard := none }) (by kernel_rfl) rfl (by rfl) (fun KK hK => ?_)
        refine wp_runA (.tmp 54) (.tmp 67) 27 rfl rfl rfl (unhide HRUN) ?_
        refine unhide hK _ _ (SL.all F9 F9 F9) ?_
        clear hK KK HRUN
        try simp only [Act.put, List.setIfInBounds_toArray, List.set_cons_zero, List.set_cons_succ]
        refine wpAnyL_take (fun _ => True) [] (i := 16) (oi := { dst := some 69, op := Op.fieldAddr _ (Operand.tmp 12) 2, type := _, pos := _, after := _, guard := none }) (v := .pointer (some ⟨bc, 5, none⟩)) rfl (by kernel_rfl) (by kernel_rfl) (by kernel_rfl) (by kernel_rfl) (by kernel_rfl) (fun _ _ _ h => h) (SL.ind (by decide) (by decide) (by decide)) (fun _ _ _ _ => trivial) (Or.inl ⟨by rfl, fun _ _ => by first | rfl | go_simp⟩) (SL.all F9 F9 F9) (SL.all F9 F9 F9) ?_
        simp only [Act.put, List.setIfInBounds_toArray, List.set_cons_zero, List.set_cons_succ]
        have cc9 := F9.2
        clear F9
        refine wpAnyL_next (i := 17) (o := { dst := none, op := Op.store _ (Operand.tmp 69) (Operand.tmp 68), type := _, pos := _, after := _, guard := none }) (by kernel_rfl) rfl (by rfl) (fun KK hK => ?_)
        go_simp
        refine unhide hK _ _ (SL.mk3 (getD_self _ _) (getD_self _ _) (getD_self _ _)) ?_
        clear hK KK
        try simp only [Act.put, List.setIfInBounds_toArray, List.set_cons_zero, List.set_cons_succ]
        refine wpAnyL_done (by kernel_rfl) ?_ _
        refine NoPanic.normal ?_
        go_wp2
        refine ⟨⟨k + 1, ao9, cap9, by omega, by push_cast; rfl, ?_, ?_, below_grown (unhide B93) (grownBy_set _ _ _ _) (unhide B9t) (unhide HBC), (unhide H9).2.1⟩, by simp [intOf]; omega⟩
        · have := (unhide H9).2.2.set 5 (.slice ao9 (k + 1) cap9)
          simpa using this
        · exact GO.keep (unhide H9).1 (grownBy_set _ _ _ _) (unhide H9).2.1
      · obtain rfl : k = m := by omega
        have hcB := (unhide D).1
        have hsz := (unhide D).2.2.1.size
        have hzB := unhide HZB _ (unhide D).2.2.1
        obtain ⟨c0, c1, c2, c3, c4, c5⟩ := hcB.six
        obtain ⟨r0, r1, r2, r3, r4, r5⟩ := hzB.six
        obtain ⟨f0, f1, f2, f3, f4, f5⟩ := hzB.free6
        have HZ := hide hzB
        clear hcB hzB hsz
        go_wp2
        have hC3 := (unhide HZ).lay6 (.int .i32 (M 0)) (.int .i32 (M 1)) (.int .i32 (M 2)) (.int .i32 (M 3)) (.int .i32 N) (.slice vo k vc)
        obtain ⟨z0, z1, z2, z3, z4, z5⟩ := hC3.six
        unfold set6 at z0 z1 z2 z3 z4 z5
        have hvl : (clV p.vs q.vs t p.vs.length).length = k := by rw [clV_len]; exact (unhide HM).1.symm
        have hvk : clV p.vs q.vs t p.vs.length = clV p.vs q.vs t k := by rw [← (unhide HM).1]
        refine bodyPost_ret (v := .agg #[.int .i32 (M 0), .int .i32 (M 1), .int .i32 (M 2), .int .i32 (M 3), .int .i32 N, .slice vo k vc]) (by simp [results, Try.results45, go_sem, z0, z1, z2, z3, z4, z5]) rfl ⟨.slice vo k vc, by rw [(unhide HCM).1, (unhide HCM).2], ?_, ?_, ⟨vo, vc, by rw [clV_len]⟩, ?_⟩
        · try rw [hvk]
          exact VQ.kept (b := w.heap.size + 1 + 1) ((unhide D).2.1.sr vEnc_len) (fun c hc => by have := ((unhide D).2.1.lt c hc).1; omega)
        · intro b hb
          have := ((unhide D).2.1.lt b hb).1
          omega
        · exact ext_set6 (Below.trans (show Below w.heap.size w W0 from (unhide HX).1) (Below.mono (unhide D).2.2.1 (Nat.le_add_right _ _))) (by omega)
end Go.Proofs.Ytbhdloanlagddaa
