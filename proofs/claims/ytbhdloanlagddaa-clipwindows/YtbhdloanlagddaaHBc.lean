/-
  The document's Window. What the dump lacks is left out.
-/
import Derived.Test.YtbhdloanlagddaaHBa
import Derived.Test.YtbhdloanlagddaaHAh
namespace Go.Proofs.Ytbhdloanlagddaa
open Go.RowKit
set_option linter.unusedVariables false
set_option linter.unusedSimpArgs false

/-- What the document's Window answers. -/
def RwQ (v : Vw) (x : Vt) (u : Value) (w : World) (e : Ending) (w' : World) : Prop := e = .returned (.agg #[.int .i64 (Wn.x (layW v x)), .int .i64 (Wn.y (layW v x)), .int .i32 (Wn.z (layW v x)), .int .i32 (Wn.w (layW v x)), .int .i32 (Wn.s (layW v x)), u]) ∧ Ext w w'
set_option maxRecDepth 10000 in
set_option maxHeartbeats 8000000 in
theorem refWindow_any (v : Vw) (x : Vt) (u : Value) (w : World) (h : VQ w u x.vs) (hv : vwOk v = true) (hI : Vt32 x) :
    Calls Try.prog 27 #[.agg #[.int .i64 (Vw.X v), .int .i64 (Vw.Y v), .int .i64 (Vw.W v), .int .i64 (Vw.H v), .int .i32 (Vw.Nr v), .int .i32 (Vw.Fr v)], .agg #[.int .i32 (Vt.p x 0), .int .i32 (Vt.p x 1), .int .i32 (Vt.p x 2), .int .i32 (Vt.p x 3), .int .i32 (Vt.s x), u]] w (RwQ v x u w) := by
  obtain ⟨ao, cap, hu⟩ : ∃ ao cap, u = .slice ao x.vs.length cap := by
    obtain ⟨ao, cap, e, _⟩ := h
    exact ⟨ao, cap, e⟩
  obtain ⟨m, hm⟩ : ∃ m, x.vs.length = m := ⟨_, rfl⟩
  rw [hm] at hu
  subst hu
  have hvb : 0 ≤ v.X ∧ v.X ≤ 64 ∧ 0 ≤ v.W ∧ v.W ≤ 64 ∧ v.X + v.W ≤ 64 ∧ 0 ≤ v.Y ∧ v.Y ≤ 64 ∧ 0 ≤ v.H ∧ v.H ≤ 64 ∧ v.Y + v.H ≤ 64 ∧ 0 ≤ v.Nr ∧ v.Nr ≤ 65536 ∧ 0 ≤ v.Fr ∧ v.Fr ≤ 65536 := by simpa [vwOk] using hv
  clear h hv
  have hV : Blk ((((w.alloc (.cells #[.int .i64 (Vw.X v), .int .i64 (Vw.Y v), .int .i64 (Vw.W v), .int .i64 (Vw.H v), .int .i32 (Vw.Nr v), .int .i32 (Vw.Fr v)] 24)).alloc (.cells #[.int .i32 (Vt.p x 0), .int .i32 (Vt.p x 1), .int .i32 (Vt.p x 2), .int .i32 (Vt.p x 3), .int .i32 (Vt.s x), .slice ao m cap] 29)).alloc (.cells #[.int .i64 0, .int .i64 0, .int .i32 0, .int .i32 0, .int .i32 0, .slice none 0 0] 44)).alloc (.cells #[.int .i64 0, .int .i64 0, .int .i32 0, .int .i32 (x.p 3), .int .i32 x.s, .slice ao m cap] 44)) w.heap.size #[.int .i64 (Vw.X v), .int .i64 (Vw.Y v), .int .i64 (Vw.W v), .int .i64 (Vw.H v), .int .i32 (Vw.Nr v), .int .i32 (Vw.Fr v)] 24 := (((Blk.new _ _ _).alloc _).alloc _).alloc _
  have hP : Blk ((((w.alloc (.cells #[.int .i64 (Vw.X v), .int .i64 (Vw.Y v), .int .i64 (Vw.W v), .int .i64 (Vw.H v), .int .i32 (Vw.Nr v), .int .i32 (Vw.Fr v)] 24)).alloc (.cells #[.int .i32 (Vt.p x 0), .int .i32 (Vt.p x 1), .int .i32 (Vt.p x 2), .int .i32 (Vt.p x 3), .int .i32 (Vt.s x), .slice ao m cap] 29)).alloc (.cells #[.int .i64 0, .int .i64 0, .int .i32 0, .int .i32 0, .int .i32 0, .slice none 0 0] 44)).alloc (.cells #[.int .i64 0, .int .i64 0, .int .i32 0, .int .i32 (x.p 3), .int .i32 x.s, .slice ao m cap] 44)) (w.heap.size + 1) #[.int .i32 (Vt.p x 0), .int .i32 (Vt.p x 1), .int .i32 (Vt.p x 2), .int .i32 (Vt.p x 3), .int .i32 (Vt.s x), .slice ao m cap] 29 := ((Blk.at (by simp)).alloc _).alloc _
  have hZ : Blk ((((w.alloc (.cells #[.int .i64 (Vw.X v), .int .i64 (Vw.Y v), .int .i64 (Vw.W v), .int .i64 (Vw.H v), .int .i32 (Vw.Nr v), .int .i32 (Vw.Fr v)] 24)).alloc (.cells #[.int .i32 (Vt.p x 0), .int .i32 (Vt.p x 1), .int .i32 (Vt.p x 2), .int .i32 (Vt.p x 3), .int .i32 (Vt.s x), .slice ao m cap] 29)).alloc (.cells #[.int .i64 0, .int .i64 0, .int .i32 0, .int .i32 0, .int .i32 0, .slice none 0 0] 44)).alloc (.cells #[.int .i64 0, .int .i64 0, .int .i32 0, .int .i32 (x.p 3), .int .i32 x.s, .slice ao m cap] 44)) (w.heap.size + 1 + 1) #[.int .i64 0, .int .i64 0, .int .i32 0, .int .i32 0, .int .i32 0, .slice none 0 0] 44 := (Blk.at (by simp)).alloc _
  have hO : Blk ((((w.alloc (.cells #[.int .i64 (Vw.X v), .int .i64 (Vw.Y v), .int .i64 (Vw.W v), .int .i64 (Vw.H v), .int .i32 (Vw.Nr v), .int .i32 (Vw.Fr v)] 24)).alloc (.cells #[.int .i32 (Vt.p x 0), .int .i32 (Vt.p x 1), .int .i32 (Vt.p x 2), .int .i32 (Vt.p x 3), .int .i32 (Vt.s x), .slice ao m cap] 29)).alloc (.cells #[.int .i64 0, .int .i64 0, .int .i32 0, .int .i32 0, .int .i32 0, .slice none 0 0] 44)).alloc (.cells #[.int .i64 0, .int .i64 0, .int .i32 0, .int .i32 (x.p 3), .int .i32 x.s, .slice ao m cap] 44)) (w.heap.size + 1 + 1 + 1) #[.int .i64 0, .int .i64 0, .int .i32 0, .int .i32 (x.p 3), .int .i32 x.s, .slice ao m cap] 44 := Blk.at (by simp)
  have hX : Ext w ((((w.alloc (.cells #[.int .i64 (Vw.X v), .int .i64 (Vw.Y v), .int .i64 (Vw.W v), .int .i64 (Vw.H v), .int .i32 (Vw.Nr v), .int .i32 (Vw.Fr v)] 24)).alloc (.cells #[.int .i32 (Vt.p x 0), .int .i32 (Vt.p x 1), .int .i32 (Vt.p x 2), .int .i32 (Vt.p x 3), .int .i32 (Vt.s x), .slice ao m cap] 29)).alloc (.cells #[.int .i64 0, .int .i64 0, .int .i32 0, .int .i32 0, .int .i32 0, .slice none 0 0] 44)).alloc (.cells #[.int .i64 0, .int .i64 0, .int .i32 0, .int .i32 (x.p 3), .int .i32 x.s, .slice ao m cap] 44)) := ((((Ext.refl w).alloc _).alloc _).alloc _).alloc _
  have hP0 : Blk (((w.alloc (.cells #[.int .i64 (Vw.X v), .int .i64 (Vw.Y v), .int .i64 (Vw.W v), .int .i64 (Vw.H v), .int .i32 (Vw.Nr v), .int .i32 (Vw.Fr v)] 24)).alloc (.cells #[.int .i32 (Vt.p x 0), .int .i32 (Vt.p x 1), .int .i32 (Vt.p x 2), .int .i32 (Vt.p x 3), .int .i32 (Vt.s x), .slice ao m cap] 29)).alloc (.cells #[.int .i64 0, .int .i64 0, .int .i32 0, .int .i32 0, .int .i32 0, .slice none 0 0] 44)) (w.heap.size + 1) #[.int .i32 (Vt.p x 0), .int .i32 (Vt.p x 1), .int .i32 (Vt.p x 2), .int .i32 (Vt.p x 3), .int .i32 (Vt.s x), .slice ao m cap] 29 := (Blk.at (by simp)).alloc _
  obtain ⟨p0, p1, p2, p3, p4, p5⟩ := hP0.six
  obtain ⟨wB, hwB⟩ : ∃ wB, wB = ((((w.alloc (.cells #[.int .i64 (Vw.X v), .int .i64 (Vw.Y v), .int .i64 (Vw.W v), .int .i64 (Vw.H v), .int .i32 (Vw.Nr v), .int .i32 (Vw.Fr v)] 24)).alloc (.cells #[.int .i32 (Vt.p x 0), .int .i32 (Vt.p x 1), .int .i32 (Vt.p x 2), .int .i32 (Vt.p x 3), .int .i32 (Vt.s x), .slice ao m cap] 29)).alloc (.cells #[.int .i64 0, .int .i64 0, .int .i32 0, .int .i32 0, .int .i32 0, .slice none 0 0] 44)).alloc (.cells #[.int .i64 0, .int .i64 0, .int .i32 0, .int .i32 (x.p 3), .int .i32 x.s, .slice ao m cap] 44)) := ⟨_, rfl⟩
  rw [← hwB] at hV hP hZ hO hX
  have HB := hide (And.intro hV (And.intro hP (And.intro hZ hX)))
  have H0 := hide (And.intro hO (show Below (w.heap.size + 1 + 1 + 1) wB wB from Below.refl _ _))
  have HNF := hide (show I32 v.Nr ∧ I32 v.Fr by unfold I32; omega)
  have S0b := shrI_bd (x.p 0) (x.p 3)
  have S1b := shrI_bd (x.p 1) (x.p 3)
  have S2b := hide (shrI_bd (x.p 2) (x.p 3))
  have C0 := hide (fun wx => refPart_any (x.p 0) (x.p 3) wx (hI.1 0) (hI.1 3))
  have C1 := hide (fun wx => refPart_any (x.p 1) (x.p 3) wx (hI.1 1) (hI.1 3))
  have C2 := hide (fun wx => refPart_any (x.p 2) (x.p 3) wx (hI.1 2) (hI.1 3))
  have E0 := hide (show (layW v x).x = plcI v.X v.W (shrI (x.p 0) (x.p 3)) ∧ (layW v x).y = plcI v.Y v.H (shrI (x.p 1) (x.p 3)) ∧ (layW v x).z = addI v.Nr (mulI (subI v.Fr v.Nr) (shrI (x.p 2) (x.p 3) / 2)) ∧ (layW v x).w = x.p 3 ∧ (layW v x).s = x.s from ⟨rfl, rfl, rfl, rfl, rfl⟩)
  unfold RwQ
  generalize layW v x = l at *
  generalize shrI (x.p 0) (x.p 3) = s0 at *
  generalize shrI (x.p 1) (x.p 3) = s1 at *
  generalize shrI (x.p 2) (x.p 3) = s2 at *
  obtain ⟨_, _, n0, m0⟩ := plcI_bd (f := v.X) (n := v.W) (s := s0) ⟨hvb.2.2.1, hvb.2.2.2.1⟩ S0b
  obtain ⟨_, _, n1, m1⟩ := plcI_bd (f := v.Y) (n := v.H) (s := s1) ⟨hvb.2.2.2.2.2.2.2.1, hvb.2.2.2.2.2.2.2.2.1⟩ S1b
  have a0 : IntKind.i64.wrap (256 * v.X) = 256 * v.X := by simp [IntKind.wrap, IntKind.bits, IntKind.signed]; omega
  have a1 : IntKind.i64.wrap (256 * v.Y) = 256 * v.Y := by simp [IntKind.wrap, IntKind.bits, IntKind.signed]; omega
  have b0 : IntKind.i64.wrap (s0 * v.W) = s0 * v.W := by simp [IntKind.wrap, IntKind.bits, IntKind.signed]; omega
  have b1 : IntKind.i64.wrap (s1 * v.H) = s1 * v.H := by simp [IntKind.wrap, IntKind.bits, IntKind.signed]; omega
  have t0 : (s0 * v.W).tdiv 512 = s0 * v.W / 512 := Int.tdiv_eq_ediv_of_nonneg n0
  have t1 : (s1 * v.H).tdiv 512 = s1 * v.H / 512 := Int.tdiv_eq_ediv_of_nonneg n1
  have c0 : IntKind.i64.wrap (s0 * v.W / 512) = s0 * v.W / 512 := by simp [IntKind.wrap, IntKind.bits, IntKind.signed]; omega
  have c1 : IntKind.i64.wrap (s1 * v.H / 512) = s1 * v.H / 512 := by simp [IntKind.wrap, IntKind.bits, IntKind.signed]; omega
  have d0 : IntKind.i64.wrap (256 * v.X + s0 * v.W / 512) = plcI v.X v.W s0 := by unfold plcI; simp [IntKind.wrap, IntKind.bits, IntKind.signed]; omega
  have d1 : IntKind.i64.wrap (256 * v.Y + s1 * v.H / 512) = plcI v.Y v.H s1 := by unfold plcI; simp [IntKind.wrap, IntKind.bits, IntKind.signed]; omega
  have u2 := unhide S2b
  have t2 : s2.tdiv 2 = s2 / 2 := Int.tdiv_eq_ediv_of_nonneg u2.1
  have e2 : IntKind.i64.wrap (s2 / 2) = s2 / 2 := by simp [IntKind.wrap, IntKind.bits, IntKind.signed]; omega
  have f2 : IntKind.i32.wrap (s2 / 2) = s2 / 2 := by simp [IntKind.wrap, IntKind.bits, IntKind.signed]; omega
  have HH := hide (show I32 (s2 / 2) by unfold I32; omega)
  clear hV hP hZ hO hX hP0 hI hvb u2 n0 m0 n1 m1 S0b S1b
  go_enter Try.func27, Try.ntmps27
  go_upto_region 3 with fail
  rw [← hwB]
  clear hwB p0 p1 p2 p3 p4 p5
  have kv0 : ∀ wy, Below (w.heap.size + 1 + 1) wB wy → wy.cell? ⟨w.heap.size, 0, none⟩ = some (.int .i64 (Vw.X v)) := fun wy hy => (Blk.six (show Blk wy w.heap.size #[.int .i64 (Vw.X v), .int .i64 (Vw.Y v), .int .i64 (Vw.W v), .int .i64 (Vw.H v), .int .i32 (Vw.Nr v), .int .i32 (Vw.Fr v)] 24 from (hy.block _ (by omega)).trans (unhide HB).1)).1
  have kv1 : ∀ wy, Below (w.heap.size + 1 + 1) wB wy → wy.cell? ⟨w.heap.size, 1, none⟩ = some (.int .i64 (Vw.Y v)) := fun wy hy => (Blk.six (show Blk wy w.heap.size #[.int .i64 (Vw.X v), .int .i64 (Vw.Y v), .int .i64 (Vw.W v), .int .i64 (Vw.H v), .int .i32 (Vw.Nr v), .int .i32 (Vw.Fr v)] 24 from (hy.block _ (by omega)).trans (unhide HB).1)).2.1
  have kv2 : ∀ wy, Below (w.heap.size + 1 + 1) wB wy → wy.cell? ⟨w.heap.size, 2, none⟩ = some (.int .i64 (Vw.W v)) := fun wy hy => (Blk.six (show Blk wy w.heap.size #[.int .i64 (Vw.X v), .int .i64 (Vw.Y v), .int .i64 (Vw.W v), .int .i64 (Vw.H v), .int .i32 (Vw.Nr v), .int .i32 (Vw.Fr v)] 24 from (hy.block _ (by omega)).trans (unhide HB).1)).2.2.1
  have kv3 : ∀ wy, Below (w.heap.size + 1 + 1) wB wy → wy.cell? ⟨w.heap.size, 3, none⟩ = some (.int .i64 (Vw.H v)) := fun wy hy => (Blk.six (show Blk wy w.heap.size #[.int .i64 (Vw.X v), .int .i64 (Vw.Y v), .int .i64 (Vw.W v), .int .i64 (Vw.H v), .int .i32 (Vw.Nr v), .int .i32 (Vw.Fr v)] 24 from (hy.block _ (by omega)).trans (unhide HB).1)).2.2.2.1
  have kv4 : ∀ wy, Below (w.heap.size + 1 + 1) wB wy → wy.cell? ⟨w.heap.size, 4, none⟩ = some (.int .i32 (Vw.Nr v)) := fun wy hy => (Blk.six (show Blk wy w.heap.size #[.int .i64 (Vw.X v), .int .i64 (Vw.Y v), .int .i64 (Vw.W v), .int .i64 (Vw.H v), .int .i32 (Vw.Nr v), .int .i32 (Vw.Fr v)] 24 from (hy.block _ (by omega)).trans (unhide HB).1)).2.2.2.2.1
  have kv5 : ∀ wy, Below (w.heap.size + 1 + 1) wB wy → wy.cell? ⟨w.heap.size, 5, none⟩ = some (.int .i32 (Vw.Fr v)) := fun wy hy => (Blk.six (show Blk wy w.heap.size #[.int .i64 (Vw.X v), .int .i64 (Vw.Y v), .int .i64 (Vw.W v), .int .i64 (Vw.H v), .int .i32 (Vw.Nr v), .int .i32 (Vw.Fr v)] 24 from (hy.block _ (by omega)).trans (unhide HB).1)).2.2.2.2.2
  have kp0 : ∀ wy, Below (w.heap.size + 1 + 1) wB wy → wy.cell? ⟨w.heap.size + 1, 0, none⟩ = some (.int .i32 (Vt.p x 0)) := fun wy hy => (Blk.six (show Blk wy (w.heap.size + 1) #[.int .i32 (Vt.p x 0), .int .i32 (Vt.p x 1), .int .i32 (Vt.p x 2), .int .i32 (Vt.p x 3), .int .i32 (Vt.s x), .slice ao m cap] 29 from (hy.block _ (by omega)).trans (unhide HB).2.1)).1
  have kp1 : ∀ wy, Below (w.heap.size + 1 + 1) wB wy → wy.cell? ⟨w.heap.size + 1, 1, none⟩ = some (.int .i32 (Vt.p x 1)) := fun wy hy => (Blk.six (show Blk wy (w.heap.size + 1) #[.int .i32 (Vt.p x 0), .int .i32 (Vt.p x 1), .int .i32 (Vt.p x 2), .int .i32 (Vt.p x 3), .int .i32 (Vt.s x), .slice ao m cap] 29 from (hy.block _ (by omega)).trans (unhide HB).2.1)).2.1
  have kp2 : ∀ wy, Below (w.heap.size + 1 + 1) wB wy → wy.cell? ⟨w.heap.size + 1, 2, none⟩ = some (.int .i32 (Vt.p x 2)) := fun wy hy => (Blk.six (show Blk wy (w.heap.size + 1) #[.int .i32 (Vt.p x 0), .int .i32 (Vt.p x 1), .int .i32 (Vt.p x 2), .int .i32 (Vt.p x 3), .int .i32 (Vt.s x), .slice ao m cap] 29 from (hy.block _ (by omega)).trans (unhide HB).2.1)).2.2.1
  have kp3 : ∀ wy, Below (w.heap.size + 1 + 1) wB wy → wy.cell? ⟨w.heap.size + 1, 3, none⟩ = some (.int .i32 (Vt.p x 3)) := fun wy hy => (Blk.six (show Blk wy (w.heap.size + 1) #[.int .i32 (Vt.p x 0), .int .i32 (Vt.p x 1), .int .i32 (Vt.p x 2), .int .i32 (Vt.p x 3), .int .i32 (Vt.s x), .slice ao m cap] 29 from (hy.block _ (by omega)).trans (unhide HB).2.1)).2.2.2.1
  go_cut [29] (fun u wz => ∃ wd, wd = wz ∧ Blk wd (w.heap.size + 1 + 1 + 1) #[.int .i64 (plcI v.X v.W s0), .int .i64 0, .int .i32 0, .int .i32 (x.p 3), .int .i32 x.s, .slice ao m cap] 44 ∧ Below (w.heap.size + 1 + 1 + 1) wB wd)
  case first =>
    have cc := (unhide H0).1.cell (i := 0) rfl
    have cf := (unhide H0).1.free 0
    have S0 := hide (show Below (w.heap.size + 1 + 1) wB wB.drew from Below.mono (unhide H0).2.drew (by omega))
    have S1 := hide (show w.heap.size + 1 + 1 ≤ wB.heap.size by have := (unhide H0).1.lt; omega)
    go_region_held3 (fun wy => Below (w.heap.size + 1 + 1) wB wy)
      (first | with_reducible exact unhide S0 | with_reducible assumption | with_reducible exact (below_grown (Below.mono (unhide H0).2 (Nat.le_succ _)) (grownBy_set _ _ _ _) (unhide S1) (Nat.le_succ _)).drew)
      (first
        | (go_at_call 43; refine (unhide C0 _).mono ?_; rintro e w' ⟨rfl, rfl⟩))
    all_goals go_wp2
    all_goals go_meet
    all_goals refine ⟨_, rfl, ?_, (below_grown (unhide H0).2 (grownBy_set _ _ _ _) (by have := (unhide H0).1.lt; omega) (Nat.le_refl _)).drew⟩
    all_goals (have h9 := (unhide H0).1.set 0 (.int .i64 (plcI v.X v.W s0)); exact h9.ext ((Ext.refl _).drew))
  case rest =>
  obtain ⟨w3, rfl, h1, h2⟩ := hcut
  have H3 := hide (And.intro h1 h2)
  clear h1 h2
  go_upto_region 4 with fail
  go_cut [43] (fun u wz => ∃ wd, wd = wz ∧ Blk wd (w.heap.size + 1 + 1 + 1) #[.int .i64 (plcI v.X v.W s0), .int .i64 (plcI v.Y v.H s1), .int .i32 0, .int .i32 (x.p 3), .int .i32 x.s, .slice ao m cap] 44 ∧ Below (w.heap.size + 1 + 1 + 1) wB wd)
  case first =>
    have cc := (unhide H3).1.cell (i := 1) rfl
    have cf := (unhide H3).1.free 1
    have S0 := hide (show Below (w.heap.size + 1 + 1) wB w3.drew from Below.mono (unhide H3).2.drew (by omega))
    have S1 := hide (show w.heap.size + 1 + 1 ≤ w3.heap.size by have := (unhide H3).1.lt; omega)
    go_region_held3 (fun wy => Below (w.heap.size + 1 + 1) wB wy)
      (first | with_reducible exact unhide S0 | with_reducible assumption | with_reducible exact (below_grown (Below.mono (unhide H3).2 (Nat.le_succ _)) (grownBy_set _ _ _ _) (unhide S1) (Nat.le_succ _)).drew)
      (first
        | (go_at_call 43; refine (unhide C1 _).mono ?_; rintro e w' ⟨rfl, rfl⟩))
    all_goals go_wp2
    all_goals go_meet
    all_goals refine ⟨_, rfl, ?_, (below_grown (unhide H3).2 (grownBy_set _ _ _ _) (by have := (unhide H3).1.lt; omega) (Nat.le_refl _)).drew⟩
    all_goals (have h9 := (unhide H3).1.set 1 (.int .i64 (plcI v.Y v.H s1)); exact h9.ext ((Ext.refl _).drew))
  case rest =>
  obtain ⟨w4, rfl, h1, h2⟩ := hcut
  have H4 := hide (And.intro h1 h2)
  clear h1 h2
  obtain ⟨q0, q1, q2, q3⟩ := (show _ ∧ _ ∧ _ ∧ _ from ⟨kp0 w4 (Below.mono (unhide H4).2 (Nat.le_succ _)), kp1 w4 (Below.mono (unhide H4).2 (Nat.le_succ _)), kp2 w4 (Below.mono (unhide H4).2 (Nat.le_succ _)), kp3 w4 (Below.mono (unhide H4).2 (Nat.le_succ _))⟩)
  go_upto_region 6 with (go_at_call 43; refine (unhide C2 _).mono ?_; rintro e w' ⟨rfl, hw'⟩; obtain rfl := hw'.symm)
  go_cut [61] (fun u wz => ∃ wd, wd = wz ∧ Blk wd (w.heap.size + 1 + 1 + 1) #[.int .i64 (plcI v.X v.W s0), .int .i64 (plcI v.Y v.H s1), .int .i32 (addI v.Nr (mulI (subI v.Fr v.Nr) (s2 / 2))), .int .i32 (x.p 3), .int .i32 x.s, .slice ao m cap] 44 ∧ Below (w.heap.size + 1 + 1 + 1) wB wd)
  case first =>
    have cc := (unhide H4).1.cell (i := 2) rfl
    have cf := (unhide H4).1.free 2
    have S0 := hide (show Below (w.heap.size + 1 + 1) wB w4.drew from Below.mono (unhide H4).2.drew (by omega))
    have S1 := hide (show w.heap.size + 1 + 1 ≤ w4.heap.size by have := (unhide H4).1.lt; omega)
    go_region_held3 (fun wy => Below (w.heap.size + 1 + 1) wB wy)
      (first | with_reducible exact unhide S0 | with_reducible assumption | with_reducible exact (below_grown (Below.mono (unhide H4).2 (Nat.le_succ _)) (grownBy_set _ _ _ _) (unhide S1) (Nat.le_succ _)).drew)
      (first
        | (go_at_call 39; refine (refSub_any _ _ _ (unhide HNF).2 (unhide HNF).1).mono ?_; rintro e w' ⟨rfl, hw'⟩; obtain rfl := hw'.symm)
        | (go_at_call 44; refine (refMul_any _ _ _ (subI_i32 _ _) (unhide HH)).mono ?_; rintro e w' ⟨rfl, hw'⟩; obtain rfl := hw'.symm)
        | (go_at_call 40; refine (refAdd_any _ _ _ (unhide HNF).1 (mulI_i32 _ _)).mono ?_; rintro e w' ⟨rfl, hw'⟩; obtain rfl := hw'.symm))
    all_goals go_wp2
    all_goals go_meet
    all_goals refine ⟨_, rfl, ?_, (below_grown (unhide H4).2 (grownBy_set _ _ _ _) (by have := (unhide H4).1.lt; omega) (Nat.le_refl _)).drew⟩
    all_goals (have h9 := (unhide H4).1.set 2 (.int .i32 (addI v.Nr (mulI (subI v.Fr v.Nr) (s2 / 2)))); exact h9.ext ((Ext.refl _).drew))
  case rest =>
  obtain ⟨w6, rfl, h1, h2⟩ := hcut
  have H6 := hide (And.intro h1 h2)
  clear h1 h2
  clear kv0 kv1 kv2 kv3 kv4 kv5 kp0 kp1 kp2 kp3
  obtain ⟨o0, o1, o2, o3, o4, o5⟩ := (unhide H6).1.six
  have hz := show Blk w6 (w.heap.size + 1 + 1) #[.int .i64 0, .int .i64 0, .int .i32 0, .int .i32 0, .int .i32 0, .slice none 0 0] 44 from ((unhide H6).2.block _ (by omega)).trans (unhide HB).2.2.1
  obtain ⟨r0, r1, r2, r3, r4, r5⟩ := hz.six
  obtain ⟨f0, f1, f3, f4, f5, f6⟩ := hz.free6
  have HZ := hide hz
  clear hz
  go_wp2
  have hC3 := (unhide HZ).put6 (.int .i64 (plcI v.X v.W s0)) (.int .i64 (plcI v.Y v.H s1)) (.int .i32 (addI v.Nr (mulI (subI v.Fr v.Nr) (s2 / 2)))) (.int .i32 (x.p 3)) (.int .i32 x.s) (.slice ao m cap)
  obtain ⟨z0, z1, z2, z3, z4, z5⟩ := hC3.six
  refine bodyPost_ret (v := .agg #[.int .i64 (plcI v.X v.W s0), .int .i64 (plcI v.Y v.H s1), .int .i32 (addI v.Nr (mulI (subI v.Fr v.Nr) (s2 / 2))), .int .i32 (x.p 3), .int .i32 x.s, .slice ao m cap]) (by simp [results, Try.results27, go_sem, z0, z1, z2, z3, z4, z5]) rfl ⟨by rw [(unhide E0).1, (unhide E0).2.1, (unhide E0).2.2.1, (unhide E0).2.2.2.1, (unhide E0).2.2.2.2], ?_⟩
  exact ext_lay6 (Below.trans (show Below w.heap.size w wB from (unhide HB).2.2.2) (Below.mono (unhide H6).2 (by omega))) (by omega)
end Go.Proofs.Ytbhdloanlagddaa
