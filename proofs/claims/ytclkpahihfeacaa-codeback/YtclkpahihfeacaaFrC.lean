/-
  Instructions and codes that come in: what they hold.
-/
import Derived.Test.YtclkpahihfeacaaFr
import Derived.Test.YtclkpahihfeacaaCU
import Derived.Deep.Slices
import Derived.Laws.IdiomArrays
namespace Go.Proofs.Ytclkpahihfeacaa
open Go.ChangeShapes Go.WideShapes Go.ChangeAt Go.RowKit
set_option linter.unusedVariables false
set_option linter.unusedSimpArgs false

theorem cells_ins : Try.prog.cellsOf 42 = 16 := by kernel_rfl
theorem cells_inss : Try.prog.cellsOf 24 = 1 := by kernel_rfl
theorem cells_cod : Try.prog.cellsOf 26 = 6 := by kernel_rfl
theorem cells_intC : Try.prog.cellsOf 3 = 1 := by kernel_rfl
theorem cells_fixC : Try.prog.cellsOf 37 = 1 := by kernel_rfl
theorem cells_vecC : Try.prog.cellsOf 39 = 4 := by kernel_rfl
theorem cells_plC : Try.prog.cellsOf 40 = 4 := by kernel_rfl
theorem wf64 {x : Int} (h : (Lit.int .i64 x).wf = true) : -9223372036854775808 ≤ x ∧ x ≤ 9223372036854775807 := by
  simp only [Lit.wf, Bool.and_eq_true, decide_eq_true_eq] at h
  exact h
theorem wf32 {x : Int} (h : (Lit.int .i32 x).wf = true) : -2147483648 ≤ x ∧ x ≤ 2147483647 := by
  simp only [Lit.wf, Bool.and_eq_true, decide_eq_true_eq] at h
  exact h
def ofL (l : List Int) (k : Nat) : Int := l.getD k 0

section
variable {H : Type} {enc : TypeId × Value → H}
set_option maxRecDepth 100000 in
set_option maxHeartbeats 2000000 in
/-- Sixteen cells that read as an instruction. -/
theorem open_ins {W : World} {fuel : Nat} {c0 c1 c2 c3 c4 c5 c6 c7 c8 c9 c10 c11 c12 c13 c14 c15 : Value} {y : DataW H × List MemPlace} (hf : DataW.trod enc Try.prog W 0 (fun _ => true) true fuel 42 [c0, c1, c2, c3, c4, c5, c6, c7, c8, c9, c10, c11, c12, c13, c14, c15] = some y) :
    ∃ I : Nat → Int, [c0, c1, c2, c3, c4, c5, c6, c7, c8, c9, c10, c11, c12, c13, c14, c15] = (insA I).toList ∧ OkI I := by
  obtain ⟨xs, n, _, rfl, hl, hlen, hfs⟩ := DataW.trod_struct Try.underlying42 hf
  match xs, hlen with
  | [y0, y1, y2, y3, y4, y5, y6, y7, y8, y9], _ =>
    have t0 : DataW.trod enc Try.prog W 0 (fun _ => true) true n 3 [c0] = some y0 := by simpa [cells_intC] using hfs 0 _ rfl
    have t1 : DataW.trod enc Try.prog W 0 (fun _ => true) true n 3 [c1] = some y1 := by simpa [cells_intC] using hfs 1 _ rfl
    have t2 : DataW.trod enc Try.prog W 0 (fun _ => true) true n 3 [c2] = some y2 := by simpa [cells_intC] using hfs 2 _ rfl
    have t3 : DataW.trod enc Try.prog W 0 (fun _ => true) true n 3 [c3] = some y3 := by simpa [cells_intC] using hfs 3 _ rfl
    have t4 : DataW.trod enc Try.prog W 0 (fun _ => true) true n 3 [c4] = some y4 := by simpa [cells_intC] using hfs 4 _ rfl
    have t5 : DataW.trod enc Try.prog W 0 (fun _ => true) true n 3 [c5] = some y5 := by simpa [cells_intC] using hfs 5 _ rfl
    have t6 : DataW.trod enc Try.prog W 0 (fun _ => true) true n 3 [c6] = some y6 := by simpa [cells_intC] using hfs 6 _ rfl
    have t7 : DataW.trod enc Try.prog W 0 (fun _ => true) true n 3 [c7] = some y7 := by simpa [cells_intC] using hfs 7 _ rfl
    have t8 : DataW.trod enc Try.prog W 0 (fun _ => true) true n 39 [c8, c9, c10, c11] = some y8 := by simpa [cells_vecC] using hfs 8 _ rfl
    have t9 : DataW.trod enc Try.prog W 0 (fun _ => true) true n 40 [c12, c13, c14, c15] = some y9 := by simpa [cells_plC] using hfs 9 _ rfl
    obtain ⟨v0, v1, v2, v3, m, _, u0, u1, u2, u3⟩ := trod_array4 Try.underlying39 cells_fixC t8
    obtain ⟨z0, z1, z2, z3, m2, _, s0, s1, s2, s3⟩ := trod_array4 Try.underlying40 cells_intC t9
    obtain ⟨a0, e0, _, k0⟩ := DataW.trod_int Try.underlying3 t0
    obtain ⟨a1, e1, _, k1⟩ := DataW.trod_int Try.underlying3 t1
    obtain ⟨a2, e2, _, k2⟩ := DataW.trod_int Try.underlying3 t2
    obtain ⟨a3, e3, _, k3⟩ := DataW.trod_int Try.underlying3 t3
    obtain ⟨a4, e4, _, k4⟩ := DataW.trod_int Try.underlying3 t4
    obtain ⟨a5, e5, _, k5⟩ := DataW.trod_int Try.underlying3 t5
    obtain ⟨a6, e6, _, k6⟩ := DataW.trod_int Try.underlying3 t6
    obtain ⟨a7, e7, _, k7⟩ := DataW.trod_int Try.underlying3 t7
    obtain ⟨a8, e8, _, k8⟩ := DataW.trod_int Try.underlying37 u0
    obtain ⟨a9, e9, _, k9⟩ := DataW.trod_int Try.underlying37 u1
    obtain ⟨a10, e10, _, k10⟩ := DataW.trod_int Try.underlying37 u2
    obtain ⟨a11, e11, _, k11⟩ := DataW.trod_int Try.underlying37 u3
    obtain ⟨a12, e12, _, k12⟩ := DataW.trod_int Try.underlying3 s0
    obtain ⟨a13, e13, _, k13⟩ := DataW.trod_int Try.underlying3 s1
    obtain ⟨a14, e14, _, k14⟩ := DataW.trod_int Try.underlying3 s2
    obtain ⟨a15, e15, _, k15⟩ := DataW.trod_int Try.underlying3 s3
    simp only [List.cons.injEq, and_true] at e0 e1 e2 e3 e4 e5 e6 e7 e8 e9 e10 e11 e12 e13 e14 e15
    subst e0 e1 e2 e3 e4 e5 e6 e7 e8 e9 e10 e11 e12 e13 e14 e15
    refine ⟨ofL [a0, a1, a2, a3, a4, a5, a6, a7, a8, a9, a10, a11, a12, a13, a14, a15], rfl, fun k hk => ?_, fun k hk => ?_, fun k hk => ?_⟩
    · rcases (by omega : k = 0 ∨ k = 1 ∨ k = 2 ∨ k = 3 ∨ k = 4 ∨ k = 5 ∨ k = 6 ∨ k = 7) with rfl | rfl | rfl | rfl | rfl | rfl | rfl | rfl
      · exact wf64 k0
      · exact wf64 k1
      · exact wf64 k2
      · exact wf64 k3
      · exact wf64 k4
      · exact wf64 k5
      · exact wf64 k6
      · exact wf64 k7
    · rcases (by omega : k = 0 ∨ k = 1 ∨ k = 2 ∨ k = 3) with rfl | rfl | rfl | rfl
      · exact wf32 k8
      · exact wf32 k9
      · exact wf32 k10
      · exact wf32 k11
    · rcases (by omega : k = 0 ∨ k = 1 ∨ k = 2 ∨ k = 3) with rfl | rfl | rfl | rfl
      · exact wf64 k12
      · exact wf64 k13
      · exact wf64 k14
      · exact wf64 k15

set_option maxRecDepth 10000 in
/-- A slice of instructions within what came in. -/
theorem open_inss {W : World} {u : Value} {fuel : Nat} {y : DataW H × List MemPlace} (hf : DataW.trod enc Try.prog W 0 (fun _ => true) true fuel 24 [u] = some y) :
    ∃ L : List (Nat → Int), IR W u L ∧ ∀ I ∈ L, OkI I := by
  rcases Deep.open_slice Try.underlying24 hf with ⟨hcs, _⟩ | ⟨x, l, c, m, n, D, Pl, hcs, _, hl, hm, hmm, hx, hel⟩
  · simp at hcs
    subst hcs
    exact ⟨[], ⟨none, 0, rfl, fun _ => rfl, Nat.le_refl _, Nat.zero_le _, fun i hi => by simp at hi⟩, by simp⟩
  · simp at hcs
    subst hcs
    simp only [if_true] at hmm
    subst hmm
    have each : ∀ i, i < l → ∃ I : Nat → Int, OkI I ∧ ∀ j u, (insA I).toList[j]? = some u → W.cell? ((x.add (i * 16)).add j) = some u := by
      intro i hi
      obtain ⟨cs', h1, h2⟩ := hel i (by omega)
      rw [cells_ins] at h1
      obtain ⟨_, hl2, hce⟩ := World.cells?_some h1
      match cs', hl2 with
      | [c0, c1, c2, c3, c4, c5, c6, c7, c8, c9, c10, c11, c12, c13, c14, c15], _ =>
        obtain ⟨I, e, hok⟩ := open_ins h2
        refine ⟨I, hok, fun j u hu => ?_⟩
        rw [← e] at hu
        have hj : j < 16 := by simpa using (List.getElem?_eq_some_iff.1 hu).1
        have := hce j (by omega)
        rw [this]
        exact hu
    have hinh : Inhabited (Nat → Int) := ⟨zI⟩
    obtain ⟨F, hF⟩ := Deep.choose_lt (α := Nat → Int) (p := fun i I => OkI I ∧ ∀ j u, (insA I).toList[j]? = some u → W.cell? ((x.add (i * 16)).add j) = some u) (fun i hi => each i hi)
    have hlen : ((List.range l).map F).length = l := by simp
    refine ⟨(List.range l).map F, ⟨some x, _, by rw [hlen], (fun h => by cases h), by rw [hlen]; exact hl, hm, fun i hi => ?_⟩, fun I hI => ?_⟩
    · rw [hlen] at hi
      obtain ⟨b, off, spot⟩ := x
      have h0 := (hF 0 (by omega)).2 0 _ rfl
      have hspot : spot = none := by simpa [Addr.add] using World.cell?_spot h0
      subst hspot
      refine ⟨b, off, rfl, fun j u hu => ?_⟩
      simp only [List.getElem_map, List.getElem_range] at hu
      have h := (hF i hi).2 j u hu
      simpa only [Addr.add_lit] using h
    · obtain ⟨i, hi, rfl⟩ := List.mem_map.1 hI
      exact (hF i (List.mem_range.1 hi)).1

set_option maxRecDepth 100000 in
/-- A slice of instructions that came in. -/
theorem open_inssA {W : World} {base : Nat} {v : Value} {d : DataW H} {p : List MemPlace} (hv : Value.okWide Try.prog W .any base 24 v) (h : DataW.Trod enc Try.prog W 0 (fun _ => true) true 24 v d p) :
    ∃ L : List (Nat → Int), IR W v L ∧ ∀ I ∈ L, OkI I := by
  obtain ⟨a, len, cap, rfl⟩ := okWide_slice Try.underlying24 hv
  obtain ⟨fuel, hf⟩ := h
  exact open_inss (by simpa [Value.cells] using hf)
theorem arr6 {α : Type} {cs : Array α} (h : cs.size = 6) : ∃ c0 c1 c2 c3 c4 c5, cs = #[c0, c1, c2, c3, c4, c5] := by
  obtain ⟨l⟩ := cs
  match l, h with
  | [c0, c1, c2, c3, c4, c5], _ => exact ⟨c0, c1, c2, c3, c4, c5, rfl⟩
set_option maxRecDepth 100000 in
/-- Six cells that read as a code. -/
theorem open_cod {W : World} {fuel : Nat} {c0 c1 c2 c3 c4 c5 : Value} {y : DataW H × List MemPlace} (hf : DataW.trod enc Try.prog W 0 (fun _ => true) true fuel 26 [c0, c1, c2, c3, c4, c5] = some y) :
    ∃ C : Cod, #[c0, c1, c2, c3, c4, c5] = #[.int .i64 (C).stage, c1, .int .i64 (C).regs, .int .i64 (C).attr, .int .i64 (C).unif, .int .i64 (C).vary] ∧ IR W c1 C.ins ∧ ∀ I ∈ C.ins, OkI I := by
  obtain ⟨xs, n, _, rfl, hl, hlen, hfs⟩ := DataW.trod_struct Try.underlying26 hf
  match xs, hlen with
  | [y0, y1, y2, y3, y4, y5], _ =>
    have t0 : DataW.trod enc Try.prog W 0 (fun _ => true) true n 3 [c0] = some y0 := by simpa [cells_intC] using hfs 0 _ rfl
    have t1 : DataW.trod enc Try.prog W 0 (fun _ => true) true n 24 [c1] = some y1 := by simpa [cells_inss] using hfs 1 _ rfl
    have t2 : DataW.trod enc Try.prog W 0 (fun _ => true) true n 3 [c2] = some y2 := by simpa [cells_intC] using hfs 2 _ rfl
    have t3 : DataW.trod enc Try.prog W 0 (fun _ => true) true n 3 [c3] = some y3 := by simpa [cells_intC] using hfs 3 _ rfl
    have t4 : DataW.trod enc Try.prog W 0 (fun _ => true) true n 3 [c4] = some y4 := by simpa [cells_intC] using hfs 4 _ rfl
    have t5 : DataW.trod enc Try.prog W 0 (fun _ => true) true n 3 [c5] = some y5 := by simpa [cells_intC] using hfs 5 _ rfl
    obtain ⟨a0, e0, _, k0⟩ := DataW.trod_int Try.underlying3 t0
    obtain ⟨a2, e2, _, k2⟩ := DataW.trod_int Try.underlying3 t2
    obtain ⟨a3, e3, _, k3⟩ := DataW.trod_int Try.underlying3 t3
    obtain ⟨a4, e4, _, k4⟩ := DataW.trod_int Try.underlying3 t4
    obtain ⟨a5, e5, _, k5⟩ := DataW.trod_int Try.underlying3 t5
    simp only [List.cons.injEq, and_true] at e0 e2 e3 e4 e5
    subst e0 e2 e3 e4 e5
    obtain ⟨L, hL, hok⟩ := open_inss t1
    exact ⟨⟨a0, a2, a3, a4, a5, L⟩, rfl, hL, hok⟩
set_option maxRecDepth 100000 in
theorem open_codA {W : World} {base : Nat} {v : Value} {d : DataW H} {p : List MemPlace} (hv : Value.okWide Try.prog W .any base 26 v) (h : DataW.Trod enc Try.prog W 0 (fun _ => true) true 26 v d p) :
    ∃ (C : Cod) (u : Value), v = .agg #[.int .i64 (C).stage, u, .int .i64 (C).regs, .int .i64 (C).attr, .int .i64 (C).unif, .int .i64 (C).vary] ∧ IR W u C.ins ∧ ∀ I ∈ C.ins, OkI I := by
  obtain ⟨cs, rfl, hsz⟩ := okWide_struct Try.underlying26 hv
  rw [cells_cod] at hsz
  obtain ⟨c0, c1, c2, c3, c4, c5, rfl⟩ := arr6 hsz
  obtain ⟨fuel, hf⟩ := h
  obtain ⟨C, e, h1, h2⟩ := open_cod (by simpa [Value.cells] using hf)
  exact ⟨C, c1, by rw [e], h1, h2⟩
end
end Go.Proofs.Ytclkpahihfeacaa
