/-
  Rows of what is done with names that come in: what they hold.
-/
import Derived.Test.YthdjdknhjhkngaaNJ
import Derived.Test.YthdjdknhjhkngaaFr
import Derived.Deep.Slices
namespace Go.Proofs.Ythdjdknhjhkngaa
open Go.ChangeShapes Go.WideShapes Go.ChangeAt Go.RowKit

set_option maxHeartbeats 1000000 in
theorem few_far (v : Value) (xs : List (Int × Int)) (w0 w : World) (h : ORow w0 v xs) :
    Calls Try.prog 10 #[v] w fun e w' => ∃ ao cap, e = .returned (.slice ao (xs.take 200).length cap) ∧ ORow w0 (.slice ao (xs.take 200).length cap) (xs.take 200) ∧ w' = w := by
  obtain ⟨ao, cap, rfl, h1, h2, h3, h4⟩ := h
  have fin : ORow w0 (.slice ao (xs.take 200).length cap) (xs.take 200) := ⟨ao, cap, rfl, by rw [List.length_take]; omega, h2, h3, fun i hi => by
    rw [List.length_take] at hi
    obtain ⟨b, off, e, c1, c2⟩ := h4 i (by omega)
    refine ⟨b, off, e, ?_, ?_⟩
    · rw [List.getElem_take]; exact c1
    · rw [List.getElem_take]; exact c2⟩
  have FIN := hide fin
  clear h4 fin
  unfold maxLen at h2
  cases ao with
  | none =>
    have hc := h3 rfl
    have hx : xs = [] := List.eq_nil_of_length_eq_zero (by omega)
    subst hx hc
    go_enter Try.func10, Try.ntmps10
    go_wp2
    go_ret
    exact ⟨none, 0, rfl, unhide FIN, rfl⟩
  | some a =>
    by_cases hl : xs.length < 200
    · have e : (xs.take 200).length = xs.length := by rw [List.length_take]; omega
      rw [e] at FIN ⊢
      go_enter Try.func10, Try.ntmps10
      go_wp2
      all_goals (go_ret; exact ⟨some a, cap, rfl, unhide FIN, rfl⟩)
    · have e : (xs.take 200).length = 200 := by rw [List.length_take]; omega
      rw [e] at FIN ⊢
      go_enter Try.func10, Try.ntmps10
      go_wp2
      · go_ret
        exact ⟨some a, cap, rfl, unhide FIN, rfl⟩
      · go_ret
        have h200 : xs.length = 200 := by omega
        refine ⟨some a, cap, ?_, unhide FIN, rfl⟩
        show Ending.returned (Value.slice (some a) xs.length cap) = _
        rw [h200]

theorem few_some (v : Value) (xs : List (Int × Int)) (w0 w : World) (h : ORow w0 v xs) :
    Calls Try.prog 10 #[v] w fun e w' => ∃ ys ao cap, e = .returned (.slice ao ys.length cap) ∧ ORow w0 (.slice ao ys.length cap) ys ∧ ys.length ≤ 200 ∧ w' = w := by
  refine (few_far v xs w0 w h).mono ?_
  rintro e w' ⟨ao, cap, he, h1, h2⟩
  exact ⟨xs.take 200, ao, cap, he, h1, by rw [List.length_take]; omega, h2⟩

theorem cells_op : Try.prog.cellsOf 31 = 2 := by kernel_rfl
theorem cells_int : Try.prog.cellsOf 3 = 1 := by kernel_rfl

section
variable {H : Type} {enc : TypeId × Value → H}
/-- A slice of ops that came in. -/
theorem open_ops {W : World} {base : Nat} {v : Value} {d : DataW H} {p : List MemPlace}
    (hv : Value.okWide Try.prog W .any base 22 v) (h : DataW.Trod enc Try.prog W 0 (fun _ => true) true 22 v d p) :
    ∃ xs : List (Int × Int), ORow W v xs := by
  obtain ⟨a, len, cap, rfl⟩ := okWide_slice Try.underlying22 hv
  obtain ⟨fuel, hf⟩ := h
  rcases Deep.open_slice Try.underlying22 hf with ⟨hcs, _⟩ | ⟨x, l, c, m, n, D, Pl, hcs, _, hl, hm, hmm, hx, hel⟩
  · simp [Value.cells] at hcs
    obtain ⟨rfl, rfl, rfl⟩ := hcs
    exact ⟨[], none, 0, rfl, Nat.le_refl _, Nat.zero_le _, fun _ => rfl, fun i hi => by simp at hi⟩
  · simp [Value.cells] at hcs
    obtain ⟨rfl, rfl, rfl⟩ := hcs
    simp only [if_true] at hmm
    subst hmm
    have each : ∀ i, i < len → ∃ y : Int × Int, W.cell? (x.add (i * 2)) = some (.int .i64 y.1) ∧ W.cell? ((x.add (i * 2)).add 1) = some (.int .i64 y.2) := by
      intro i hi
      obtain ⟨cs', h1, h2⟩ := hel i (by omega)
      rw [cells_op] at h1
      obtain ⟨y0, y1, n', _, hlen, t0, t1⟩ := trod_struct2 Try.underlying31 h2
      obtain ⟨_, hl2, hce⟩ := World.cells?_some h1
      match cs', hl2 with
      | [u0, u1], _ =>
        have hc0 := hce 0 (by omega)
        have hc1 := hce 1 (by omega)
        simp only [cells_int, List.drop_zero, List.drop_succ_cons, List.take_succ_cons, List.take_zero] at t0 t1
        obtain ⟨K, e0, _, k0⟩ := DataW.trod_int Try.underlying3 t0
        obtain ⟨N, e1, _, k1⟩ := DataW.trod_int Try.underlying3 t1
        simp only [List.cons.injEq, and_true] at e0 e1
        subst e0 e1
        refine ⟨(K, N), ?_, hc1⟩
        have e : (x.add (i * 2)).add 0 = x.add (i * 2) := by unfold Addr.add; split <;> simp_all
        rw [e] at hc0
        exact hc0
    obtain ⟨F, hF⟩ := Deep.choose_lt (α := Int × Int) (p := fun i y => W.cell? (x.add (i * 2)) = some (.int .i64 y.1) ∧ W.cell? ((x.add (i * 2)).add 1) = some (.int .i64 y.2)) (fun i hi => each i hi)
    have hlen : ((List.range len).map F).length = len := by simp
    refine ⟨(List.range len).map F, some x, _, by rw [hlen], by rw [hlen]; exact hl, hm, (fun h => by cases h), fun i hi => ?_⟩
    rw [hlen] at hi
    obtain ⟨b, off, spot⟩ := x
    have hspot : spot = none := by simpa [Addr.add] using World.cell?_spot (hF 0 (by omega)).1
    subst hspot
    have h := hF i hi
    simp only [Addr.add_lit] at h
    refine ⟨b, off, rfl, ?_⟩
    simp only [List.getElem_map, List.getElem_range]
    exact h
end
end Go.Proofs.Ythdjdknhjhkngaa
