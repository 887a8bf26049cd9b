/-
  Proved: NamesNone answers true for every op, and turns nothing that was there: nil names are none, whatever is asked of them. No condition but the form's own bound on what is read.
-/
import Derived.Test.YthdjdknhjhkngaaNM
namespace Go.Proofs.Ythdjdknhjhkngaa
open Go.ChangeShapes Go.WideShapes Go.ChangeAt Go.RowKit Go.Shelf
set_option linter.unusedVariables false
set_option linter.unusedSimpArgs false
attribute [local go_sem] Oper.semAt_some

set_option maxRecDepth 100000 in
set_option maxHeartbeats 4000000 in
theorem none_walk (K N : Int) (w : World) :
    Calls Try.prog 5 #[.agg #[.int .i64 K, .int .i64 N]] w fun e w' => e = .returned (.bool true) ∧ Ext w w' := by
  refine (callsIn_wide (n := 9)).1 ?_
  refine callsIn_of_wp_marks Try.func5 rfl trivial ?_ rfl
  simp only [Try.ntmps5, List.size_toArray, List.length_cons, List.length_nil, Nat.reduceAdd, Nat.reduceSub, Array.replicate_succ, Array.replicate_zero, List.push_toArray, List.append_toArray, List.nil_append, List.cons_append]
  refine wpIn_wide.2 ?_
  go_wp2_with fail
  refine (wakes_any _).mono ?_
  rintro e w1 ⟨rfl, hx1⟩
  have hO : Blk w1 w.heap.size #[.int .i64 K, .int .i64 N] 31 := ((Blk.at rfl).alloc _).ext hx1
  have hQ : Blk w1 (w.heap.size + 1) #[.bool false] 4 := (Blk.at (by simp)).ext hx1
  have hX : Ext w w1 := (((Ext.refl w).alloc _).alloc _).trans hx1
  have cN : w1.cell? ⟨w.heap.size, 1, none⟩ = some (.int .i64 N) := hO.cell (i := 1) rfl
  have hlo := hO.lt
  have hlq := hQ.lt
  have H := hide (And.intro hO (And.intro hQ hX))
  clear hO hQ hX hx1
  go_wp2_with (first
    | (go_at_call 15; refine (gen_nil N _).mono ?_; rintro e w2 ⟨rfl, rfl⟩)
    | (go_at_call 16; refine (bind_nil N _).mono ?_; rintro e w2 ⟨rfl, rfl⟩)
    | (go_at_call 17; refine (delete_nil N _).mono ?_; rintro e w2 ⟨rfl, rfl⟩)
    | (go_at_call 13; refine (all_nil _).mono ?_; rintro e w2 ⟨rfl, rfl⟩))
  refine (wpIn_wide (n := 9)).1 ?_
  have hO0 := ((unhide H).1.alloc (.cells (nst .u8 nul) 53)).alloc (.cells #[.int .u8 2] 51)
  have hQ0 := ((unhide H).2.1.alloc (.cells (nst .u8 nul) 53)).alloc (.cells #[.int .u8 2] 51)
  have hX0 := ((unhide H).2.2.alloc (.cells (nst .u8 nul) 53)).alloc (.cells #[.int .u8 2] 51)
  have hA : Blk ((w2.alloc (.cells (nst .u8 nul) 53)).alloc (.cells #[.int .u8 2] 51)) w2.heap.size (nst .u8 nul) 53 := (Blk.at rfl).alloc _
  have hS : Blk ((w2.alloc (.cells (nst .u8 nul) 53)).alloc (.cells #[.int .u8 2] 51)) (w2.heap.size + 1) #[.int .u8 2] 51 := Blk.at (by simp)
  generalize ((w2.alloc (.cells (nst .u8 nul) 53)).alloc (.cells #[.int .u8 2] 51)) = W0 at hO0 hQ0 hX0 hA hS ⊢
  have hn2 := hA.lt
  have hn3 := hS.lt
  have hsel : (sel nul 2 64).length = 0 := by decide
  refine wpIn_rangeFunc_ownF (α := Nam nul 2) rfl (by omega) (gf := 32) (lb := #[.pointer (some ⟨w2.heap.size, 0, none⟩), .pointer (some ⟨w2.heap.size + 1, 0, none⟩)]) rfl trivial (enters_of Try.func32 (by kernel_rfl) rfl)
    (iter_stops (9 - 1) (by omega) nul 2 w2.heap.size (w2.heap.size + 1) W0 hA hS) Kept.trans (fun W l o o' hl _ _ _ => kept_put (by omega) (by omega)) (Below.refl _ _) (fun _ => rfl)
    (fun pre W => (Blk W w.heap.size #[.int .i64 K, .int .i64 N] 31 ∧ Blk W (w.heap.size + 1) #[.bool false] 4) ∧ Below w.heap.size w W)
    (fun _ _ _ => False)
    (fun pre A B' row hs hg hr => ⟨⟨blk_kept hs.1.1 hg (fun r e => (hr r e).2), blk_kept hs.1.2 hg (fun r e => (hr r e).2)⟩, hs.2.grown hg hs.2.size (fun r e => by have := (hr r e).1; omega)⟩)
    (fun _ _ _ _ _ hs _ _ => hs)
    ⟨⟨hO0, hQ0⟩, hX0⟩
    (fun _ => { tmps := #[], defers := [] }) ?assign ?body ?done ?stop
  case assign =>
    intro l x W K hK
    exact absurd (show (0 : Int) = 2 from x.2.2.2) (by decide)
  case body =>
    intro l pre x W hI hlt
    rw [hsel] at hlt
    exact absurd hlt (Nat.not_lt_zero _)
  case done =>
    rintro D ys W hD hys ⟨⟨hO1, hQ1⟩, hB⟩ hK
    have c1 : W.cell? ⟨w.heap.size, 1, none⟩ = some (.int .i64 N) := hO1.cell (i := 1) rfl
    have c2 : W.cell? ⟨w.heap.size + 1, 0, none⟩ = some (.bool false) := hQ1.cell (i := 0) rfl
    have f2 := hQ1.free 0
    have HD := hide (And.intro hQ1 (And.intro hB hK))
    clear hO1 hQ1 hB hK H hO0 hQ0 hX0 hA hS cN
    go_wp2_with (first
      | (go_at_call 18; refine (bound_nil _).mono ?_; rintro e w9 ⟨rfl, rfl⟩)
      | (go_at_call 19; refine (is_nil N _).mono ?_; rintro e w9 ⟨rfl, rfl⟩)
      | (go_at_call 20; refine (used_nil N _).mono ?_; rintro e w9 ⟨rfl, rfl⟩)
      | (go_at_call 21; refine (left_nil _).mono ?_; rintro e w9 ⟨rfl, rfl⟩)
      | (go_at_call 14; refine (copy_nil _).mono ?_; rintro e w9 ⟨rfl, rfl⟩))
    obtain ⟨hQ1, hB, hK⟩ := unhide HD
    have hK' : (w9.setCell ⟨w.heap.size + 1, 0, none⟩ (.bool true)).heap[D]? = some (.deferred (some [])) := (KeepsOthers.setCell w9 ⟨w.heap.size + 1, 0, none⟩ (.bool true)).same D _ hK rfl
    have hQ2 : Blk (w9.setCell ⟨w.heap.size + 1, 0, none⟩ (.bool true)) (w.heap.size + 1) #[.bool true] 4 := hQ1.set 0 (.bool true)
    have hQ3 : Blk ((w9.setCell ⟨w.heap.size + 1, 0, none⟩ (.bool true)).putObj D (.deferred none)) (w.heap.size + 1) #[.bool true] 4 := (World.putObj_heap_other (by omega)).trans hQ2
    refine ⟨by simp, .inl ⟨_, _, rfl, run_takeDeferred hK', ?_⟩⟩
    have hc5 : ((w9.setCell ⟨w.heap.size + 1, 0, none⟩ (.bool true)).putObj D (.deferred none)).cell? ⟨w.heap.size + 1, 0, none⟩ = some (.bool true) := hQ3.cell (i := 0) rfl
    refine ⟨.bool true, ?_, rfl, (hB.setCell (p := ⟨w.heap.size + 1, 0, none⟩) (by simp) _).trans (belowK_b (w := w) (Nat.le_refl _) _ D _ _ (by omega) hK' rfl rfl)⟩
    simp [results, Try.f5, go_sem, hc5]
  case stop =>
    rintro D c pre W _ _ h _
    exact h.elim

section
variable {H : Type} {enc : TypeId × Value → H}
/-- An op that came in. -/
theorem open_op {W : World} {base : Nat} {v : Value} {d : DataW H} {p : List MemPlace} (hv : Value.okWide Try.prog W .any base 31 v) (h : DataW.Trod enc Try.prog W 0 (fun _ => true) true 31 v d p) :
    ∃ K N : Int, v = .agg #[.int .i64 K, .int .i64 N] := by
  obtain ⟨cs, rfl, hsz, _⟩ : ∃ cs, v = .agg cs ∧ cs.size = Try.prog.cellsOf 31 ∧ Row.okWide Try.prog W .any base 31 cs := by
    simpa [Value.okWide, Try.underlying31] using hv
  rw [cells_op] at hsz
  obtain ⟨l⟩ := cs
  match l, hsz with
  | [u0, u1], _ =>
    obtain ⟨fuel, hf⟩ := h
    obtain ⟨y0, y1, n', _, hlen, t0, t1⟩ := trod_struct2 Try.underlying31 hf
    simp only [Value.cells, cells_int, List.drop_zero, List.drop_succ_cons, List.take_succ_cons, List.take_zero] at t0 t1
    obtain ⟨K, e0, _, k0⟩ := DataW.trod_int Try.underlying3 t0
    obtain ⟨N, e1, _, k1⟩ := DataW.trod_int Try.underlying3 t1
    simp only [List.cons.injEq, and_true] at e0 e1
    subst e0 e1
    exact ⟨K, N, rfl⟩
end

theorem none_owes (H : Type) (enc : TypeId × Value → H) (W : World) (base : Nat) (args : Array Value) (ds : List (DataW H)) (p : List MemPlace) : Owes H enc Try.prog 5 Try.f5 Rows.namesNoneSpec W base args ds p := by
  intro hval hA hsz
  rw [Try.params5] at hA hval hsz
  obtain ⟨v0, vs0, d0, ds0, p0, q0, hargs, rfl, rfl, h0, r0⟩ := trodAll_cons hA
  obtain ⟨rfl, rfl, rfl⟩ := trodAll_nil r0
  obtain rfl : args = #[v0] := by cases args; simp_all
  obtain ⟨K, N, rfl⟩ := open_op (hval 0 31 v0 rfl rfl) h0
  exact ⟨⟨rfl, rfl, rfl⟩, none_walk K N W⟩

set_option maxRecDepth 100000 in
theorem none_lifted (os : Os) (started : os.Started) (H : Type) (enc : TypeId × Value → H) :
    ReturnsInHanded {} Try.checked os 5 .any (Rows.namesNoneSpec.pre6 enc Try.prog Try.f5 [] false) (Rows.namesNoneSpec.post enc Try.prog Try.f5 false true false false) :=
  lift_law (C := Try.checked) own laidOut started (by kernel_rfl) Try.func5 (T := 4) rfl Try.underlying4 rfl (by kernel_rfl)
    (ChangeSpec.witness6 (enc := enc) (C := Try.checked) false ⟨#[], #[.agg #[.int .i64 0, .int .i64 0]], []⟩ 8 (by kernel_rfl) (by kernel_rfl) (by kernel_rfl) (by kernel_rfl)) (none_owes H enc)

theorem namesNone_holds : Rows.NamesNoneSaid :=
  OpenClaim.holds_of_wide 5 Try.f5 rfl rfl rfl rfl rfl rfl rfl ⟨rfl, rfl, rfl, rfl, rfl⟩ rfl rfl rfl rfl rfl (by kernel_rfl) Try.func5 (by kernel_rfl)
    (of_decide_eq_true (by kernel_rfl)) (by unfold Func.isWrapper; rw [if_neg (of_decide_eq_false (by kernel_rfl))]; exact ⟨rfl, rfl⟩)
    (fun os started H enc _ => none_lifted os started H enc)
#print axioms namesNone_holds
end Go.Proofs.Ythdjdknhjhkngaa
