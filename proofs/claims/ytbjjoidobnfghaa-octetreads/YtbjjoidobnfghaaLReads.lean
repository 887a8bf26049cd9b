/-
  Proved: OctetReads answers true for all bytes b and every row of calls, and turns nothing that was there: a Reader answers whatever is asked of it as the document's own answer says, and another Reader of the same bytes is not moved. No condition but the form's own bound on what is read.
-/
import Derived.Test.YtbjjoidobnfghaaRdW
import Derived.Deep.Slices
namespace Go.Proofs.Ytbjjoidobnfghaa
open Go.ChangeShapes Go.WideShapes Go.ChangeAt Go.RowKit
open Go.ChangeMaps (open_string shut_string)

theorem byt_of {xs : List Int} (h : ∀ x ∈ xs, (Lit.int .u8 x).wf = true) : Byt xs := fun x hx => by have := bounds_u8 (h x hx); omega

theorem cells40 : Try.prog.cellsOf 40 = 2 := by kernel_rfl
theorem cells3 : Try.prog.cellsOf 3 = 1 := by kernel_rfl
theorem bytes40 : Try.prog.bytesOf 40 = 16 := by kernel_rfl

section
variable {H : Type} {enc : TypeId × Value → H}
/-- A slice of calls that came in. -/
theorem open_asks {W : World} {base : Nat} {v : Value} {d : DataW H} {p : List MemPlace} {ts : List TypeId} {ds : List (DataW H)} {j : Nat}
    (hv : Value.okWide Try.prog W .any base 33 v) (h : DataW.Trod enc Try.prog W 0 (fun _ => true) true 33 v d p) (hsz : (DataW.weightsEach Try.prog ts ds).all (· ≤ reachBytes) = true) (hj : ts[j]? = some 33) (hd : ds[j]? = some d) :
    ∃ xs : List (Int × Int), RowP W v xs ∧ (∀ x ∈ xs, (Lit.int .i64 x.1).wf = true ∧ (Lit.int .i64 x.2).wf = true) ∧ xs.length * 16 ≤ 140737488351232 := by
  obtain ⟨a, len, cap, rfl⟩ := okWide_slice Try.underlying33 hv
  obtain ⟨fuel, hf⟩ := h
  rcases Deep.open_slice Try.underlying33 hf with ⟨hcs, _⟩ | ⟨x, l, c, m, n, D, Pl, hcs, _, hl, hm, hmm, hx, hel⟩
  · simp [Value.cells] at hcs
    obtain ⟨rfl, rfl, rfl⟩ := hcs
    exact ⟨[], .inl ⟨rfl, none, 0, rfl⟩, by simp, by simp⟩
  · simp [Value.cells] at hcs
    obtain ⟨rfl, rfl, rfl⟩ := hcs
    simp only [if_true] at hmm
    subst hmm
    have each : ∀ i, i < len → ∃ K N : Int, W.cell? (x.add (i * 2)) = some (.int .i64 K) ∧ W.cell? ((x.add (i * 2)).add 1) = some (.int .i64 N) ∧ (Lit.int .i64 K).wf = true ∧ (Lit.int .i64 N).wf = true := by
      intro i hi
      obtain ⟨cs', h1, h2⟩ := hel i (by omega)
      rw [cells40] at h1
      obtain ⟨y0, y1, n', _, hlen, t0, t1⟩ := trod_struct2 Try.underlying40 h2
      obtain ⟨_, hl2, hce⟩ := World.cells?_some h1
      match cs', hl2 with
      | [u0, u1], _ =>
        have hc0 := hce 0 (by omega)
        have hc1 := hce 1 (by omega)
        simp only [cells3, List.drop_zero, List.drop_succ_cons, List.take_succ_cons, List.take_zero] at t0 t1
        obtain ⟨K, e0, _, k0⟩ := DataW.trod_int Try.underlying3 t0
        obtain ⟨N, e1, _, k1⟩ := DataW.trod_int Try.underlying3 t1
        simp only [List.cons.injEq, and_true] at e0 e1
        subst e0 e1
        refine ⟨K, N, ?_, hc1, k0, k1⟩
        have e : (x.add (i * 2)).add 0 = x.add (i * 2) := by unfold Addr.add; split <;> simp_all
        rw [e] at hc0
        exact hc0
    obtain ⟨F, hF⟩ := Deep.choose_lt (α := Int × Int) (p := fun i y => W.cell? (x.add (i * 2)) = some (.int .i64 y.1) ∧ W.cell? ((x.add (i * 2)).add 1) = some (.int .i64 y.2) ∧ (Lit.int .i64 y.1).wf = true ∧ (Lit.int .i64 y.2).wf = true) (fun i hi => by
      obtain ⟨K, N, h⟩ := each i hi
      exact ⟨(K, N), h⟩)
    refine ⟨(List.range len).map F, ?_, ?_, ?_⟩
    · by_cases h0 : len = 0
      · subst h0
        exact .inl ⟨by simp, some x, _, rfl⟩
      · obtain ⟨b, off, spot⟩ := x
        have hspot : spot = none := by simpa [Addr.add] using World.cell?_spot (hF 0 (by omega)).1
        subst hspot
        refine .inr ⟨by simp; omega, b, off, m, by simp, fun i hi => ?_⟩
        have hi' : i < len := by simpa using hi
        have h := hF i hi'
        simp only [Addr.add_lit] at h
        simp only [List.getElem_map, List.getElem_range]
        exact ⟨h.1, h.2.1⟩
    · intro y hy
      obtain ⟨i, hi, rfl⟩ := List.mem_map.1 hy
      exact (hF i (by simpa using hi)).2.2
    · have hw := sized_slice hsz hj (by rw [hd, (Prod.mk.inj hx).1]) Try.underlying33
      rw [bytes40] at hw
      simp only [List.length_map, List.length_range, reachBytes] at hw ⊢
      omega
end

theorem reads_owes (H : Type) (enc : TypeId × Value → H) (W : World) (base : Nat) (args : Array Value) (ds : List (DataW H)) (p : List MemPlace) : Owes H enc Try.prog 4 Try.f4 Rows.octetReadsSpec W base args ds p := by
  intro hval hA hsz
  rw [Try.params4] at hA hval hsz
  obtain ⟨v0, vs0, d0, ds0, p0, q0, hargs, rfl, rfl, h0, r0⟩ := trodAll_cons hA
  obtain ⟨v1, vs1, d1, ds1, p1, q1, rfl, rfl, rfl, h1, r1⟩ := trodAll_cons r0
  obtain ⟨rfl, rfl, rfl⟩ := trodAll_nil r1
  obtain rfl : args = #[v0, v1] := by cases args; simp_all
  obtain ⟨xs, hrow, hwf, hlen⟩ := open_row (j := 0) Try.underlying22 Try.underlying5 (by kernel_rfl) (hval 0 22 v0 rfl rfl) h0 hsz rfl rfl
  obtain ⟨ls, hrow2, hwf2, hlen2⟩ := open_asks (j := 1) (hval 1 33 v1 rfl rfl) h1 hsz rfl rfl
  have hb : Try.prog.bytesOf 5 = 1 := by kernel_rfl
  rw [hb] at hlen
  refine ⟨⟨rfl, rfl, rfl⟩, reads_walk v0 v1 xs ls W hrow hrow2 (by omega) (by omega) (byt_of hwf) (fun y hy => ?_)⟩
  have b1 := bounds_i64 (hwf2 y hy).1
  have b2 := bounds_i64 (hwf2 y hy).2
  omega

set_option maxRecDepth 100000 in
theorem reads_lifted (os : Os) (started : os.Started) (H : Type) (enc : TypeId × Value → H) :
    ReturnsInHanded {} Try.checked os 4 .any (Rows.octetReadsSpec.pre6 enc Try.prog Try.f4 [] false) (Rows.octetReadsSpec.post enc Try.prog Try.f4 false true false false) :=
  lift_law (C := Try.checked) own laidOut started (by kernel_rfl) Try.func4 (T := 4) rfl Try.underlying4 rfl (by kernel_rfl)
    (ChangeSpec.witness6 (enc := enc) (C := Try.checked) false ⟨#[], #[.slice none 0 0, .slice none 0 0], []⟩ 8 (by kernel_rfl) (by kernel_rfl) (by kernel_rfl) (by kernel_rfl)) (reads_owes H enc)

theorem octetReads_holds : Rows.OctetReadsSaid :=
  OpenClaim.holds_of_wide 4 Try.f4 rfl rfl rfl rfl rfl rfl rfl ⟨rfl, rfl, rfl, rfl, rfl⟩ rfl rfl rfl rfl rfl (by kernel_rfl) Try.func4 (by kernel_rfl)
    (of_decide_eq_true (by kernel_rfl)) (by unfold Func.isWrapper; rw [if_neg (of_decide_eq_false (by kernel_rfl))]; exact ⟨rfl, rfl⟩)
    (fun os started H enc _ => reads_lifted os started H enc)
#print axioms octetReads_holds
end Go.Proofs.Ytbjjoidobnfghaa
