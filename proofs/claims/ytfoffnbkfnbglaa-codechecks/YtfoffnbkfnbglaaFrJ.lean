/- Several texts in one. -/
import Derived.Test.YtfoffnbkfnbglaaRows
import Derived.Test.YtfoffnbkfnbglaaLem
import Derived.ProofKit
import Derived.OpenShut
import Derived.SizedLaws
import Derived.JoinedCond
import Derived.Deep.CondSized
import Derived.Test.YtfoffnbkfnbglaaCU
import Derived.Deep.Slices
import Derived.Laws.IdiomArrays
import Derived.Test.YtfoffnbkfnbglaaCBkJ
/-
  The step from a walk to a given statement, for every law of this seat: what comes in is opened, and behind the call it reads as it did, since nothing that was there has turned.
-/
namespace Go.Proofs.Ytfoffnbkfnbglaa
open Go.ChangeShapes Go.WideShapes Go.ChangeAt Go.RowKit

theorem own : ownKnob Try.prog.godebug = none := by kernel_rfl
theorem laidOut : laidOutB Try.prog = true := by kernel_rfl

section
variable {H : Type} {enc : TypeId × Value → H}

theorem trod_lt_all {P : Program} {W : World} {t : TypeId} {v : Value} {d : DataW H} {p : List MemPlace} (h : DataW.Trod enc P W 0 (fun _ => true) true t v d p) : ∀ x ∈ p, x.block < W.heap.size := by
  obtain ⟨m, hm⟩ := h
  exact DataW.trod_lt m _ _ _ hm

/-- Behind a call that turns nothing that was there all arguments read as they did. -/
theorem same_all {P : Program} (hl : laidOutB P = true) {W W' : World} (hb : Below W.heap.size W W') : ∀ (ts : List TypeId) (vs : List Value) (ds : List (DataW H)) (ps : List MemPlace),
    (ts.all fun t => P.readableRec t && decide (t < P.types.size)) = true → DataW.TrodAll enc P W 0 (fun _ => true) true ts vs ds ps → DataW.TrodAll enc P W' 0 (fun b => decide (b < W.heap.size)) true ts vs ds ps := by
  intro ts
  induction ts with
  | nil =>
    intro vs ds ps _ h
    obtain ⟨rfl, rfl, rfl⟩ := trodAll_nil h
    exact trodAll_mk0
  | cons t ts ih =>
    intro vs ds ps ht h
    obtain ⟨v, vs', d, ds', p, q, rfl, rfl, rfl, h1, h2⟩ := trodAll_cons h
    simp only [List.all_cons, Bool.and_eq_true, decide_eq_true_eq] at ht
    exact trodAll_cons_mk (Below.trod hl ht.1.1 ht.1.2 h1 hb (trod_lt_all h1)) (ih vs' ds' q ht.2 h2)

/-- 'true, and the input reads as it did', out of a walk that turns nothing that was there. -/
theorem post_true {P : Program} (hl : laidOutB P = true) {s : ChangeSpec} {fn : Func} {T : TypeId} {W W' : World} {args : Array Value} {ds gs : List (DataW H)} {before : List MemPlace} (hres : fn.resultTypes = #[T]) (hT : P.underlying T = some .bool) (hvars : s.vars = [])
    (hread : (fn.params.toList.all fun t => P.readableRec t && decide (t < P.types.size)) = true)
    (hW : DataW.Whole enc P fn.params.toList s.vars false W args.toList ds gs before) (hfn : (s.fn H ds).results = [.lit (.bool true)] ∧ (s.fn H ds).args = ds ∧ (s.fn H ds).vars = [])
    (hb : Below W.heap.size W W') : s.post enc P fn false true false false W args (.bool true) W' := by
  have hW0 := hW
  obtain ⟨p, q, hA, hV, rfl, _, _⟩ := hW
  rw [hvars] at hV
  obtain ⟨rfl, rfl⟩ := trodVars_none hV
  obtain ⟨h1, h2, h3⟩ := hfn
  refine ⟨ds, [], _, [], p, [], hW0, ?_, ?_, ?_, hb.frame _, fun h => by cases h⟩
  · rw [List.append_nil, h1, hres]
    exact trodAll_mk1 (shut_bool hT _)
  · rw [List.append_nil, h2]
    exact same_all hl hb _ _ _ _ hread hA
  · rw [List.append_nil, h3, hvars]
    exact rfl

/-- A slice of integers that came in: its numbers, that each fits its kind, how many bytes they take. -/
theorem open_row {P : Program} {W : World} {base : Nat} {t e : TypeId} {k : IntKind} {v : Value} {d : DataW H} {p : List MemPlace} {ts : List TypeId} {ds : List (DataW H)} {j : Nat} (ht : P.underlying t = some (.slice e)) (he : P.underlying e = some (.int k)) (hc : P.cellsOf e = 1)
    (hv : Value.okWide P W .any base t v) (h : DataW.Trod enc P W 0 (fun _ => true) true t v d p) (hsz : (DataW.weightsEach P ts ds).all (· ≤ reachBytes) = true) (hj : ts[j]? = some t) (hd : ds[j]? = some d) :
    ∃ xs : List Int, Row k W v xs ∧ (∀ x ∈ xs, (Lit.int k x).wf = true) ∧ xs.length * P.bytesOf e ≤ 140737488351232 := by
  obtain ⟨a, len, cap, rfl⟩ := okWide_slice ht hv
  obtain ⟨fuel, hf⟩ := h
  rcases open_ints ht he hc hf with ⟨hcs, _⟩ | ⟨x, l, c, zs, hcs, _, hl, hm, hz, hx, hcell, hwz⟩
  · simp [Value.cells] at hcs
    obtain ⟨rfl, rfl, rfl⟩ := hcs
    exact ⟨[], Row.nil _ _, by simp, by simp⟩
  · simp [Value.cells] at hcs
    obtain ⟨rfl, rfl, rfl⟩ := hcs
    simp only [if_true] at hz
    have hlen : (zs.take len).length = len := by simp; omega
    refine ⟨zs.take len, ?_, fun n hn => hwz n (List.mem_of_mem_take hn), ?_⟩
    · by_cases h0 : len = 0
      · subst h0
        exact .inl ⟨by simp, some x, cap, rfl, (fun h => by cases h), hm⟩
      · obtain ⟨b, off, spot⟩ := x
        have hc0 := hcell 0 (by omega)
        have hspot : spot = none := by simpa [Addr.add] using World.cell?_spot hc0
        subst hspot
        refine .inr ⟨?_, b, off, cap, by rw [hlen], by rw [hlen]; exact hl, hm, fun i hi => ?_⟩
        · intro h
          rw [h] at hlen
          exact h0 (by simpa using hlen.symm)
        · rw [hlen] at hi
          have hci := hcell i (by omega)
          rw [Addr.add_lit] at hci
          rw [hci]
          have e2 : (zs.take len).getD i 0 = zs.getD i 0 := by simp [List.getD, hi]
          rw [e2]
    · have hw := sized_slice hsz hj (by rw [hd, (Prod.mk.inj hx).1]) ht
      simp only [lits, List.length_map, reachBytes] at hw
      rw [hlen] at hw ⊢
      rw [Nat.add_mul] at hw
      omega

/-- What a law's proof owes: whatever it is handed, the call returns true and turns nothing that was there. -/
def Owes (H : Type) (enc : TypeId × Value → H) (P : Program) (f : FuncId) (fn : Func) (s : ChangeSpec) (W : World) (base : Nat) (args : Array Value) (ds : List (DataW H)) (p : List MemPlace) : Prop :=
  (∀ (j : Nat) t v, fn.params[j]? = some t → args[j]? = some v → Value.okWide P W .any base t v) →
  DataW.TrodAll enc P W 0 (fun _ => true) true fn.params.toList args.toList ds p →
  (DataW.weightsEach P fn.params.toList ds).all (· ≤ reachBytes) = true →
  ((s.fn H ds).results = [.lit (.bool true)] ∧ (s.fn H ds).args = ds ∧ (s.fn H ds).vars = []) ∧
  Calls P f args W fun e W' => e = .returned (.bool true) ∧ Ext W W'

theorem lift_law {C : Checked} {os : Os} {f : FuncId} {fn : Func} {s : ChangeSpec} {T : TypeId} (hown : ownKnob C.prog.godebug = none) (hlaid : laidOutB C.prog = true) (started : os.Started) (noInit : C.prog.inits.idxOf? f = none) (hfn : C.prog.funcs[f]? = some fn)
    (hres : fn.resultTypes = #[T]) (hT : C.prog.underlying T = some .bool) (hvars : s.vars = [])
    (hread : (fn.params.toList.all fun t => C.prog.readableRec t && decide (t < C.prog.types.size)) = true)
    (witness : ∃ (w : World) (tape : Tape) (i : Input), w.os = os ∧ (w.forCall tape i).Shaped C.prog ∧ i.vars = [] ∧ Input.okWide C.prog (w.forCall tape i) .any w.heap.size f i ∧
      s.pre6 enc C.prog fn [] false (w.forCall tape i).memory i.args ∧ ({} : Assume).holds C.prog (lone (Frame.enter C.prog f i.args .normal) [] (w.forCall tape i)))
    (owes : ∀ W base args ds p, Owes H enc C.prog f fn s W base args ds p) :
    ReturnsInHanded {} C os f .any (s.pre6 enc C.prog fn [] false) (s.post enc C.prog fn false true false false) := by
  refine returnsInHanded_of_change_sized (C := C) hown started noInit hfn witness ?_
  intro W base args ds gs before hval hW _ hsz _
  have hW0 := hW
  obtain ⟨p, q, hA, hV, rfl, _, _⟩ := hW
  rw [hvars] at hV
  obtain ⟨rfl, rfl⟩ := trodVars_none hV
  have e : s.plain.varTypes C.prog = [] := by simp [ChangeSpec.plain, DataSpec.varTypes, hvars]
  rw [e, List.append_nil, List.append_nil] at hsz
  obtain ⟨hf, hc⟩ := owes W base args ds p hval hA hsz
  refine hc.mono fun e W' ⟨he, hb⟩ => ⟨_, he, ?_⟩
  exact post_true hlaid (T := T) hres hT hvars hread hW0 hf hb
end
end Go.Proofs.Ytfoffnbkfnbglaa

/-
  Instructions and codes that come in: what they hold.
-/
namespace Go.Proofs.Ytfoffnbkfnbglaa
open Go.ChangeShapes Go.WideShapes Go.ChangeAt Go.RowKit
set_option linter.unusedVariables false
set_option linter.unusedSimpArgs false

theorem cells_ins : Try.prog.cellsOf 39 = 16 := by kernel_rfl
theorem cells_inss : Try.prog.cellsOf 24 = 1 := by kernel_rfl
theorem cells_cod : Try.prog.cellsOf 26 = 6 := by kernel_rfl
theorem cells_intC : Try.prog.cellsOf 3 = 1 := by kernel_rfl
theorem cells_fixC : Try.prog.cellsOf 34 = 1 := by kernel_rfl
theorem cells_vecC : Try.prog.cellsOf 36 = 4 := by kernel_rfl
theorem cells_plC : Try.prog.cellsOf 37 = 4 := by kernel_rfl
theorem wf64 {x : Int} (h : (Lit.int .i64 x).wf = true) : -9223372036854775808 ≤ x ∧ x ≤ 9223372036854775807 := by
  simp only [Lit.wf, Bool.and_eq_true, decide_eq_true_eq] at h
  exact h
theorem wf32 {x : Int} (h : (Lit.int .i32 x).wf = true) : -2147483648 ≤ x ∧ x ≤ 2147483647 := by
  simp only [Lit.wf, Bool.and_eq_true, decide_eq_true_eq] at h
  exact h
def ofL (l : List Int) (k : Nat) : Int := l.getD k 0

section
variable {H : Type} {enc : TypeId × Value → H}
set_option maxRecDepth 100000 in
set_option maxHeartbeats 2000000 in
/-- Sixteen cells that read as an instruction. -/
theorem open_ins {W : World} {fuel : Nat} {c0 c1 c2 c3 c4 c5 c6 c7 c8 c9 c10 c11 c12 c13 c14 c15 : Value} {y : DataW H × List MemPlace} (hf : DataW.trod enc Try.prog W 0 (fun _ => true) true fuel 39 [c0, c1, c2, c3, c4, c5, c6, c7, c8, c9, c10, c11, c12, c13, c14, c15] = some y) :
    ∃ I : Nat → Int, [c0, c1, c2, c3, c4, c5, c6, c7, c8, c9, c10, c11, c12, c13, c14, c15] = (insA I).toList ∧ OkI I := by
  obtain ⟨xs, n, _, rfl, hl, hlen, hfs⟩ := DataW.trod_struct Try.underlying39 hf
  match xs, hlen with
  | [y0, y1, y2, y3, y4, y5, y6, y7, y8, y9], _ =>
    have t0 : DataW.trod enc Try.prog W 0 (fun _ => true) true n 3 [c0] = some y0 := by simpa [cells_intC] using hfs 0 _ rfl
    have t1 : DataW.trod enc Try.prog W 0 (fun _ => true) true n 3 [c1] = some y1 := by simpa [cells_intC] using hfs 1 _ rfl
    have t2 : DataW.trod enc Try.prog W 0 (fun _ => true) true n 3 [c2] = some y2 := by simpa [cells_intC] using hfs 2 _ rfl
    have t3 : DataW.trod enc Try.prog W 0 (fun _ => true) true n 3 [c3] = some y3 := by simpa [cells_intC] using hfs 3 _ rfl
    have t4 : DataW.trod enc Try.prog W 0 (fun _ => true) true n 3 [c4] = some y4 := by simpa [cells_intC] using hfs 4 _ rfl
    have t5 : DataW.trod enc Try.prog W 0 (fun _ => true) true n 3 [c5] = some y5 := by simpa [cells_intC] using hfs 5 _ rfl
    have t6 : DataW.trod enc Try.prog W 0 (fun _ => true) true n 3 [c6] = some y6 := by simpa [cells_intC] using hfs 6 _ rfl
    have t7 : DataW.trod enc Try.prog W 0 (fun _ => true) true n 3 [c7] = some y7 := by simpa [cells_intC] using hfs 7 _ rfl
    have t8 : DataW.trod enc Try.prog W 0 (fun _ => true) true n 36 [c8, c9, c10, c11] = some y8 := by simpa [cells_vecC] using hfs 8 _ rfl
    have t9 : DataW.trod enc Try.prog W 0 (fun _ => true) true n 37 [c12, c13, c14, c15] = some y9 := by simpa [cells_plC] using hfs 9 _ rfl
    obtain ⟨v0, v1, v2, v3, m, _, u0, u1, u2, u3⟩ := trod_array4 Try.underlying36 cells_fixC t8
    obtain ⟨z0, z1, z2, z3, m2, _, s0, s1, s2, s3⟩ := trod_array4 Try.underlying37 cells_intC t9
    obtain ⟨a0, e0, _, k0⟩ := DataW.trod_int Try.underlying3 t0
    obtain ⟨a1, e1, _, k1⟩ := DataW.trod_int Try.underlying3 t1
    obtain ⟨a2, e2, _, k2⟩ := DataW.trod_int Try.underlying3 t2
    obtain ⟨a3, e3, _, k3⟩ := DataW.trod_int Try.underlying3 t3
    obtain ⟨a4, e4, _, k4⟩ := DataW.trod_int Try.underlying3 t4
    obtain ⟨a5, e5, _, k5⟩ := DataW.trod_int Try.underlying3 t5
    obtain ⟨a6, e6, _, k6⟩ := DataW.trod_int Try.underlying3 t6
    obtain ⟨a7, e7, _, k7⟩ := DataW.trod_int Try.underlying3 t7
    obtain ⟨a8, e8, _, k8⟩ := DataW.trod_int Try.underlying34 u0
    obtain ⟨a9, e9, _, k9⟩ := DataW.trod_int Try.underlying34 u1
    obtain ⟨a10, e10, _, k10⟩ := DataW.trod_int Try.underlying34 u2
    obtain ⟨a11, e11, _, k11⟩ := DataW.trod_int Try.underlying34 u3
    obtain ⟨a12, e12, _, k12⟩ := DataW.trod_int Try.underlying3 s0
    obtain ⟨a13, e13, _, k13⟩ := DataW.trod_int Try.underlying3 s1
    obtain ⟨a14, e14, _, k14⟩ := DataW.trod_int Try.underlying3 s2
    obtain ⟨a15, e15, _, k15⟩ := DataW.trod_int Try.underlying3 s3
    simp only [List.cons.injEq, and_true] at e0 e1 e2 e3 e4 e5 e6 e7 e8 e9 e10 e11 e12 e13 e14 e15
    subst e0 e1 e2 e3 e4 e5 e6 e7 e8 e9 e10 e11 e12 e13 e14 e15
    refine ⟨ofL [a0, a1, a2, a3, a4, a5, a6, a7, a8, a9, a10, a11, a12, a13, a14, a15], rfl, fun k hk => ?_, fun k hk => ?_, fun k hk => ?_⟩
    · rcases (by omega : k = 0 ∨ k = 1 ∨ k = 2 ∨ k = 3 ∨ k = 4 ∨ k = 5 ∨ k = 6 ∨ k = 7) with rfl | rfl | rfl | rfl | rfl | rfl | rfl | rfl
      · exact wf64 k0
      · exact wf64 k1
      · exact wf64 k2
      · exact wf64 k3
      · exact wf64 k4
      · exact wf64 k5
      · exact wf64 k6
      · exact wf64 k7
    · rcases (by omega : k = 0 ∨ k = 1 ∨ k = 2 ∨ k = 3) with rfl | rfl | rfl | rfl
      · exact wf32 k8
      · exact wf32 k9
      · exact wf32 k10
      · exact wf32 k11
    · rcases (by omega : k = 0 ∨ k = 1 ∨ k = 2 ∨ k = 3) with rfl | rfl | rfl | rfl
      · exact wf64 k12
      · exact wf64 k13
      · exact wf64 k14
      · exact wf64 k15

set_option maxRecDepth 10000 in
/-- A slice of instructions within what came in. -/
theorem open_inss {W : World} {u : Value} {fuel : Nat} {y : DataW H × List MemPlace} (hf : DataW.trod enc Try.prog W 0 (fun _ => true) true fuel 24 [u] = some y) :
    ∃ L : List (Nat → Int), IR W u L ∧ ∀ I ∈ L, OkI I := by
  rcases Deep.open_slice Try.underlying24 hf with ⟨hcs, _⟩ | ⟨x, l, c, m, n, D, Pl, hcs, _, hl, hm, hmm, hx, hel⟩
  · simp at hcs
    subst hcs
    exact ⟨[], ⟨none, 0, rfl, fun _ => rfl, Nat.le_refl _, Nat.zero_le _, fun i hi => by simp at hi⟩, by simp⟩
  · simp at hcs
    subst hcs
    simp only [if_true] at hmm
    subst hmm
    have each : ∀ i, i < l → ∃ I : Nat → Int, OkI I ∧ ∀ j u, (insA I).toList[j]? = some u → W.cell? ((x.add (i * 16)).add j) = some u := by
      intro i hi
      obtain ⟨cs', h1, h2⟩ := hel i (by omega)
      rw [cells_ins] at h1
      obtain ⟨_, hl2, hce⟩ := World.cells?_some h1
      match cs', hl2 with
      | [c0, c1, c2, c3, c4, c5, c6, c7, c8, c9, c10, c11, c12, c13, c14, c15], _ =>
        obtain ⟨I, e, hok⟩ := open_ins h2
        refine ⟨I, hok, fun j u hu => ?_⟩
        rw [← e] at hu
        have hj : j < 16 := by simpa using (List.getElem?_eq_some_iff.1 hu).1
        have := hce j (by omega)
        rw [this]
        exact hu
    have hinh : Inhabited (Nat → Int) := ⟨zI⟩
    obtain ⟨F, hF⟩ := Deep.choose_lt (α := Nat → Int) (p := fun i I => OkI I ∧ ∀ j u, (insA I).toList[j]? = some u → W.cell? ((x.add (i * 16)).add j) = some u) (fun i hi => each i hi)
    have hlen : ((List.range l).map F).length = l := by simp
    refine ⟨(List.range l).map F, ⟨some x, _, by rw [hlen], (fun h => by cases h), by rw [hlen]; exact hl, hm, fun i hi => ?_⟩, fun I hI => ?_⟩
    · rw [hlen] at hi
      obtain ⟨b, off, spot⟩ := x
      have h0 := (hF 0 (by omega)).2 0 _ rfl
      have hspot : spot = none := by simpa [Addr.add] using World.cell?_spot h0
      subst hspot
      refine ⟨b, off, rfl, fun j u hu => ?_⟩
      simp only [List.getElem_map, List.getElem_range] at hu
      have h := (hF i hi).2 j u hu
      simpa only [Addr.add_lit] using h
    · obtain ⟨i, hi, rfl⟩ := List.mem_map.1 hI
      exact (hF i (List.mem_range.1 hi)).1

set_option maxRecDepth 100000 in
/-- A slice of instructions that came in. -/
theorem open_inssA {W : World} {base : Nat} {v : Value} {d : DataW H} {p : List MemPlace} (hv : Value.okWide Try.prog W .any base 24 v) (h : DataW.Trod enc Try.prog W 0 (fun _ => true) true 24 v d p) :
    ∃ L : List (Nat → Int), IR W v L ∧ ∀ I ∈ L, OkI I := by
  obtain ⟨a, len, cap, rfl⟩ := okWide_slice Try.underlying24 hv
  obtain ⟨fuel, hf⟩ := h
  exact open_inss (by simpa [Value.cells] using hf)
theorem arr6 {α : Type} {cs : Array α} (h : cs.size = 6) : ∃ c0 c1 c2 c3 c4 c5, cs = #[c0, c1, c2, c3, c4, c5] := by
  obtain ⟨l⟩ := cs
  match l, h with
  | [c0, c1, c2, c3, c4, c5], _ => exact ⟨c0, c1, c2, c3, c4, c5, rfl⟩
set_option maxRecDepth 100000 in
/-- Six cells that read as a code. -/
theorem open_cod {W : World} {fuel : Nat} {c0 c1 c2 c3 c4 c5 : Value} {y : DataW H × List MemPlace} (hf : DataW.trod enc Try.prog W 0 (fun _ => true) true fuel 26 [c0, c1, c2, c3, c4, c5] = some y) :
    ∃ C : Cod, #[c0, c1, c2, c3, c4, c5] = #[.int .i64 (C).stage, c1, .int .i64 (C).regs, .int .i64 (C).attr, .int .i64 (C).unif, .int .i64 (C).vary] ∧ IR W c1 C.ins ∧ ∀ I ∈ C.ins, OkI I := by
  obtain ⟨xs, n, _, rfl, hl, hlen, hfs⟩ := DataW.trod_struct Try.underlying26 hf
  match xs, hlen with
  | [y0, y1, y2, y3, y4, y5], _ =>
    have t0 : DataW.trod enc Try.prog W 0 (fun _ => true) true n 3 [c0] = some y0 := by simpa [cells_intC] using hfs 0 _ rfl
    have t1 : DataW.trod enc Try.prog W 0 (fun _ => true) true n 24 [c1] = some y1 := by simpa [cells_inss] using hfs 1 _ rfl
    have t2 : DataW.trod enc Try.prog W 0 (fun _ => true) true n 3 [c2] = some y2 := by simpa [cells_intC] using hfs 2 _ rfl
    have t3 : DataW.trod enc Try.prog W 0 (fun _ => true) true n 3 [c3] = some y3 := by simpa [cells_intC] using hfs 3 _ rfl
    have t4 : DataW.trod enc Try.prog W 0 (fun _ => true) true n 3 [c4] = some y4 := by simpa [cells_intC] using hfs 4 _ rfl
    have t5 : DataW.trod enc Try.prog W 0 (fun _ => true) true n 3 [c5] = some y5 := by simpa [cells_intC] using hfs 5 _ rfl
    obtain ⟨a0, e0, _, k0⟩ := DataW.trod_int Try.underlying3 t0
    obtain ⟨a2, e2, _, k2⟩ := DataW.trod_int Try.underlying3 t2
    obtain ⟨a3, e3, _, k3⟩ := DataW.trod_int Try.underlying3 t3
    obtain ⟨a4, e4, _, k4⟩ := DataW.trod_int Try.underlying3 t4
    obtain ⟨a5, e5, _, k5⟩ := DataW.trod_int Try.underlying3 t5
    simp only [List.cons.injEq, and_true] at e0 e2 e3 e4 e5
    subst e0 e2 e3 e4 e5
    obtain ⟨L, hL, hok⟩ := open_inss t1
    exact ⟨⟨a0, a2, a3, a4, a5, L⟩, rfl, hL, hok⟩
set_option maxRecDepth 100000 in
theorem open_codA {W : World} {base : Nat} {v : Value} {d : DataW H} {p : List MemPlace} (hv : Value.okWide Try.prog W .any base 26 v) (h : DataW.Trod enc Try.prog W 0 (fun _ => true) true 26 v d p) :
    ∃ (C : Cod) (u : Value), v = .agg #[.int .i64 (C).stage, u, .int .i64 (C).regs, .int .i64 (C).attr, .int .i64 (C).unif, .int .i64 (C).vary] ∧ IR W u C.ins ∧ ∀ I ∈ C.ins, OkI I := by
  obtain ⟨cs, rfl, hsz⟩ := okWide_struct Try.underlying26 hv
  rw [cells_cod] at hsz
  obtain ⟨c0, c1, c2, c3, c4, c5, rfl⟩ := arr6 hsz
  obtain ⟨fuel, hf⟩ := h
  obtain ⟨C, e, h1, h2⟩ := open_cod (by simpa [Value.cells] using hf)
  exact ⟨C, c1, by rw [e], h1, h2⟩
end
end Go.Proofs.Ytfoffnbkfnbglaa

/-
  The statement CodeChecks: which codes may be, their bytes, and what can be come to, are told as the document says. No conditions.
-/
namespace Go.Proofs.Ytfoffnbkfnbglaa
open Go.ChangeShapes Go.WideShapes Go.ChangeAt Go.RowKit
set_option linter.unusedVariables false
set_option linter.unusedSimpArgs false

/-- The slice value v holds n codes. -/
def CodR (w : World) (v : Value) (n : Nat) : Prop := ∃ ao cap, v = .slice ao n cap ∧ n ≤ cap ∧ cap ≤ maxLen ∧ ∀ i, i < n → ∃ (b off : Nat) (C : Cod) (u : Value), ao = some ⟨b, off, none⟩ ∧ w.rangeAt b (off + i * 6) (#[.int .i64 (C).stage, u, .int .i64 (C).regs, .int .i64 (C).attr, .int .i64 (C).unif, .int .i64 (C).vary]).toList ∧ IR w u C.ins ∧ ∀ I ∈ C.ins, OkI I
theorem CodR.ext {w w' : World} {v : Value} {n : Nat} (h : CodR w v n) (hx : Ext w w') : CodR w' v n := by
  obtain ⟨ao, cap, e, h1, h2, h3⟩ := h
  refine ⟨ao, cap, e, h1, h2, fun i hi => ?_⟩
  obtain ⟨b, off, C, u, e2, c, hir, hok⟩ := h3 i hi
  exact ⟨b, off, C, u, e2, rng_ext c hx, hir.ext hx, hok⟩
theorem cells_codsC : Try.prog.cellsOf 41 = 1 := by kernel_rfl

section
variable {H : Type} {enc : TypeId × Value → H}
set_option maxRecDepth 10000 in
/-- A slice of codes within what came in. -/
theorem open_cods {W : World} {u : Value} {fuel : Nat} {y : DataW H × List MemPlace} (hf : DataW.trod enc Try.prog W 0 (fun _ => true) true fuel 41 [u] = some y) : ∃ n, CodR W u n := by
  rcases Deep.open_slice Try.underlying41 hf with ⟨hcs, _⟩ | ⟨x, l, c, m, n, D, Pl, hcs, _, hl, hm, hmm, hx, hel⟩
  · simp at hcs
    subst hcs
    exact ⟨0, none, 0, rfl, Nat.le_refl _, Nat.zero_le _, fun i hi => by omega⟩
  · simp at hcs
    subst hcs
    simp only [if_true] at hmm
    subst hmm
    refine ⟨l, some x, _, rfl, hl, hm, fun i hi => ?_⟩
    obtain ⟨cs', h1, h2⟩ := hel i (by omega)
    rw [cells_cod] at h1
    obtain ⟨_, hl2, hce⟩ := World.cells?_some h1
    match cs', hl2 with
    | [c0, c1, c2, c3, c4, c5], _ =>
      obtain ⟨C, e, hir, hok⟩ := open_cod h2
      obtain ⟨b, off, spot⟩ := x
      have hspot : spot = none := by
        obtain ⟨cs0, k1, _⟩ := hel 0 (by omega)
        rw [cells_cod] at k1
        obtain ⟨_, kl2, kce⟩ := World.cells?_some k1
        match cs0, kl2 with
        | [d0, d1, d2, d3, d4, d5], _ =>
          have h9 : W.cell? (((⟨b, off, spot⟩ : Addr).add (0 * 6)).add 0) = some d0 := by rw [kce 0 (by omega)]; rfl
          simpa [Addr.add] using World.cell?_spot h9
      subst hspot
      refine ⟨b, off, C, c1, rfl, fun j v hv => ?_, hir, hok⟩
      rw [← e] at hv
      have hj : j < 6 := by simpa using (List.getElem?_eq_some_iff.1 hv).1
      have h9 := hce j (by omega)
      rw [Addr.add_lit, Addr.add_lit] at h9
      rw [h9]
      exact hv
set_option maxRecDepth 100000 in
theorem open_codsA {W : World} {base : Nat} {v : Value} {d : DataW H} {p : List MemPlace} (hv : Value.okWide Try.prog W .any base 41 v) (h : DataW.Trod enc Try.prog W 0 (fun _ => true) true 41 v d p) : ∃ n, CodR W v n := by
  obtain ⟨a, len, cap, rfl⟩ := okWide_slice Try.underlying41 hv
  obtain ⟨fuel, hf⟩ := h
  exact open_cods (by simpa [Value.cells] using hf)
end

set_option maxRecDepth 10000 in
set_option maxHeartbeats 4000000 in
theorem codeChecks_walk (v : Value) (n : Nat) (w : World) (h : CodR w v n) : Calls Try.prog 4 #[v] w fun e w' => e = .returned (.bool true) ∧ Ext w w' := by
  have HV := hide h
  obtain ⟨ao, cap, rfl, hlc, hcm, hat⟩ := h
  clear hat
  unfold maxLen at hcm
  go_enter Try.func4, Try.ntmps4
  go_wp2_with (go_at_call 9999)
  refine (wakes_any w).mono ?_
  rintro e w1 ⟨rfl, hx1⟩
  have HX1 := hide hx1
  clear hx1
  go_wp2
  go_loopw [9] (fun iv wq => ∃ j : Nat, j ≤ n ∧ iv = .int .i64 (j : Int) ∧ Ext w wq) (fun iv _ => n - (intOf iv).toNat)
  case atStart => exact ⟨0, Nat.zero_le _, rfl, unhide HX1⟩
  case round =>
    clear HX1
    obtain ⟨j, hj, rfl, hx⟩ := hrel
    have X := hide hx
    clear hx
    by_cases hjt : j < n
    · have hjn : (j : Int) < (n : Int) := by omega
      obtain ⟨_, _, e1, _, _, hat⟩ := (unhide HV).ext (unhide X)
      have e1' := (Value.slice.inj e1).1
      subst e1'
      obtain ⟨b, off, C, u, rfl, hrg, hir, hok⟩ := hat j hjt
      have HRG := hide hrg
      have HIR := hide (hir.ext ((Ext.refl wr).alloc (.cells #[.int .i64 (C).stage, u, .int .i64 (C).regs, .int .i64 (C).attr, .int .i64 (C).unif, .int .i64 (C).vary] 26)))
      have HOK := hide hok
      obtain ⟨au, cu, eu, _⟩ := hir
      subst eu
      have HB := hide (Blk.new wr #[.int .i64 (C).stage, .slice au C.ins.length cu, .int .i64 (C).regs, .int .i64 (C).attr, .int .i64 (C).unif, .int .i64 (C).vary] 26)
      have HXA := hide ((unhide X).alloc (.cells #[.int .i64 (C).stage, .slice au C.ins.length cu, .int .i64 (C).regs, .int .i64 (C).attr, .int .i64 (C).unif, .int .i64 (C).vary] 26))
      clear hrg hok hat e1
      go_upto_region 6 with (first
        | (refine wpList_load_mid rfl 26 (.tmp 12) rfl b (off + j * 6) rfl (#[.int .i64 (C).stage, .slice au C.ins.length cu, .int .i64 (C).regs, .int .i64 (C).attr, .int .i64 (C).unif, .int .i64 (C).vary]).toList _ (unhide HRG) Try.underlying26 rfl size6 ?_; rw [Array.toArray_toList])
        | refine wpList_storeLast rfl 26 (.tmp 4) (.tmp 13) rfl _ wr.heap.size rfl rfl #[.int .i64 (C).stage, .slice au C.ins.length cu, .int .i64 (C).regs, .int .i64 (C).attr, .int .i64 (C).unif, .int .i64 (C).vary] rfl 6 size6 rfl rfl (by simp [Value.oneCell']) ?_)
      generalize wr.alloc (.cells #[.int .i64 (C).stage, .slice au C.ins.length cu, .int .i64 (C).regs, .int .i64 (C).attr, .int .i64 (C).unif, .int .i64 (C).vary] 26) = w4 at HIR HB HXA ⊢
      generalize wr.heap.size = B4 at *
      by_cases h12 : j < 12
      · have h12' : (j : Int) < 12 := by omega
        go_wp2_with (first
          | refine wpList_load_row_wantC rfl 26 (.tmp 4) rfl B4 rfl 26 #[.int .i64 (C).stage, .slice au C.ins.length cu, .int .i64 (C).regs, .int .i64 (C).attr, .int .i64 (C).unif, .int .i64 (C).vary] (0, 0) _ (unhide HB) Try.underlying26 rfl size6 ?_
          | (go_at_call 9999))
        refine (checks_any C _ w4 (unhide HIR) (unhide HOK)).mono ?_
        rintro e w5 ⟨rfl, hx5⟩
        have X5 := hide ((unhide HXA).trans hx5)
        clear hx5 HIR HB HXA HRG
        go_wp2
        go_roundw
        case rel => exact ⟨j + 1, by omega, by go_num, unhide X5⟩
        case measure => simp [intOf]; omega
      · have h12' : ¬ (j : Int) < 12 := by omega
        go_wp2
        go_roundw
        case rel => exact ⟨j + 1, by omega, by go_num, unhide HXA⟩
        case measure => simp [intOf]; omega
    · obtain rfl : j = n := by omega
      go_wp2
      go_ret
      exact ⟨rfl, unhide X⟩

set_option maxRecDepth 100000 in
theorem checks16_owes (H : Type) (enc : TypeId × Value → H) (W : World) (base : Nat) (args : Array Value) (ds : List (DataW H)) (p : List MemPlace) : Owes H enc Try.prog 4 Try.f4 Rows.codeChecksSpec W base args ds p := by
  intro hval hA hsz
  rw [Try.params4] at hA hval hsz
  obtain ⟨v0, vs0, d0, ds0, p0, q0, hargs, rfl, rfl, h0, r0⟩ := trodAll_cons hA
  obtain ⟨rfl, rfl, rfl⟩ := trodAll_nil r0
  obtain rfl : args = #[v0] := by cases args; simp_all
  obtain ⟨n, hn⟩ := open_codsA (hval 0 41 v0 rfl rfl) h0
  exact ⟨⟨rfl, rfl, rfl⟩, codeChecks_walk v0 n W hn⟩

set_option maxRecDepth 100000 in
theorem checks16_lifted (os : Os) (started : os.Started) (H : Type) (enc : TypeId × Value → H) :
    ReturnsInHanded {} Try.checked os 4 .any (Rows.codeChecksSpec.pre6 enc Try.prog Try.f4 [] false) (Rows.codeChecksSpec.post enc Try.prog Try.f4 false true false false) :=
  lift_law (C := Try.checked) own laidOut started (by kernel_rfl) Try.func4 (T := 4) rfl Try.underlying4 rfl (by kernel_rfl)
    (ChangeSpec.witness6 (enc := enc) (C := Try.checked) false ⟨#[], #[.slice none 0 0], []⟩ 8 (by kernel_rfl) (by kernel_rfl) (by kernel_rfl) (by kernel_rfl)) (checks16_owes H enc)

theorem codeChecks_holds : Rows.CodeChecksSaid :=
  OpenClaim.holds_of_wide 4 Try.f4 rfl rfl rfl rfl rfl rfl rfl ⟨rfl, rfl, rfl, rfl, rfl⟩ rfl rfl rfl rfl rfl (by kernel_rfl) Try.func4 (by kernel_rfl)
    (of_decide_eq_true (by kernel_rfl)) (by unfold Func.isWrapper; rw [if_neg (of_decide_eq_false (by kernel_rfl))]; exact ⟨rfl, rfl⟩)
    (fun os started H enc _ => checks16_lifted os started H enc)
#print axioms codeChecks_holds
end Go.Proofs.Ytfoffnbkfnbglaa
