/- Several texts in one. -/
import Derived.Test.YtfoffnbkfnbglaaRows
import Derived.Test.YtfoffnbkfnbglaaLem
import Derived.ProofKit
import Derived.OpenShut
import Derived.SizedLaws
import Derived.JoinedCond
import Derived.Deep.CondSized
import Derived.Test.YtfoffnbkfnbglaaCU
import Derived.Deep.Slices
import Derived.Laws.IdiomArrays
import Derived.Test.YtfoffnbkfnbglaaCFxJ
/-
  The step from a walk to a given statement, for every law of this seat: what comes in is opened, and behind the call it reads as it did, since nothing that was there has turned.
-/
namespace Go.Proofs.Ytfoffnbkfnbglaa
open Go.ChangeShapes Go.WideShapes Go.ChangeAt Go.RowKit

theorem own : ownKnob Try.prog.godebug = none := by kernel_rfl
theorem laidOut : laidOutB Try.prog = true := by kernel_rfl

section
variable {H : Type} {enc : TypeId × Value → H}

theorem trod_lt_all {P : Program} {W : World} {t : TypeId} {v : Value} {d : DataW H} {p : List MemPlace} (h : DataW.Trod enc P W 0 (fun _ => true) true t v d p) : ∀ x ∈ p, x.block < W.heap.size := by
  obtain ⟨m, hm⟩ := h
  exact DataW.trod_lt m _ _ _ hm

/-- Behind a call that turns nothing that was there all arguments read as they did. -/
theorem same_all {P : Program} (hl : laidOutB P = true) {W W' : World} (hb : Below W.heap.size W W') : ∀ (ts : List TypeId) (vs : List Value) (ds : List (DataW H)) (ps : List MemPlace),
    (ts.all fun t => P.readableRec t && decide (t < P.types.size)) = true → DataW.TrodAll enc P W 0 (fun _ => true) true ts vs ds ps → DataW.TrodAll enc P W' 0 (fun b => decide (b < W.heap.size)) true ts vs ds ps := by
  intro ts
  induction ts with
  | nil =>
    intro vs ds ps _ h
    obtain ⟨rfl, rfl, rfl⟩ := trodAll_nil h
    exact trodAll_mk0
  | cons t ts ih =>
    intro vs ds ps ht h
    obtain ⟨v, vs', d, ds', p, q, rfl, rfl, rfl, h1, h2⟩ := trodAll_cons h
    simp only [List.all_cons, Bool.and_eq_true, decide_eq_true_eq] at ht
    exact trodAll_cons_mk (Below.trod hl ht.1.1 ht.1.2 h1 hb (trod_lt_all h1)) (ih vs' ds' q ht.2 h2)

/-- 'true, and the input reads as it did', out of a walk that turns nothing that was there. -/
theorem post_true {P : Program} (hl : laidOutB P = true) {s : ChangeSpec} {fn : Func} {T : TypeId} {W W' : World} {args : Array Value} {ds gs : List (DataW H)} {before : List MemPlace} (hres : fn.resultTypes = #[T]) (hT : P.underlying T = some .bool) (hvars : s.vars = [])
    (hread : (fn.params.toList.all fun t => P.readableRec t && decide (t < P.types.size)) = true)
    (hW : DataW.Whole enc P fn.params.toList s.vars false W args.toList ds gs before) (hfn : (s.fn H ds).results = [.lit (.bool true)] ∧ (s.fn H ds).args = ds ∧ (s.fn H ds).vars = [])
    (hb : Below W.heap.size W W') : s.post enc P fn false true false false W args (.bool true) W' := by
  have hW0 := hW
  obtain ⟨p, q, hA, hV, rfl, _, _⟩ := hW
  rw [hvars] at hV
  obtain ⟨rfl, rfl⟩ := trodVars_none hV
  obtain ⟨h1, h2, h3⟩ := hfn
  refine ⟨ds, [], _, [], p, [], hW0, ?_, ?_, ?_, hb.frame _, fun h => by cases h⟩
  · rw [List.append_nil, h1, hres]
    exact trodAll_mk1 (shut_bool hT _)
  · rw [List.append_nil, h2]
    exact same_all hl hb _ _ _ _ hread hA
  · rw [List.append_nil, h3, hvars]
    exact rfl

/-- A slice of integers that came in: its numbers, that each fits its kind, how many bytes they take. -/
theorem open_row {P : Program} {W : World} {base : Nat} {t e : TypeId} {k : IntKind} {v : Value} {d : DataW H} {p : List MemPlace} {ts : List TypeId} {ds : List (DataW H)} {j : Nat} (ht : P.underlying t = some (.slice e)) (he : P.underlying e = some (.int k)) (hc : P.cellsOf e = 1)
    (hv : Value.okWide P W .any base t v) (h : DataW.Trod enc P W 0 (fun _ => true) true t v d p) (hsz : (DataW.weightsEach P ts ds).all (· ≤ reachBytes) = true) (hj : ts[j]? = some t) (hd : ds[j]? = some d) :
    ∃ xs : List Int, Row k W v xs ∧ (∀ x ∈ xs, (Lit.int k x).wf = true) ∧ xs.length * P.bytesOf e ≤ 140737488351232 := by
  obtain ⟨a, len, cap, rfl⟩ := okWide_slice ht hv
  obtain ⟨fuel, hf⟩ := h
  rcases open_ints ht he hc hf with ⟨hcs, _⟩ | ⟨x, l, c, zs, hcs, _, hl, hm, hz, hx, hcell, hwz⟩
  · simp [Value.cells] at hcs
    obtain ⟨rfl, rfl, rfl⟩ := hcs
    exact ⟨[], Row.nil _ _, by simp, by simp⟩
  · simp [Value.cells] at hcs
    obtain ⟨rfl, rfl, rfl⟩ := hcs
    simp only [if_true] at hz
    have hlen : (zs.take len).length = len := by simp; omega
    refine ⟨zs.take len, ?_, fun n hn => hwz n (List.mem_of_mem_take hn), ?_⟩
    · by_cases h0 : len = 0
      · subst h0
        exact .inl ⟨by simp, some x, cap, rfl, (fun h => by cases h), hm⟩
      · obtain ⟨b, off, spot⟩ := x
        have hc0 := hcell 0 (by omega)
        have hspot : spot = none := by simpa [Addr.add] using World.cell?_spot hc0
        subst hspot
        refine .inr ⟨?_, b, off, cap, by rw [hlen], by rw [hlen]; exact hl, hm, fun i hi => ?_⟩
        · intro h
          rw [h] at hlen
          exact h0 (by simpa using hlen.symm)
        · rw [hlen] at hi
          have hci := hcell i (by omega)
          rw [Addr.add_lit] at hci
          rw [hci]
          have e2 : (zs.take len).getD i 0 = zs.getD i 0 := by simp [List.getD, hi]
          rw [e2]
    · have hw := sized_slice hsz hj (by rw [hd, (Prod.mk.inj hx).1]) ht
      simp only [lits, List.length_map, reachBytes] at hw
      rw [hlen] at hw ⊢
      rw [Nat.add_mul] at hw
      omega

/-- What a law's proof owes: whatever it is handed, the call returns true and turns nothing that was there. -/
def Owes (H : Type) (enc : TypeId × Value → H) (P : Program) (f : FuncId) (fn : Func) (s : ChangeSpec) (W : World) (base : Nat) (args : Array Value) (ds : List (DataW H)) (p : List MemPlace) : Prop :=
  (∀ (j : Nat) t v, fn.params[j]? = some t → args[j]? = some v → Value.okWide P W .any base t v) →
  DataW.TrodAll enc P W 0 (fun _ => true) true fn.params.toList args.toList ds p →
  (DataW.weightsEach P fn.params.toList ds).all (· ≤ reachBytes) = true →
  ((s.fn H ds).results = [.lit (.bool true)] ∧ (s.fn H ds).args = ds ∧ (s.fn H ds).vars = []) ∧
  Calls P f args W fun e W' => e = .returned (.bool true) ∧ Ext W W'

theorem lift_law {C : Checked} {os : Os} {f : FuncId} {fn : Func} {s : ChangeSpec} {T : TypeId} (hown : ownKnob C.prog.godebug = none) (hlaid : laidOutB C.prog = true) (started : os.Started) (noInit : C.prog.inits.idxOf? f = none) (hfn : C.prog.funcs[f]? = some fn)
    (hres : fn.resultTypes = #[T]) (hT : C.prog.underlying T = some .bool) (hvars : s.vars = [])
    (hread : (fn.params.toList.all fun t => C.prog.readableRec t && decide (t < C.prog.types.size)) = true)
    (witness : ∃ (w : World) (tape : Tape) (i : Input), w.os = os ∧ (w.forCall tape i).Shaped C.prog ∧ i.vars = [] ∧ Input.okWide C.prog (w.forCall tape i) .any w.heap.size f i ∧
      s.pre6 enc C.prog fn [] false (w.forCall tape i).memory i.args ∧ ({} : Assume).holds C.prog (lone (Frame.enter C.prog f i.args .normal) [] (w.forCall tape i)))
    (owes : ∀ W base args ds p, Owes H enc C.prog f fn s W base args ds p) :
    ReturnsInHanded {} C os f .any (s.pre6 enc C.prog fn [] false) (s.post enc C.prog fn false true false false) := by
  refine returnsInHanded_of_change_sized (C := C) hown started noInit hfn witness ?_
  intro W base args ds gs before hval hW _ hsz _
  have hW0 := hW
  obtain ⟨p, q, hA, hV, rfl, _, _⟩ := hW
  rw [hvars] at hV
  obtain ⟨rfl, rfl⟩ := trodVars_none hV
  have e : s.plain.varTypes C.prog = [] := by simp [ChangeSpec.plain, DataSpec.varTypes, hvars]
  rw [e, List.append_nil, List.append_nil] at hsz
  obtain ⟨hf, hc⟩ := owes W base args ds p hval hA hsz
  refine hc.mono fun e W' ⟨he, hb⟩ => ⟨_, he, ?_⟩
  exact post_true hlaid (T := T) hres hT hvars hread hW0 hf hb
end
end Go.Proofs.Ytfoffnbkfnbglaa

/-
  Instructions and codes that come in: what they hold.
-/
namespace Go.Proofs.Ytfoffnbkfnbglaa
open Go.ChangeShapes Go.WideShapes Go.ChangeAt Go.RowKit
set_option linter.unusedVariables false
set_option linter.unusedSimpArgs false

theorem cells_ins : Try.prog.cellsOf 39 = 16 := by kernel_rfl
theorem cells_inss : Try.prog.cellsOf 24 = 1 := by kernel_rfl
theorem cells_cod : Try.prog.cellsOf 26 = 6 := by kernel_rfl
theorem cells_intC : Try.prog.cellsOf 3 = 1 := by kernel_rfl
theorem cells_fixC : Try.prog.cellsOf 34 = 1 := by kernel_rfl
theorem cells_vecC : Try.prog.cellsOf 36 = 4 := by kernel_rfl
theorem cells_plC : Try.prog.cellsOf 37 = 4 := by kernel_rfl
theorem wf64 {x : Int} (h : (Lit.int .i64 x).wf = true) : -9223372036854775808 ≤ x ∧ x ≤ 9223372036854775807 := by
  simp only [Lit.wf, Bool.and_eq_true, decide_eq_true_eq] at h
  exact h
theorem wf32 {x : Int} (h : (Lit.int .i32 x).wf = true) : -2147483648 ≤ x ∧ x ≤ 2147483647 := by
  simp only [Lit.wf, Bool.and_eq_true, decide_eq_true_eq] at h
  exact h
def ofL (l : List Int) (k : Nat) : Int := l.getD k 0

section
variable {H : Type} {enc : TypeId × Value → H}
set_option maxRecDepth 100000 in
set_option maxHeartbeats 2000000 in
/-- Sixteen cells that read as an instruction. -/
theorem open_ins {W : World} {fuel : Nat} {c0 c1 c2 c3 c4 c5 c6 c7 c8 c9 c10 c11 c12 c13 c14 c15 : Value} {y : DataW H × List MemPlace} (hf : DataW.trod enc Try.prog W 0 (fun _ => true) true fuel 39 [c0, c1, c2, c3, c4, c5, c6, c7, c8, c9, c10, c11, c12, c13, c14, c15] = some y) :
    ∃ I : Nat → Int, [c0, c1, c2, c3, c4, c5, c6, c7, c8, c9, c10, c11, c12, c13, c14, c15] = (insA I).toList ∧ OkI I := by
  obtain ⟨xs, n, _, rfl, hl, hlen, hfs⟩ := DataW.trod_struct Try.underlying39 hf
  match xs, hlen with
  | [y0, y1, y2, y3, y4, y5, y6, y7, y8, y9], _ =>
    have t0 : DataW.trod enc Try.prog W 0 (fun _ => true) true n 3 [c0] = some y0 := by simpa [cells_intC] using hfs 0 _ rfl
    have t1 : DataW.trod enc Try.prog W 0 (fun _ => true) true n 3 [c1] = some y1 := by simpa [cells_intC] using hfs 1 _ rfl
    have t2 : DataW.trod enc Try.prog W 0 (fun _ => true) true n 3 [c2] = some y2 := by simpa [cells_intC] using hfs 2 _ rfl
    have t3 : DataW.trod enc Try.prog W 0 (fun _ => true) true n 3 [c3] = some y3 := by simpa [cells_intC] using hfs 3 _ rfl
    have t4 : DataW.trod enc Try.prog W 0 (fun _ => true) true n 3 [c4] = some y4 := by simpa [cells_intC] using hfs 4 _ rfl
    have t5 : DataW.trod enc Try.prog W 0 (fun _ => true) true n 3 [c5] = some y5 := by simpa [cells_intC] using hfs 5 _ rfl
    have t6 : DataW.trod enc Try.prog W 0 (fun _ => true) true n 3 [c6] = some y6 := by simpa [cells_intC] using hfs 6 _ rfl
    have t7 : DataW.trod enc Try.prog W 0 (fun _ => true) true n 3 [c7] = some y7 := by simpa [cells_intC] using hfs 7 _ rfl
    have t8 : DataW.trod enc Try.prog W 0 (fun _ => true) true n 36 [c8, c9, c10, c11] = some y8 := by simpa [cells_vecC] using hfs 8 _ rfl
    have t9 : DataW.trod enc Try.prog W 0 (fun _ => true) true n 37 [c12, c13, c14, c15] = some y9 := by simpa [cells_plC] using hfs 9 _ rfl
    obtain ⟨v0, v1, v2, v3, m, _, u0, u1, u2, u3⟩ := trod_array4 Try.underlying36 cells_fixC t8
    obtain ⟨z0, z1, z2, z3, m2, _, s0, s1, s2, s3⟩ := trod_array4 Try.underlying37 cells_intC t9
    obtain ⟨a0, e0, _, k0⟩ := DataW.trod_int Try.underlying3 t0
    obtain ⟨a1, e1, _, k1⟩ := DataW.trod_int Try.underlying3 t1
    obtain ⟨a2, e2, _, k2⟩ := DataW.trod_int Try.underlying3 t2
    obtain ⟨a3, e3, _, k3⟩ := DataW.trod_int Try.underlying3 t3
    obtain ⟨a4, e4, _, k4⟩ := DataW.trod_int Try.underlying3 t4
    obtain ⟨a5, e5, _, k5⟩ := DataW.trod_int Try.underlying3 t5
    obtain ⟨a6, e6, _, k6⟩ := DataW.trod_int Try.underlying3 t6
    obtain ⟨a7, e7, _, k7⟩ := DataW.trod_int Try.underlying3 t7
    obtain ⟨a8, e8, _, k8⟩ := DataW.trod_int Try.underlying34 u0
    obtain ⟨a9, e9, _, k9⟩ := DataW.trod_int Try.underlying34 u1
    obtain ⟨a10, e10, _, k10⟩ := DataW.trod_int Try.underlying34 u2
    obtain ⟨a11, e11, _, k11⟩ := DataW.trod_int Try.underlying34 u3
    obtain ⟨a12, e12, _, k12⟩ := DataW.trod_int Try.underlying3 s0
    obtain ⟨a13, e13, _, k13⟩ := DataW.trod_int Try.underlying3 s1
    obtain ⟨a14, e14, _, k14⟩ := DataW.trod_int Try.underlying3 s2
    obtain ⟨a15, e15, _, k15⟩ := DataW.trod_int Try.underlying3 s3
    simp only [List.cons.injEq, and_true] at e0 e1 e2 e3 e4 e5 e6 e7 e8 e9 e10 e11 e12 e13 e14 e15
    subst e0 e1 e2 e3 e4 e5 e6 e7 e8 e9 e10 e11 e12 e13 e14 e15
    refine ⟨ofL [a0, a1, a2, a3, a4, a5, a6, a7, a8, a9, a10, a11, a12, a13, a14, a15], rfl, fun k hk => ?_, fun k hk => ?_, fun k hk => ?_⟩
    · rcases (by omega : k = 0 ∨ k = 1 ∨ k = 2 ∨ k = 3 ∨ k = 4 ∨ k = 5 ∨ k = 6 ∨ k = 7) with rfl | rfl | rfl | rfl | rfl | rfl | rfl | rfl
      · exact wf64 k0
      · exact wf64 k1
      · exact wf64 k2
      · exact wf64 k3
      · exact wf64 k4
      · exact wf64 k5
      · exact wf64 k6
      · exact wf64 k7
    · rcases (by omega : k = 0 ∨ k = 1 ∨ k = 2 ∨ k = 3) with rfl | rfl | rfl | rfl
      · exact wf32 k8
      · exact wf32 k9
      · exact wf32 k10
      · exact wf32 k11
    · rcases (by omega : k = 0 ∨ k = 1 ∨ k = 2 ∨ k = 3) with rfl | rfl | rfl | rfl
      · exact wf64 k12
      · exact wf64 k13
      · exact wf64 k14
      · exact wf64 k15

set_option maxRecDepth 10000 in
/-- A slice of instructions within what came in. -/
theorem open_inss {W : World} {u : Value} {fuel : Nat} {y : DataW H × List MemPlace} (hf : DataW.trod enc Try.prog W 0 (fun _ => true) true fuel 24 [u] = some y) :
    ∃ L : List (Nat → Int), IR W u L ∧ ∀ I ∈ L, OkI I := by
  rcases Deep.open_slice Try.underlying24 hf with ⟨hcs, _⟩ | ⟨x, l, c, m, n, D, Pl, hcs, _, hl, hm, hmm, hx, hel⟩
  · simp at hcs
    subst hcs
    exact ⟨[], ⟨none, 0, rfl, fun _ => rfl, Nat.le_refl _, Nat.zero_le _, fun i hi => by simp at hi⟩, by simp⟩
  · simp at hcs
    subst hcs
    simp only [if_true] at hmm
    subst hmm
    have each : ∀ i, i < l → ∃ I : Nat → Int, OkI I ∧ ∀ j u, (insA I).toList[j]? = some u → W.cell? ((x.add (i * 16)).add j) = some u := by
      intro i hi
      obtain ⟨cs', h1, h2⟩ := hel i (by omega)
      rw [cells_ins] at h1
      obtain ⟨_, hl2, hce⟩ := World.cells?_some h1
      match cs', hl2 with
      | [c0, c1, c2, c3, c4, c5, c6, c7, c8, c9, c10, c11, c12, c13, c14, c15], _ =>
        obtain ⟨I, e, hok⟩ := open_ins h2
        refine ⟨I, hok, fun j u hu => ?_⟩
        rw [← e] at hu
        have hj : j < 16 := by simpa using (List.getElem?_eq_some_iff.1 hu).1
        have := hce j (by omega)
        rw [this]
        exact hu
    have hinh : Inhabited (Nat → Int) := ⟨zI⟩
    obtain ⟨F, hF⟩ := Deep.choose_lt (α := Nat → Int) (p := fun i I => OkI I ∧ ∀ j u, (insA I).toList[j]? = some u → W.cell? ((x.add (i * 16)).add j) = some u) (fun i hi => each i hi)
    have hlen : ((List.range l).map F).length = l := by simp
    refine ⟨(List.range l).map F, ⟨some x, _, by rw [hlen], (fun h => by cases h), by rw [hlen]; exact hl, hm, fun i hi => ?_⟩, fun I hI => ?_⟩
    · rw [hlen] at hi
      obtain ⟨b, off, spot⟩ := x
      have h0 := (hF 0 (by omega)).2 0 _ rfl
      have hspot : spot = none := by simpa [Addr.add] using World.cell?_spot h0
      subst hspot
      refine ⟨b, off, rfl, fun j u hu => ?_⟩
      simp only [List.getElem_map, List.getElem_range] at hu
      have h := (hF i hi).2 j u hu
      simpa only [Addr.add_lit] using h
    · obtain ⟨i, hi, rfl⟩ := List.mem_map.1 hI
      exact (hF i (List.mem_range.1 hi)).1

set_option maxRecDepth 100000 in
/-- A slice of instructions that came in. -/
theorem open_inssA {W : World} {base : Nat} {v : Value} {d : DataW H} {p : List MemPlace} (hv : Value.okWide Try.prog W .any base 24 v) (h : DataW.Trod enc Try.prog W 0 (fun _ => true) true 24 v d p) :
    ∃ L : List (Nat → Int), IR W v L ∧ ∀ I ∈ L, OkI I := by
  obtain ⟨a, len, cap, rfl⟩ := okWide_slice Try.underlying24 hv
  obtain ⟨fuel, hf⟩ := h
  exact open_inss (by simpa [Value.cells] using hf)
theorem arr6 {α : Type} {cs : Array α} (h : cs.size = 6) : ∃ c0 c1 c2 c3 c4 c5, cs = #[c0, c1, c2, c3, c4, c5] := by
  obtain ⟨l⟩ := cs
  match l, h with
  | [c0, c1, c2, c3, c4, c5], _ => exact ⟨c0, c1, c2, c3, c4, c5, rfl⟩
set_option maxRecDepth 100000 in
/-- Six cells that read as a code. -/
theorem open_cod {W : World} {fuel : Nat} {c0 c1 c2 c3 c4 c5 : Value} {y : DataW H × List MemPlace} (hf : DataW.trod enc Try.prog W 0 (fun _ => true) true fuel 26 [c0, c1, c2, c3, c4, c5] = some y) :
    ∃ C : Cod, #[c0, c1, c2, c3, c4, c5] = #[.int .i64 (C).stage, c1, .int .i64 (C).regs, .int .i64 (C).attr, .int .i64 (C).unif, .int .i64 (C).vary] ∧ IR W c1 C.ins ∧ ∀ I ∈ C.ins, OkI I := by
  obtain ⟨xs, n, _, rfl, hl, hlen, hfs⟩ := DataW.trod_struct Try.underlying26 hf
  match xs, hlen with
  | [y0, y1, y2, y3, y4, y5], _ =>
    have t0 : DataW.trod enc Try.prog W 0 (fun _ => true) true n 3 [c0] = some y0 := by simpa [cells_intC] using hfs 0 _ rfl
    have t1 : DataW.trod enc Try.prog W 0 (fun _ => true) true n 24 [c1] = some y1 := by simpa [cells_inss] using hfs 1 _ rfl
    have t2 : DataW.trod enc Try.prog W 0 (fun _ => true) true n 3 [c2] = some y2 := by simpa [cells_intC] using hfs 2 _ rfl
    have t3 : DataW.trod enc Try.prog W 0 (fun _ => true) true n 3 [c3] = some y3 := by simpa [cells_intC] using hfs 3 _ rfl
    have t4 : DataW.trod enc Try.prog W 0 (fun _ => true) true n 3 [c4] = some y4 := by simpa [cells_intC] using hfs 4 _ rfl
    have t5 : DataW.trod enc Try.prog W 0 (fun _ => true) true n 3 [c5] = some y5 := by simpa [cells_intC] using hfs 5 _ rfl
    obtain ⟨a0, e0, _, k0⟩ := DataW.trod_int Try.underlying3 t0
    obtain ⟨a2, e2, _, k2⟩ := DataW.trod_int Try.underlying3 t2
    obtain ⟨a3, e3, _, k3⟩ := DataW.trod_int Try.underlying3 t3
    obtain ⟨a4, e4, _, k4⟩ := DataW.trod_int Try.underlying3 t4
    obtain ⟨a5, e5, _, k5⟩ := DataW.trod_int Try.underlying3 t5
    simp only [List.cons.injEq, and_true] at e0 e2 e3 e4 e5
    subst e0 e2 e3 e4 e5
    obtain ⟨L, hL, hok⟩ := open_inss t1
    exact ⟨⟨a0, a2, a3, a4, a5, L⟩, rfl, hL, hok⟩
set_option maxRecDepth 100000 in
theorem open_codA {W : World} {base : Nat} {v : Value} {d : DataW H} {p : List MemPlace} (hv : Value.okWide Try.prog W .any base 26 v) (h : DataW.Trod enc Try.prog W 0 (fun _ => true) true 26 v d p) :
    ∃ (C : Cod) (u : Value), v = .agg #[.int .i64 (C).stage, u, .int .i64 (C).regs, .int .i64 (C).attr, .int .i64 (C).unif, .int .i64 (C).vary] ∧ IR W u C.ins ∧ ∀ I ∈ C.ins, OkI I := by
  obtain ⟨cs, rfl, hsz⟩ := okWide_struct Try.underlying26 hv
  rw [cells_cod] at hsz
  obtain ⟨c0, c1, c2, c3, c4, c5, rfl⟩ := arr6 hsz
  obtain ⟨fuel, hf⟩ := h
  obtain ⟨C, e, h1, h2⟩ := open_cod (by simpa [Value.cells] using hf)
  exact ⟨C, c1, by rw [e], h1, h2⟩
end
end Go.Proofs.Ytfoffnbkfnbglaa

/-
  The statement CodeReads: which code any bytes are is told as the document says. No conditions.
-/
namespace Go.Proofs.Ytfoffnbkfnbglaa
open Go.ChangeShapes Go.WideShapes Go.ChangeAt Go.RowKit
set_option linter.unusedVariables false
set_option linter.unusedSimpArgs false

/-- What stays from round to round. -/
def RdS (w : World) (ds : List Int) (ao : Option Addr) (cp B4 : Nat) (D : Cod) (ai : Option Addr) (ci : Nat) (n : Nat) (wx : World) : Prop :=
  Ext w wx ∧ Own .u8 wx w.heap.size 5 (.slice ao (n + 1) cp) (ds ++ [7]) ∧ Blk wx B4 #[.int .i64 (D).stage, .slice ai D.ins.length ci, .int .i64 (D).regs, .int .i64 (D).attr, .int .i64 (D).unif, .int .i64 (D).vary] 26 ∧ (decB ds = true → IR wx (.slice ai D.ins.length ci) D.ins)
theorem RdS.ext {w : World} {ds : List Int} {ao : Option Addr} {cp B4 : Nat} {D : Cod} {ai : Option Addr} {ci n : Nat} {wx wy : World} (h : RdS w ds ao cp B4 D ai ci n wx) (hx : Ext wx wy) : RdS w ds ao cp B4 D ai ci n wy :=
  ⟨h.1.trans hx, own_ext h.2.1 hx, h.2.2.1.ext hx, fun hd => (h.2.2.2 hd).ext hx⟩

set_option maxRecDepth 10000 in
set_option maxHeartbeats 8000000 in
theorem codeReads_walk (bo : Option Addr) (cb : Nat) (bs : List Int) (w : World) (hb : Row .u8 w (.slice bo bs.length cb) bs) (hB : Byt bs) :
    Calls Try.prog 3 #[.slice bo bs.length cb] w fun e w' => e = .returned (.bool true) ∧ Ext w w' := by
  obtain ⟨m, hm0⟩ : ∃ m, m = min bs.length 20000 := ⟨_, rfl⟩
  obtain ⟨ds, hds0⟩ : ∃ ds, ds = bs.take m := ⟨_, rfl⟩
  have hds : ds.length = m := by rw [hds0, List.length_take]; omega
  obtain ⟨_, _, esh, hsh, hlc, hcm⟩ := hb.shape
  have esh2 := (Value.slice.inj esh).2.2
  have esh1 := (Value.slice.inj esh).1
  have HD : Hid (∀ wx, Ext w wx → Row .u8 wx (.slice bo ds.length cb) ds) := fun wx hx => by
    have h1 := (hb.below hx).cut 0 m (by omega) bo (fun b off e _ => by rw [e]; rfl) (fun e => by rw [e] at esh1; have := (hsh esh1.symm); omega)
    rw [hds, hds0]
    simpa using h1
  have HBD : Hid (Byt ds) := fun x hx => hB x (by rw [hds0] at hx; exact List.mem_of_mem_take hx)
  rw [← esh2] at hlc hcm
  unfold maxLen at hcm
  have hml : m ≤ bs.length := by omega
  have hm2 : m ≤ 20000 := by omega
  have hmn : (bs.length ≤ 20000 ∧ m = bs.length) ∨ (20000 < bs.length ∧ m = 20000) := by omega
  obtain ⟨n, hn⟩ : ∃ n, bs.length = n := ⟨_, rfl⟩
  rw [hn] at hml hmn hlc ⊢
  clear hds0 hb hB hm0 esh esh1 esh2 hsh hn
  have HR : Hid (∀ wx, Ext w wx → Row .u8 wx (.slice bo m cb) ds) := fun wx hx => by rw [← hds]; exact unhide HD wx hx
  have hmc : (m : Int) ≤ (cb : Int) := by omega
  have hmin : min (n : Int) 20000 = (m : Int) := by omega
  clear hmn
  have HOF : Hid (∀ wx, Ext w wx → Calls Try.prog 6 #[.slice bo m cb] wx (OfQ wx ds)) := fun wx hx => by
    have := refOf_any bo cb ds wx (unhide HD wx hx) (unhide HBD)
    rw [hds] at this
    exact this
  obtain ⟨i0, hi, hz0, hz1, hz2⟩ := info_parts infoU8C
  have HDS := hide hds
  clear hds
  go_enter Try.func3, Try.ntmps3
  go_wp2_with (go_at_call 9999)
  refine (wakes_any _).mono ?_
  rintro e w1 ⟨rfl, hx1⟩
  have HX := hide hx1
  clear hx1
  go_wp2_with (refine wpList_make_Own _ rfl (Operand.const (Value.int .i64 0)) (.tmp 19) 22 rfl w.heap.size 5 i0 (.int .u8 0) .u8 Try.underlying22 hi hz0 hz1 .i64 .i64 _ (m + 2) rfl rfl ?c1 ?c2 ?c3 (unhide HX).size ?_)
  case c1 => omega
  case c2 => rw [hz2]; omega
  case c3 => unfold maxLen; omega
  intro w2 hown2 hg2
  have hx2 : Ext w w2 := (unhide HX).grown hg2 (unhide HX).size (fun k e => by cases e)
  clear hg2 HX
  go_wp2_with (at_builtin; refine wpList_append_Own rfl (.tmp 20) (.tmp 21) 22 rfl w.heap.size 5 i0 .u8 1 Try.underlying22 hi hz0 hz1 hz2 _ [] rfl hown2 _ ds rfl (unhide HR _ hx2) ?c1 ?c2 ?c3 ?_)
  case c1 => unfold maxLen; simp [unhide HDS]; omega
  case c2 => simp [unhide HDS]; omega
  case c3 => exact hx2.size
  intro v3 w3 hown3 hg3
  try rw [List.nil_append] at hown3
  have hx3 : Ext w w3 := hx2.grown hg3 hx2.size (fun g e => (World.ownsRow.lt hown2 g e).1)
  obtain ⟨a3, c3, rfl⟩ := hown3.shape
  rw [unhide HDS] at hown3 ⊢
  have HO3 := hide hown3
  have HX3 := hide hx3
  clear hown2 hx2 hg3 hown3 hx3
  have hsz := (unhide HX3).size
  go_wp2_with (at_builtin; refine wpList_append_Own rfl (.tmp 22) (.tmp 23) 22 rfl w.heap.size 5 i0 .u8 1 Try.underlying22 hi hz0 hz1 hz2 _ ds rfl (own_ext (unhide HO3) ((Ext.refl w3).alloc _)) _ [7] rfl ((Own.block (k := .u8) (e := 5) (base := 0) w3 [7] (Nat.zero_le _) (by unfold maxLen; simp)).row) ?c1 ?c2 ?c3 ?_)
  case c1 => unfold maxLen; simp [unhide HDS]; omega
  case c2 => simp [unhide HDS]; omega
  case c3 => simp; omega
  intro v4 w4 hown4 hg4
  have hx4 : Ext w w4 := ((unhide HX3).alloc _).grown hg4 (by simp; omega) (fun g e => (World.ownsRow.lt (unhide HO3) g e).1)
  have hl4 : (ds ++ [7]).length = m + 1 := by rw [List.length_append, unhide HDS]; rfl
  obtain ⟨a4, c4, e4⟩ := hown4.shape
  rw [hl4] at e4
  subst e4
  obtain ⟨_, _, e4, _, hc4, hm4⟩ := hown4.row.shape
  have e4' := (Value.slice.inj e4).2.2
  rw [← e4', hl4] at hc4
  rw [← e4'] at hm4
  unfold maxLen at hm4
  obtain ⟨g4, hg4b, _⟩ := hown4.addr9 (by rw [hl4]; omega)
  subst hg4b
  have HO4 := hide hown4
  have HX4 := hide hx4
  clear hown4 hx4 hg4 HO3 HX3 e4 e4' hsz
  go_wp2_with (go_at_call 9999)
  refine (unhide HOF _ (unhide HX4)).mono ?_
  rintro e w5 ⟨hx5, D, ai, ci, rfl, himp⟩
  have HIMP := hide himp
  obtain ⟨db, hdb⟩ : ∃ db, decB ds = db := ⟨_, rfl⟩
  have HDB := hide hdb
  rw [hdb]
  have HS : RdS w ds (some ⟨g4, 0, none⟩) c4 w5.heap.size D ai ci m (w5.alloc (.cells #[.int .i64 (D).stage, .slice ai D.ins.length ci, .int .i64 (D).regs, .int .i64 (D).attr, .int .i64 (D).unif, .int .i64 (D).vary] 26)) := ⟨((unhide HX4).trans hx5).alloc _, (own_ext (unhide HO4) hx5).alloc _, Blk.new _ _ _, fun h => (himp h).2.ext ((Ext.refl w5).alloc _)⟩
  clear himp hdb hx5 HX4 HO4 hi hz0 hz1 hz2
  go_upto_region 6 with (refine wpList_storeLast rfl 26 (.tmp 4) (.tmp 28) rfl _ w5.heap.size rfl rfl #[.int .i64 (D).stage, .slice ai D.ins.length ci, .int .i64 (D).regs, .int .i64 (D).attr, .int .i64 (D).unif, .int .i64 (D).vary] rfl 6 size6 rfl rfl (by simp [Value.oneCell']) ?_)
  generalize w5.alloc (.cells #[.int .i64 (D).stage, .slice ai D.ins.length ci, .int .i64 (D).regs, .int .i64 (D).attr, .int .i64 (D).unif, .int .i64 (D).vary] 26) = w6 at HS ⊢
  generalize w5.heap.size = B4 at *
  have HRW : Hid (∀ wx, RdS w ds (some ⟨g4, 0, none⟩) c4 B4 D ai ci m wx → Row .u8 wx (.slice (some ⟨g4, 0, none⟩) m c4) ds) := fun wx h => by
    have h0 : Row .u8 wx (.slice (some ⟨g4, 0, none⟩) (ds ++ [7]).length c4) (ds ++ [7]) := by rw [hl4]; exact h.2.1.row
    have h1 := h0.cut 0 m (by rw [hl4]; omega) (some ⟨g4, 0, none⟩) (fun b off e _ => by rw [e]; rfl) (fun e => by cases e)
    have h2 : ((ds ++ [7]).drop 0).take m = ds := by rw [List.drop_zero, ← unhide HDS, List.take_left]
    rw [Nat.sub_zero] at h1
    rw [h2] at h1
    exact h1
  have HEQ : Hid (∀ wx, RdS w ds (some ⟨g4, 0, none⟩) c4 B4 D ai ci m wx → Calls Try.prog 8 #[.slice (some ⟨g4, 0, none⟩) m c4, .slice bo m cb] wx fun e w' => e = .returned (.bool true) ∧ w' = wx) := fun wx h => by
    have h1 := unhide HRW wx h
    have h2 := unhide HR wx h.1
    rw [← unhide HDS] at h1 h2 ⊢
    exact equal_sameC _ _ _ _ ds wx h1 h2
  have HC7 : Hid (∀ wx, RdS w ds (some ⟨g4, 0, none⟩) c4 B4 D ai ci m wx → wx.cell? ⟨g4, m, none⟩ = some (.int .u8 7)) := fun wx h => by
    have h1 := h.2.1.cellAt m (by rw [hl4]; omega)
    rw [h1, List.getElem_append_right (by rw [unhide HDS]; omega)]
    simp
  have HSS := hide HS
  clear HS
  go_wp2
  go_loopw [6] (fun iv wr => ∃ k : Nat, k ≤ 2 ∧ iv = .int .i64 (k : Int) ∧ RdS w ds (some ⟨g4, 0, none⟩) c4 B4 D ai ci m wr) (fun iv _ => 2 - (intOf iv).toNat)
  case atStart => exact ⟨0, by omega, rfl, unhide HSS⟩
  case round =>
    clear HSS
    obtain ⟨k, hk, rfl, hs⟩ := hrel
    rename World => wo
    have HS := hide hs
    clear hs
    by_cases hlt : k < 2
    · have hk2 : (k : Int) < 2 := by omega
      have hm4i : (m : Int) ≤ (c4 : Int) := by omega
      go_wp2_with (go_at_call 9999)
      refine (decode_any _ ds _ (unhide HRW _ (unhide HS)) (unhide HBD)).mono ?_
      rintro e wd ⟨hxd, ⟨hdt, a5, c5, rfl, hio⟩ | ⟨hdf, rfl⟩⟩
      · obtain rfl : db = true := by rw [← unhide HDB, hdt]
        obtain ⟨hD, hir⟩ := unhide HIMP hdt
        rw [← hD] at hio ⊢
        clear hD
        have HEA := hide hio.each
        have HS7 := hide ((unhide HS).ext (hxd.alloc (.cells #[.int .i64 (D).stage, .slice a5 D.ins.length c5, .int .i64 (D).regs, .int .i64 (D).attr, .int .i64 (D).unif, .int .i64 (D).vary] 26)))
        have HX7 : Hid (Ext wo (wd.alloc (.cells #[.int .i64 (D).stage, .slice a5 D.ins.length c5, .int .i64 (D).regs, .int .i64 (D).attr, .int .i64 (D).unif, .int .i64 (D).vary] 26))) := hxd.alloc _
        have HB7 := hide (Blk.new wd #[.int .i64 (D).stage, .slice a5 D.ins.length c5, .int .i64 (D).regs, .int .i64 (D).attr, .int .i64 (D).unif, .int .i64 (D).vary] 26)
        have HI7 := hide (hio.ir.ext ((Ext.refl wd).alloc (.cells #[.int .i64 (D).stage, .slice a5 D.ins.length c5, .int .i64 (D).regs, .int .i64 (D).attr, .int .i64 (D).unif, .int .i64 (D).vary] 26)))
        have HT7 : Hid (∀ i, i < D.ins.length → ∃ g, a5 = some ⟨g, 0, none⟩ ∧ wo.heap.size ≤ g ∧ g ≠ wd.heap.size ∧ (wd.alloc (.cells #[.int .i64 (D).stage, .slice a5 D.ins.length c5, .int .i64 (D).regs, .int .i64 (D).attr, .int .i64 (D).unif, .int .i64 (D).vary] 26)).there g (i * 16) 16) := fun i hi => by
          obtain ⟨g, h1, h2, h3, h4⟩ := unhide HEA i hi
          exact ⟨g, h1, h2, by omega, World.there_alloc h4 _⟩
        have hcap : D.ins.length ≤ 9223372036854775807 := by
          obtain ⟨_, _, _, _, h9, h10⟩ := hio.shape
          unfold maxLen at h10
          omega
        clear hio hxd hdt hir HEA
        go_upto_region 10 with (refine wpList_storeLast rfl 26 (.tmp 7) (.tmp 40) rfl _ wd.heap.size rfl rfl #[.int .i64 (D).stage, .slice a5 D.ins.length c5, .int .i64 (D).regs, .int .i64 (D).attr, .int .i64 (D).unif, .int .i64 (D).vary] rfl 6 size6 rfl rfl (by simp [Value.oneCell']) ?_)
        generalize wd.alloc (.cells #[.int .i64 (D).stage, .slice a5 D.ins.length c5, .int .i64 (D).regs, .int .i64 (D).attr, .int .i64 (D).unif, .int .i64 (D).vary] 26) = w7 at HS7 HX7 HB7 HI7 HT7 ⊢
        generalize wd.heap.size = B7 at *
        have cm := unhide HC7 _ (unhide HS7)
        go_wp2_with (go_at_call 9999)
        refine (unhide HEQ _ (unhide HS7)).mono ?_
        rintro e w8 ⟨rfl, rfl⟩
        have hmc4 : (m : Int) < (m : Int) + 1 := by omega
        go_wp2_with (first
          | refine wpList_load_row_wantC rfl 26 (.tmp 7) rfl B7 rfl 26 #[.int .i64 (D).stage, .slice a5 D.ins.length c5, .int .i64 (D).regs, .int .i64 (D).attr, .int .i64 (D).unif, .int .i64 (D).vary] (0, 0) _ (unhide HB7) Try.underlying26 rfl size6 ?_
          | refine wpList_load_row_wantC rfl 26 (.tmp 4) rfl B4 rfl 26 #[.int .i64 (D).stage, .slice ai D.ins.length ci, .int .i64 (D).regs, .int .i64 (D).attr, .int .i64 (D).unif, .int .i64 (D).vary] (0, 0) _ (unhide HS7).2.2.1 Try.underlying26 rfl size6 ?_
          | (go_at_call 9999))
        refine (refSame_any D D _ _ _ (unhide HI7) ((unhide HS7).2.2.2 (unhide HDB))).mono ?_
        rintro e w9 ⟨rfl, hx9⟩
        rw [sameC_refl]
        have HB9 := hide ((unhide HB7).ext hx9)
        have HX9 := hide ((unhide HX7).trans hx9)
        have HT9 : Hid (∀ i, i < D.ins.length → ∃ g, a5 = some ⟨g, 0, none⟩ ∧ wo.heap.size ≤ g ∧ g ≠ B7 ∧ w9.there g (i * 16) 16) := fun i hi => by
          obtain ⟨g, h1, h2, h3, h4⟩ := unhide HT7 i hi
          exact ⟨g, h1, h2, h3, thereX h4 hx9⟩
        clear hx9 HB7 HX7 HT7 HI7 HS7 cm
        have z1 : w9.cell? ⟨B7, 1, none⟩ = some (.slice a5 D.ins.length c5) := (unhide HB9).cell rfl
        go_wp2
        go_loopw [78] (fun iv wq => ∃ i : Nat, i ≤ D.ins.length ∧ iv = .int .i64 (i : Int) ∧ Ext wo wq ∧ Blk wq B7 #[.int .i64 (D).stage, .slice a5 D.ins.length c5, .int .i64 (D).regs, .int .i64 (D).attr, .int .i64 (D).unif, .int .i64 (D).vary] 26 ∧ ∀ i, i < D.ins.length → ∃ g, a5 = some ⟨g, 0, none⟩ ∧ wo.heap.size ≤ g ∧ g ≠ B7 ∧ wq.there g (i * 16) 16) (fun iv _ => D.ins.length - (intOf iv).toNat)
        case atStart => exact ⟨0, Nat.zero_le _, rfl, unhide HX9, unhide HB9, unhide HT9⟩
        case round =>
          clear HB9 HX9 HT9 z1
          obtain ⟨i, hi, rfl, hx, hb, ht⟩ := hrel
          by_cases hit : i < D.ins.length
          · have hii : (i : Int) < (D.ins.length : Int) := by omega
            obtain ⟨g, rfl, hg1, hg2, htt⟩ := ht i hit
            have z1 : wr.cell? ⟨B7, 1, none⟩ = some (.slice (some ⟨g, 0, none⟩) D.ins.length c5) := hb.cell rfl
            have HTT := hide htt
            have HR9 := hide (And.intro (extCells hg1 (insA zI).toList (i * 16) wr hx) (And.intro (hb.cellsO (r := g) (o := i * 16) (insA zI).toList (fun e => hg2 e.symm)) (fun j (hj : j < D.ins.length) => (show ∃ g', (some (⟨g, 0, none⟩ : Addr)) = some ⟨g', 0, none⟩ ∧ wo.heap.size ≤ g' ∧ g' ≠ B7 ∧ (wr.setCells g (i * 16) (insA zI).toList).there g' (j * 16) 16 from by
              obtain ⟨g', h1, h2, h3, h4⟩ := ht j hj
              exact ⟨g', h1, h2, h3, World.there_setCells h4 _ _ _⟩))))
            clear hx hb ht htt
            go_wp2_with (first
              | refine wpList_buildTo rfl 39 _ rfl (some 84) rfl (insA zI) (by kernel_rfl) ?_
              | refine wpList_store_mid rfl 39 (.tmp 85) (.tmp 84) rfl g _ (insA zI) rfl rfl ?h1 size16 (insA_one _) ?_)
            case h1 =>
              rw [show (insA zI).size = 16 from rfl]
              exact unhide HTT
            go_roundw
            case rel => exact ⟨i + 1, by omega, by go_num, (unhide HR9).1, (unhide HR9).2.1, (unhide HR9).2.2⟩
            case measure => simp [intOf]; omega
          · obtain rfl : i = D.ins.length := by omega
            have HXE := hide hx
            clear hx hb ht
            go_wp2
            go_roundw
            case rel => exact ⟨k + 1, by omega, by go_num, (unhide HS).ext (unhide HXE)⟩
            case measure => simp [intOf]; omega
      · obtain rfl : db = false := by rw [← unhide HDB, hdf]
        have HS7 := hide ((unhide HS).ext (hxd.alloc (.cells #[.int .i64 (zC).stage, .slice none 0 0, .int .i64 (zC).regs, .int .i64 (zC).attr, .int .i64 (zC).unif, .int .i64 (zC).vary] 26)))
        have HB7 := hide (Blk.new wd #[.int .i64 (zC).stage, .slice none 0 0, .int .i64 (zC).regs, .int .i64 (zC).attr, .int .i64 (zC).unif, .int .i64 (zC).vary] 26)
        clear hxd hdf
        go_upto_region 10 with (refine wpList_storeLast rfl 26 (.tmp 7) (.tmp 40) rfl _ wd.heap.size rfl rfl #[.int .i64 (zC).stage, .slice none 0 0, .int .i64 (zC).regs, .int .i64 (zC).attr, .int .i64 (zC).unif, .int .i64 (zC).vary] rfl 6 size6 rfl rfl (by simp [Value.oneCell']) ?_)
        generalize wd.alloc (.cells #[.int .i64 (zC).stage, .slice none 0 0, .int .i64 (zC).regs, .int .i64 (zC).attr, .int .i64 (zC).unif, .int .i64 (zC).vary] 26) = w7 at HS7 HB7 ⊢
        generalize wd.heap.size = B7 at *
        have cm := unhide HC7 _ (unhide HS7)
        go_wp2_with (go_at_call 9999)
        refine (unhide HEQ _ (unhide HS7)).mono ?_
        rintro e w8 ⟨rfl, rfl⟩
        go_wp2_with (first
          | refine wpList_load_row_wantC rfl 26 (.tmp 7) rfl B7 rfl 26 #[.int .i64 (zC).stage, .slice none 0 0, .int .i64 (zC).regs, .int .i64 (zC).attr, .int .i64 (zC).unif, .int .i64 (zC).vary] (0, 0) _ (unhide HB7) Try.underlying26 rfl size6 ?_
          | (go_at_call 9999))
        refine (refSame_any zC zC _ _ _ (ir_none0 _) (ir_none0 _)).mono ?_
        rintro e w9 ⟨rfl, hx9⟩
        rw [sameC_refl]
        have HS9 := hide ((unhide HS7).ext hx9)
        clear hx9 HS7 HB7 cm
        go_wp2
        go_roundw
        case rel => exact ⟨k + 1, by omega, by go_num, unhide HS9⟩
        case measure => simp [intOf]; omega
    · obtain rfl : k = 2 := by omega
      go_wp2
      go_ret
      exact ⟨rfl, (unhide HS).1⟩

set_option maxRecDepth 100000 in
theorem reads16_owes (H : Type) (enc : TypeId × Value → H) (W : World) (base : Nat) (args : Array Value) (ds : List (DataW H)) (p : List MemPlace) : Owes H enc Try.prog 3 Try.f3 Rows.codeReadsSpec W base args ds p := by
  intro hval hA hsz
  rw [Try.params3] at hA hval hsz
  obtain ⟨v0, vs0, d0, ds0, p0, q0, hargs, rfl, rfl, h0, r0⟩ := trodAll_cons hA
  obtain ⟨rfl, rfl, rfl⟩ := trodAll_nil r0
  obtain rfl : args = #[v0] := by cases args; simp_all
  obtain ⟨xs, hrow, hwf, hlen⟩ := open_row (j := 0) Try.underlying22 Try.underlying5 (by kernel_rfl) (hval 0 22 v0 rfl rfl) h0 hsz rfl rfl
  obtain ⟨bo, cb, rfl, _⟩ := hrow.shape
  exact ⟨⟨rfl, rfl, rfl⟩, codeReads_walk bo cb xs W hrow (fun x hx => by have := hwf x hx; simp only [Lit.wf, Bool.and_eq_true, decide_eq_true_eq] at this; exact this)⟩

set_option maxRecDepth 100000 in
theorem reads16_lifted (os : Os) (started : os.Started) (H : Type) (enc : TypeId × Value → H) :
    ReturnsInHanded {} Try.checked os 3 .any (Rows.codeReadsSpec.pre6 enc Try.prog Try.f3 [] false) (Rows.codeReadsSpec.post enc Try.prog Try.f3 false true false false) :=
  lift_law (C := Try.checked) own laidOut started (by kernel_rfl) Try.func3 (T := 4) rfl Try.underlying4 rfl (by kernel_rfl)
    (ChangeSpec.witness6 (enc := enc) (C := Try.checked) false ⟨#[], #[.slice none 0 0], []⟩ 8 (by kernel_rfl) (by kernel_rfl) (by kernel_rfl) (by kernel_rfl)) (reads16_owes H enc)

theorem codeReads_holds : Rows.CodeReadsSaid :=
  OpenClaim.holds_of_wide 3 Try.f3 rfl rfl rfl rfl rfl rfl rfl ⟨rfl, rfl, rfl, rfl, rfl⟩ rfl rfl rfl rfl rfl (by kernel_rfl) Try.func3 (by kernel_rfl)
    (of_decide_eq_true (by kernel_rfl)) (by unfold Func.isWrapper; rw [if_neg (of_decide_eq_false (by kernel_rfl))]; exact ⟨rfl, rfl⟩)
    (fun os started H enc _ => reads16_lifted os started H enc)
#print axioms codeReads_holds
end Go.Proofs.Ytfoffnbkfnbglaa
