/- Several texts in one. -/
import Derived.Test.YtjfhhhabcbkahaaGreatRows
import Derived.Test.YtjfhhhabcbkahaaGreatLem
import Derived.ProofKit
import Derived.OpenShut
import Derived.SizedLaws
import Derived.JoinedCond
import Derived.Deep.CondSized
import Derived.HandedShaped
import Derived.Test.YtjfhhhabcbkahaaGreatUAJ
import Derived.Deep.Slices
import Derived.Test.YtjfhhhabcbkahaaGreatTO5J
/-
  The step from a walk to a given statement, for every law of this seat: what comes in is opened, and behind the call it reads as it did, since nothing that was there has turned.
-/
namespace Go.Proofs.YtjfhhhabcbkahaaGreat
open Go.ChangeShapes Go.WideShapes Go.ChangeAt Go.RowKit

theorem own : ownKnob Tryz.prog.godebug = none := by kernel_rfl
theorem laidOut : laidOutB Tryz.prog = true := by kernel_rfl

section
variable {H : Type} {enc : TypeId × Value → H}

theorem trod_lt_all {P : Program} {W : World} {t : TypeId} {v : Value} {d : DataW H} {p : List MemPlace} (h : DataW.Trod enc P W 0 (fun _ => true) true t v d p) : ∀ x ∈ p, x.block < W.heap.size := by
  obtain ⟨m, hm⟩ := h
  exact DataW.trod_lt m _ _ _ hm

/-- Behind a call that turns nothing that was there all arguments read as they did. -/
theorem same_all {P : Program} (hl : laidOutB P = true) {W W' : World} (hb : Below W.heap.size W W') : ∀ (ts : List TypeId) (vs : List Value) (ds : List (DataW H)) (ps : List MemPlace),
    (ts.all fun t => P.readableRec t && decide (t < P.types.size)) = true → DataW.TrodAll enc P W 0 (fun _ => true) true ts vs ds ps → DataW.TrodAll enc P W' 0 (fun b => decide (b < W.heap.size)) true ts vs ds ps := by
  intro ts
  induction ts with
  | nil =>
    intro vs ds ps _ h
    obtain ⟨rfl, rfl, rfl⟩ := trodAll_nil h
    exact trodAll_mk0
  | cons t ts ih =>
    intro vs ds ps ht h
    obtain ⟨v, vs', d, ds', p, q, rfl, rfl, rfl, h1, h2⟩ := trodAll_cons h
    simp only [List.all_cons, Bool.and_eq_true, decide_eq_true_eq] at ht
    exact trodAll_cons_mk (Below.trod hl ht.1.1 ht.1.2 h1 hb (trod_lt_all h1)) (ih vs' ds' q ht.2 h2)

/-- 'true, and the input reads as it did', out of a walk that turns nothing that was there. -/
theorem post_true {P : Program} (hl : laidOutB P = true) {s : ChangeSpec} {fn : Func} {T : TypeId} {W W' : World} {args : Array Value} {ds gs : List (DataW H)} {before : List MemPlace} (hres : fn.resultTypes = #[T]) (hT : P.underlying T = some .bool) (hvars : s.vars = [])
    (hread : (fn.params.toList.all fun t => P.readableRec t && decide (t < P.types.size)) = true)
    (hW : DataW.Whole enc P fn.params.toList s.vars false W args.toList ds gs before) (hfn : (s.fn H ds).results = [.lit (.bool true)] ∧ (s.fn H ds).args = ds ∧ (s.fn H ds).vars = [])
    (hb : Below W.heap.size W W') : s.post enc P fn false true false false W args (.bool true) W' := by
  have hW0 := hW
  obtain ⟨p, q, hA, hV, rfl, _, _⟩ := hW
  rw [hvars] at hV
  obtain ⟨rfl, rfl⟩ := trodVars_none hV
  obtain ⟨h1, h2, h3⟩ := hfn
  refine ⟨ds, [], _, [], p, [], hW0, ?_, ?_, ?_, hb.frame _, fun h => by cases h⟩
  · rw [List.append_nil, h1, hres]
    exact trodAll_mk1 (shut_bool hT _)
  · rw [List.append_nil, h2]
    exact same_all hl hb _ _ _ _ hread hA
  · rw [List.append_nil, h3, hvars]
    exact rfl

/-- A slice of integers that came in: its numbers, that each fits its kind, how many bytes they take. -/
theorem open_row {P : Program} {W : World} {base : Nat} {t e : TypeId} {k : IntKind} {v : Value} {d : DataW H} {p : List MemPlace} {ts : List TypeId} {ds : List (DataW H)} {j : Nat} (ht : P.underlying t = some (.slice e)) (he : P.underlying e = some (.int k)) (hc : P.cellsOf e = 1)
    (hv : Value.okWide P W .any base t v) (h : DataW.Trod enc P W 0 (fun _ => true) true t v d p) (hsz : (DataW.weightsEach P ts ds).all (· ≤ reachBytes) = true) (hj : ts[j]? = some t) (hd : ds[j]? = some d) :
    ∃ xs : List Int, Row k W v xs ∧ (∀ x ∈ xs, (Lit.int k x).wf = true) ∧ xs.length * P.bytesOf e ≤ 140737488351232 := by
  obtain ⟨a, len, cap, rfl⟩ := okWide_slice ht hv
  obtain ⟨fuel, hf⟩ := h
  rcases open_ints ht he hc hf with ⟨hcs, _⟩ | ⟨x, l, c, zs, hcs, _, hl, hm, hz, hx, hcell, hwz⟩
  · simp [Value.cells] at hcs
    obtain ⟨rfl, rfl, rfl⟩ := hcs
    exact ⟨[], Row.nil _ _, by simp, by simp⟩
  · simp [Value.cells] at hcs
    obtain ⟨rfl, rfl, rfl⟩ := hcs
    simp only [if_true] at hz
    have hlen : (zs.take len).length = len := by simp; omega
    refine ⟨zs.take len, ?_, fun n hn => hwz n (List.mem_of_mem_take hn), ?_⟩
    · by_cases h0 : len = 0
      · subst h0
        exact .inl ⟨by simp, some x, cap, rfl, (fun h => by cases h), hm⟩
      · obtain ⟨b, off, spot⟩ := x
        have hc0 := hcell 0 (by omega)
        have hspot : spot = none := by simpa [Addr.add] using World.cell?_spot hc0
        subst hspot
        refine .inr ⟨?_, b, off, cap, by rw [hlen], by rw [hlen]; exact hl, hm, fun i hi => ?_⟩
        · intro h
          rw [h] at hlen
          exact h0 (by simpa using hlen.symm)
        · rw [hlen] at hi
          have hci := hcell i (by omega)
          rw [Addr.add_lit] at hci
          rw [hci]
          have e2 : (zs.take len).getD i 0 = zs.getD i 0 := by simp [List.getD, hi]
          rw [e2]
    · have hw := sized_slice hsz hj (by rw [hd, (Prod.mk.inj hx).1]) ht
      simp only [lits, List.length_map, reachBytes] at hw
      rw [hlen] at hw ⊢
      rw [Nat.add_mul] at hw
      omega

/-- What a law's proof owes: whatever it is handed, the call returns true and turns nothing that was there. -/
def Owes (H : Type) (enc : TypeId × Value → H) (P : Program) (f : FuncId) (fn : Func) (s : ChangeSpec) (W : World) (base : Nat) (args : Array Value) (ds : List (DataW H)) (p : List MemPlace) : Prop :=
  (∀ (j : Nat) t v, fn.params[j]? = some t → args[j]? = some v → Value.okWide P W .any base t v) →
  DataW.TrodAll enc P W 0 (fun _ => true) true fn.params.toList args.toList ds p →
  (DataW.weightsEach P fn.params.toList ds).all (· ≤ reachBytes) = true →
  ((s.fn H ds).results = [.lit (.bool true)] ∧ (s.fn H ds).args = ds ∧ (s.fn H ds).vars = []) ∧
  Calls P f args W fun e W' => e = .returned (.bool true) ∧ Ext W W'

theorem lift_law {C : Checked} {os : Os} {f : FuncId} {fn : Func} {s : ChangeSpec} {T : TypeId} (hown : ownKnob C.prog.godebug = none) (hlaid : laidOutB C.prog = true) (started : os.Started) (noInit : C.prog.inits.idxOf? f = none) (hfn : C.prog.funcs[f]? = some fn)
    (hres : fn.resultTypes = #[T]) (hT : C.prog.underlying T = some .bool) (hvars : s.vars = [])
    (hread : (fn.params.toList.all fun t => C.prog.readableRec t && decide (t < C.prog.types.size)) = true)
    (witness : ∃ (w : World) (tape : Tape) (i : Input), w.os = os ∧ (w.forCall tape i).Shaped C.prog ∧ i.vars = [] ∧ Input.okWide C.prog (w.forCall tape i) .any w.heap.size f i ∧
      s.pre6 enc C.prog fn [] false (w.forCall tape i).memory i.args ∧ ({} : Assume).holds C.prog (lone (Frame.enter C.prog f i.args .normal) [] (w.forCall tape i)))
    (owes : ∀ W base args ds p, Owes H enc C.prog f fn s W base args ds p) :
    ReturnsInHanded {} C os f .any (s.pre6 enc C.prog fn [] false) (s.post enc C.prog fn false true false false) := by
  refine returnsInHanded_of_change_sized (C := C) hown started noInit hfn witness ?_
  intro W base args ds gs before hval hW _ hsz _
  have hW0 := hW
  obtain ⟨p, q, hA, hV, rfl, _, _⟩ := hW
  rw [hvars] at hV
  obtain ⟨rfl, rfl⟩ := trodVars_none hV
  have e : s.plain.varTypes C.prog = [] := by simp [ChangeSpec.plain, DataSpec.varTypes, hvars]
  rw [e, List.append_nil, List.append_nil] at hsz
  obtain ⟨hf, hc⟩ := owes W base args ds p hval hA hsz
  refine hc.mono fun e W' ⟨he, hb⟩ => ⟨_, he, ?_⟩
  exact post_true hlaid (T := T) hres hT hvars hread hW0 hf hb
end
end Go.Proofs.YtjfhhhabcbkahaaGreat

/-
  The step from a walk to a given statement, where the world's shape is wanted: a variable of the library's own holds a number.
-/
namespace Go.Proofs.YtjfhhhabcbkahaaGreat
open Go.ChangeShapes Go.WideShapes Go.ChangeAt Go.RowKit
section
variable {H : Type} {enc : TypeId × Value → H}
/-- What a law's proof owes: whatever it is handed, the call returns true and turns nothing that was there; the world is shaped. -/
def OwesH (H : Type) (enc : TypeId × Value → H) (P : Program) (f : FuncId) (fn : Func) (s : ChangeSpec) (W : World) (base : Nat) (args : Array Value) (ds : List (DataW H)) (p : List MemPlace) : Prop :=
  (∀ (j : Nat) t v, fn.params[j]? = some t → args[j]? = some v → Value.okWide P W .any base t v) →
  DataW.TrodAll enc P W 0 (fun _ => true) true fn.params.toList args.toList ds p →
  (DataW.weightsEach P fn.params.toList ds).all (· ≤ reachBytes) = true →
  W.ShapedOpen P →
  ((s.fn H ds).results = [.lit (.bool true)] ∧ (s.fn H ds).args = ds ∧ (s.fn H ds).vars = []) ∧
  Calls P f args W fun e W' => e = .returned (.bool true) ∧ Ext W W'

theorem lift_law_shaped {C : Checked} {os : Os} {f : FuncId} {fn : Func} {s : ChangeSpec} {T : TypeId} (hown : ownKnob C.prog.godebug = none) (hlaid : laidOutB C.prog = true) (started : os.Started) (noInit : C.prog.inits.idxOf? f = none) (hfn : C.prog.funcs[f]? = some fn)
    (hres : fn.resultTypes = #[T]) (hT : C.prog.underlying T = some .bool) (hvars : s.vars = [])
    (hread : (fn.params.toList.all fun t => C.prog.readableRec t && decide (t < C.prog.types.size)) = true)
    (witness : ∃ (w : World) (tape : Tape) (i : Input), w.os = os ∧ (w.forCall tape i).Shaped C.prog ∧ i.vars = [] ∧ Input.okWide C.prog (w.forCall tape i) .any w.heap.size f i ∧
      s.pre6 enc C.prog fn [] false (w.forCall tape i).memory i.args ∧ ({} : Assume).holds C.prog (lone (Frame.enter C.prog f i.args .normal) [] (w.forCall tape i)))
    (owes : ∀ W base args ds p, OwesH H enc C.prog f fn s W base args ds p) :
    ReturnsInHanded {} C os f .any (s.pre6 enc C.prog fn [] false) (s.post enc C.prog fn false true false false) := by
  refine returnsInHanded_of_change_shaped (C := C) hown started noInit hfn witness ?_
  intro W base args ds gs before hval hW _ hsz hsh _
  have hW0 := hW
  obtain ⟨p, q, hA, hV, rfl, _, _⟩ := hW
  rw [hvars] at hV
  obtain ⟨rfl, rfl⟩ := trodVars_none hV
  have e : s.plain.varTypes C.prog = [] := by simp [ChangeSpec.plain, DataSpec.varTypes, hvars]
  rw [e, List.append_nil, List.append_nil] at hsz
  obtain ⟨hf, hc⟩ := owes W base args ds p hval hA hsz hsh
  refine hc.mono fun e W' ⟨he, hb⟩ => ⟨_, he, ?_⟩
  exact post_true hlaid (T := T) hres hT hvars hread hW0 hf hb
end
end Go.Proofs.YtjfhhhabcbkahaaGreat

/-
  Trees that came in: rows of nodes.
-/
namespace Go.Proofs.YtjfhhhabcbkahaaGreat
open Go.ChangeShapes Go.WideShapes Go.ChangeAt Go.RowKit
set_option linter.unusedVariables false
set_option linter.unusedSimpArgs false

theorem cellsN_node : Tryz.prog.cellsOf 39 = 6 := by kernel_rfl
theorem cellsN_nodes : Tryz.prog.cellsOf 22 = 1 := by kernel_rfl
theorem cellsN_tree : Tryz.prog.cellsOf 24 = 1 := by kernel_rfl
theorem cellsN_int : Tryz.prog.cellsOf 3 = 1 := by kernel_rfl
theorem cellsN_ints : Tryz.prog.cellsOf 37 = 1 := by kernel_rfl
theorem cellsN_str : Tryz.prog.cellsOf 9 = 1 := by kernel_rfl
theorem cellsN_fix : Tryz.prog.cellsOf 36 = 1 := by kernel_rfl
theorem bytesN_int : Tryz.prog.bytesOf 3 = 8 := by kernel_rfl

section
variable {H : Type} {enc : TypeId × Value → H}
/-- All that weighs, weighs what there is room for. -/
def Wgt (P : Program) (t : TypeId) (d : DataW H) : Prop := ∀ n ∈ d.weights P t, n ≤ reachBytes
theorem Wgt.arg {P : Program} {ts : List TypeId} {ds : List (DataW H)} {j : Nat} {t : TypeId} {d : DataW H} (h : (DataW.weightsEach P ts ds).all (· ≤ reachBytes) = true) (ht : ts[j]? = some t) (hd : ds[j]? = some d) : Wgt P t d := fun n hn => by
  have := List.all_eq_true.1 h _ (DataW.weights_mem_each ht hd n hn)
  simpa using this
theorem Wgt.part {P : Program} {t : TypeId} {fs : Array Field} {ps : List (DataW H)} (hu : P.underlying t = some (.struct fs)) (h : Wgt P t (.agg ps)) {j : Nat} {s : TypeId} {d : DataW H} (ht : (fs.toList.map (·.type))[j]? = some s) (hd : ps[j]? = some d) : Wgt P s d := fun n hn => by
  refine h n ?_
  simp only [DataW.weights, hu]
  exact DataW.weights_mem_each ht hd n hn
theorem weights_all {P : Program} {e : TypeId} {d : DataW H} {n : Nat} (hn : n ∈ d.weights P e) : ∀ (l : List (DataW H)), d ∈ l → n ∈ DataW.weightsAll P e l
  | x :: r, h => by
    simp only [DataW.weightsAll, List.mem_append]
    rcases List.mem_cons.1 h with rfl | h
    · exact .inl hn
    · exact .inr (weights_all hn r h)
theorem Wgt.elem {P : Program} {t e : TypeId} {xs ys : List (DataW H)} (hu : P.underlying t = some (.slice e)) (h : Wgt P t (.slice xs ys)) {d : DataW H} (hd : d ∈ xs) : Wgt P e d := fun n hn => by
  refine h n ?_
  simp only [DataW.weights, hu, List.mem_cons, List.mem_append]
  exact .inr (.inl (weights_all hn xs hd))
theorem Wgt.len {P : Program} {t e : TypeId} {xs ys : List (DataW H)} (hu : P.underlying t = some (.slice e)) (h : Wgt P t (.slice xs ys)) : xs.length * P.bytesOf e ≤ 140737488351232 := by
  have := h ((xs.length + ys.length) * P.bytesOf e) (by simp [DataW.weights, hu])
  unfold reachBytes at this
  rw [Nat.add_mul] at this
  omega

/-- A slice of numbers within what came in. -/
theorem open_nums {W : World} {u : Value} {fuel : Nat} {y : DataW H × List MemPlace} (hf : DataW.trod enc Tryz.prog W 0 (fun _ => true) true fuel 37 [u] = some y) (hw : Wgt Tryz.prog 37 y.1) :
    ∃ xs : List Int, Row .i64 W u xs ∧ xs.length ≤ 17592186044416 := by
  rcases open_ints Tryz.underlying37 Tryz.underlying3 cellsN_int hf with ⟨hcs, _⟩ | ⟨x, l, c, zs, hcs, _, hl, hm, hz, hx, hcell, hwz⟩
  · simp at hcs
    subst hcs
    exact ⟨[], Row.nil _ _, by simp⟩
  · simp at hcs
    subst hcs
    simp only [if_true] at hz
    have hlen : (zs.take l).length = l := by simp; omega
    have hw2 : l ≤ 17592186044416 := by
      rw [hx] at hw
      have := Wgt.len Tryz.underlying37 hw
      rw [bytesN_int] at this
      simp only [lits, List.length_map] at this
      rw [hlen] at this
      omega
    refine ⟨zs.take l, ?_, by rw [hlen]; exact hw2⟩
    by_cases h0 : l = 0
    · subst h0
      exact .inl ⟨by simp, some x, c, rfl, (fun h => by cases h), hm⟩
    · obtain ⟨b, off, spot⟩ := x
      have hc0 := hcell 0 (by omega)
      have hspot : spot = none := by simpa [Addr.add] using World.cell?_spot hc0
      subst hspot
      refine .inr ⟨?_, b, off, c, by rw [hlen], by rw [hlen]; exact hl, hm, fun i hi => ?_⟩
      · intro h
        rw [h] at hlen
        exact h0 (by simpa using hlen.symm)
      · rw [hlen] at hi
        have hci := hcell i (by omega)
        rw [Addr.add_lit] at hci
        rw [hci]
        have e2 : (zs.take l).getD i 0 = zs.getD i 0 := by simp [List.getD, hi]
        rw [e2]
set_option maxRecDepth 100000 in
/-- Six cells that read as a node. -/
theorem open_node {W : World} {u0 u1 u2 u3 u4 u5 : Value} {fuel : Nat} {y : DataW H × List MemPlace} (hf : DataW.trod enc Tryz.prog W 0 (fun _ => true) true fuel 39 [u0, u1, u2, u3, u4, u5] = some y) (hw : Wgt Tryz.prog 39 y.1) :
    ∃ p : NtI, u0 = .int .i64 p.2.kind ∧ u1 = .string ⟨p.2.ty.toArray⟩ ∧ u2 = .string ⟨p.2.text.toArray⟩ ∧ u3 = .int .i32 p.2.num ∧ u4 = p.1 ∧ u5 = .int .i64 p.2.place ∧ Row .i64 W p.1 p.2.kids ∧ p.2.kids.length ≤ 17592186044416 := by
  obtain ⟨xs, n, _, rfl, hl, hlen, hfs⟩ := DataW.trod_struct Tryz.underlying39 hf
  match xs, hlen with
  | [y0, y1, y2, y3, y4, y5], _ =>
    have t0 : DataW.trod enc Tryz.prog W 0 (fun _ => true) true n 3 [u0] = some y0 := by simpa [cellsN_int] using hfs 0 _ rfl
    have t1 : DataW.trod enc Tryz.prog W 0 (fun _ => true) true n 9 [u1] = some y1 := by simpa [cellsN_str] using hfs 1 _ rfl
    have t2 : DataW.trod enc Tryz.prog W 0 (fun _ => true) true n 9 [u2] = some y2 := by simpa [cellsN_str] using hfs 2 _ rfl
    have t3 : DataW.trod enc Tryz.prog W 0 (fun _ => true) true n 36 [u3] = some y3 := by simpa [cellsN_fix] using hfs 3 _ rfl
    have t4 : DataW.trod enc Tryz.prog W 0 (fun _ => true) true n 37 [u4] = some y4 := by simpa [cellsN_ints] using hfs 4 _ rfl
    have t5 : DataW.trod enc Tryz.prog W 0 (fun _ => true) true n 3 [u5] = some y5 := by simpa [cellsN_int] using hfs 5 _ rfl
    obtain ⟨K, e0, _, k0⟩ := DataW.trod_int Tryz.underlying3 t0
    obtain ⟨s1, e1, _, k1⟩ := DataW.trod_string Tryz.underlying9 t1
    obtain ⟨s2, e2, _, k2⟩ := DataW.trod_string Tryz.underlying9 t2
    obtain ⟨I, e3, _, k3⟩ := DataW.trod_int Tryz.underlying36 t3
    obtain ⟨A, e5, _, k5⟩ := DataW.trod_int Tryz.underlying3 t5
    simp only [List.cons.injEq, and_true] at e0 e1 e2 e3 e5
    have hw4 : Wgt Tryz.prog 37 y4.1 := Wgt.part Tryz.underlying39 hw (j := 4) rfl rfl
    obtain ⟨ks, hrow, hln⟩ := open_nums t4 hw4
    exact ⟨(u4, ⟨K, s1.data.toList, s2.data.toList, I, ks, A⟩), e0, e1, e2, e3, rfl, e5, hrow, hln⟩
set_option maxRecDepth 10000 in
/-- A slice of nodes within what came in. -/
theorem open_nodes {W : World} {u : Value} {fuel : Nat} {y : DataW H × List MemPlace} (hf : DataW.trod enc Tryz.prog W 0 (fun _ => true) true fuel 22 [u] = some y) (hw : Wgt Tryz.prog 22 y.1) :
    ∃ L : List NtI, NL W u L ∧ ∀ p ∈ L, p.2.kids.length ≤ 17592186044416 := by
  rcases Deep.open_slice Tryz.underlying22 hf with ⟨hcs, _⟩ | ⟨x, l, c, m, n, D, Pl, hcs, _, hl, hm, hmm, hx, hel⟩
  · simp at hcs
    subst hcs
    exact ⟨[], ⟨none, 0, rfl, fun _ => rfl, Nat.le_refl _, Nat.zero_le _, fun i hi => by simp at hi⟩, by simp⟩
  · simp at hcs
    subst hcs
    simp only [if_true] at hmm
    subst hmm
    rw [hx] at hw
    have each : ∀ i, i < l → ∃ p : NtI, (p.2.kids.length ≤ 17592186044416 ∧ Row .i64 W p.1 p.2.kids) ∧ W.cell? (x.add (i * 6)) = some (.int .i64 p.2.kind) ∧ W.cell? ((x.add (i * 6)).add 1) = some (.string ⟨p.2.ty.toArray⟩) ∧ W.cell? ((x.add (i * 6)).add 2) = some (.string ⟨p.2.text.toArray⟩) ∧ W.cell? ((x.add (i * 6)).add 3) = some (.int .i32 p.2.num) ∧ W.cell? ((x.add (i * 6)).add 4) = some p.1 ∧ W.cell? ((x.add (i * 6)).add 5) = some (.int .i64 p.2.place) := by
      intro i hi
      obtain ⟨cs', h1, h2⟩ := hel i (by omega)
      rw [cellsN_node] at h1
      obtain ⟨_, hl2, hce⟩ := World.cells?_some h1
      match cs', hl2 with
      | [u0, u1, u2, u3, u4, u5], _ =>
        have hc0 := hce 0 (by omega)
        have hc1 := hce 1 (by omega)
        have hc2 := hce 2 (by omega)
        have hc3 := hce 3 (by omega)
        have hc4 := hce 4 (by omega)
        have hc5 := hce 5 (by omega)
        have hwD : Wgt Tryz.prog 39 (D i) := Wgt.elem Tryz.underlying22 hw (List.mem_map.2 ⟨i, List.mem_range.2 hi, rfl⟩)
        obtain ⟨p, rfl, rfl, rfl, rfl, rfl, rfl, hp, hk⟩ := open_node h2 hwD
        refine ⟨p, ⟨hk, hp⟩, ?_, hc1, hc2, hc3, hc4, hc5⟩
        have e : (x.add (i * 6)).add 0 = x.add (i * 6) := by unfold Addr.add; split <;> simp_all
        rw [e] at hc0
        exact hc0
    have hinh : Inhabited NtI := ⟨(.slice none 0 0, ⟨0, [], [], 0, [], 0⟩)⟩
    obtain ⟨F, hF⟩ := Deep.choose_lt (α := NtI) (p := fun i p => (p.2.kids.length ≤ 17592186044416 ∧ Row .i64 W p.1 p.2.kids) ∧ W.cell? (x.add (i * 6)) = some (.int .i64 p.2.kind) ∧ W.cell? ((x.add (i * 6)).add 1) = some (.string ⟨p.2.ty.toArray⟩) ∧ W.cell? ((x.add (i * 6)).add 2) = some (.string ⟨p.2.text.toArray⟩) ∧ W.cell? ((x.add (i * 6)).add 3) = some (.int .i32 p.2.num) ∧ W.cell? ((x.add (i * 6)).add 4) = some p.1 ∧ W.cell? ((x.add (i * 6)).add 5) = some (.int .i64 p.2.place)) (fun i hi => each i hi)
    have hlen : ((List.range l).map F).length = l := by simp
    refine ⟨(List.range l).map F, ⟨some x, _, by rw [hlen], (fun h => by cases h), by rw [hlen]; exact hl, hm, fun i hi => ?_⟩, fun p hp => ?_⟩
    · rw [hlen] at hi
      obtain ⟨b, off, spot⟩ := x
      have hspot : spot = none := by simpa [Addr.add] using World.cell?_spot (hF 0 (by omega)).2.1
      subst hspot
      have h := hF i hi
      simp only [Addr.add_lit] at h
      simp only [List.getElem_map, List.getElem_range]
      exact ⟨b, off, rfl, h.2.1, h.2.2.1, h.2.2.2.1, h.2.2.2.2.1, h.2.2.2.2.2.1, h.2.2.2.2.2.2, h.1.2⟩
    · obtain ⟨i, hi, rfl⟩ := List.mem_map.1 hp
      exact (hF i (List.mem_range.1 hi)).1.1
theorem array1 {α : Type} {cs : Array α} (h : cs.size = 1) : ∃ c0, cs = #[c0] := by
  obtain ⟨l⟩ := cs
  match l, h with
  | [c0], _ => exact ⟨c0, rfl⟩
set_option maxRecDepth 100000 in
/-- A tree that came in. -/
theorem open_tree {W : World} {base : Nat} {v : Value} {d : DataW H} {p : List MemPlace} (hv : Value.okWide Tryz.prog W .any base 24 v) (h : DataW.Trod enc Tryz.prog W 0 (fun _ => true) true 24 v d p) (hw : Wgt Tryz.prog 24 d) :
    ∃ (u : Value) (L : List NtI), v = .agg #[u] ∧ NL W u L ∧ ∀ p ∈ L, p.2.kids.length ≤ 17592186044416 := by
  obtain ⟨cs, rfl, hsz⟩ := okWide_struct Tryz.underlying24 hv
  rw [cellsN_tree] at hsz
  obtain ⟨c0, rfl⟩ := array1 hsz
  obtain ⟨fuel, hf⟩ := h
  obtain ⟨xs, n, _, e, hl, hlen, hfs⟩ := DataW.trod_struct Tryz.underlying24 hf
  match xs, hlen with
  | [y0], _ =>
    have t0 : DataW.trod enc Tryz.prog W 0 (fun _ => true) true n 22 [c0] = some y0 := by simpa [cellsN_nodes, Value.cells] using hfs 0 _ rfl
    have hd' : d = .agg [y0.1] := by simpa using congrArg Prod.fst e
    subst hd'
    have hw2 : Wgt Tryz.prog 22 y0.1 := Wgt.part Tryz.underlying24 hw (j := 0) rfl rfl
    obtain ⟨L, hL, hk⟩ := open_nodes t0 hw2
    exact ⟨c0, L, rfl, hL, hk⟩
end
end Go.Proofs.YtjfhhhabcbkahaaGreat

/-
  The statement ParseSame: which trees are the same, but for places, is told as the document says. No conditions.
-/
namespace Go.Proofs.YtjfhhhabcbkahaaGreat
open Go.ChangeShapes Go.WideShapes Go.ChangeAt Go.RowKit
set_option linter.unusedVariables false
set_option linter.unusedSimpArgs false

theorem sameN_of {A C : List NtI} (h : C.map Prod.snd = A.map Prod.snd) : sameN A C = true := by
  unfold sameN
  rw [decide_eq_true_eq]
  have e : ∀ L : List NtI, nkeys L = (L.map Prod.snd).map nkey := fun L => by simp [nkeys]
  rw [e, e, h]
theorem Blk.rngT {w : World} {b : Nat} {cs : Array Value} {t : TypeId} (h : Blk w b cs t) : w.rangeAt b 0 cs.toList := by
  intro j v hv
  rw [Nat.zero_add]
  exact h.cell (by simpa using hv)

theorem size1T : (Tryz.prog.info? 24).map (·.size) = some 1 := by kernel_rfl

set_option maxRecDepth 10000 in
set_option maxHeartbeats 4000000 in
theorem parseSame_any (A B : List NtI) (ao bo : Option Addr) (ca cb : Nat) (W : World) (m : Int) (hm : W.cell? ⟨0, 0, none⟩ = some (.int .i64 m)) (hA : NL W (.slice ao A.length ca) A) (hB : NL W (.slice bo B.length cb) B)
    (hkA : ∀ p ∈ A, p.2.kids.length ≤ 17592186044416) (hkB : ∀ p ∈ B, p.2.kids.length ≤ 17592186044416) :
    Calls Tryz.prog 3 #[.agg #[.slice ao A.length ca], .agg #[.slice bo B.length cb]] W fun e w' => e = .returned (.bool true) ∧ Ext W w' := by
  have HX0 : Hid (Ext W ((W.alloc (.cells #[.slice ao A.length ca] 24)).alloc (.cells #[.slice bo B.length cb] 24))) := ((Ext.refl W).alloc _).alloc _
  have HP0 : Hid (Blk ((W.alloc (.cells #[.slice ao A.length ca] 24)).alloc (.cells #[.slice bo B.length cb] 24)) W.heap.size #[.slice ao A.length ca] 24) := (Blk.new W _ _).alloc _
  have HQ0 : Hid (Blk ((W.alloc (.cells #[.slice ao A.length ca] 24)).alloc (.cells #[.slice bo B.length cb] 24)) (W.heap.size + 1) #[.slice bo B.length cb] 24) := by
    have h := Blk.new (W.alloc (.cells #[.slice ao A.length ca] 24)) #[.slice bo B.length cb] 24
    rw [show (W.alloc (.cells #[.slice ao A.length ca] 24)).heap.size = W.heap.size + 1 by simp] at h
    exact h
  have HM := hide (keepM hm (unhide HX0))
  have HSA := hide (fun wx (hx : Ext W wx) => shortT_any A ao ca wx (hA.ext hx) hkA)
  have HSB := hide (fun wx (hx : Ext W wx) => shortT_any B bo cb wx (hB.ext hx) hkB)
  clear hm hA hB hkA hkB
  go_enter Tryz.func3, Tryz.ntmps3
  go_wp2_with fail
  generalize (W.alloc (.cells #[.slice ao A.length ca] 24)).alloc (.cells #[.slice bo B.length cb] 24) = w0 at HX0 HP0 HQ0 HM ⊢
  refine (wakes12_any w0 m (unhide HM)).mono ?_
  rintro e w1 ⟨rfl, hx1⟩
  have HX1 := hide ((unhide HX0).trans hx1)
  have HP1 := hide ((unhide HP0).ext hx1)
  have HQ1 := hide ((unhide HQ0).ext hx1)
  clear hx1 HX0 HP0 HQ0 HM
  go_upto_region 3 with fail
  refine wp_region_noPanic ?_
  refine wp_regionL (S := SL 4 5 5 (fun wx => Blk wx W.heap.size #[.slice ao A.length ca] 24) (fun wx => Blk wx (W.heap.size + 1) #[.slice bo B.length cb] 24) (fun wx => Blk wx (W.heap.size + 1) #[.slice bo B.length cb] 24)) (by kernel_rfl) ?_
  have P2 : Blk w1.drew W.heap.size #[.slice ao A.length ca] 24 := unhide HP1
  have Q2 : Blk w1.drew (W.heap.size + 1) #[.slice bo B.length cb] 24 := unhide HQ1
  have X2 : Ext W w1.drew := (unhide HX1).drew
  generalize w1.drew = w2 at P2 Q2 X2 ⊢
  clear HX1 HP1 HQ1
  refine wpAnyL_take (fun wx => Blk wx W.heap.size #[.slice ao A.length ca] 24) [4] (i := 0) (oi := { dst := some 7, op := Op.load _ (Operand.tmp 2), type := _, pos := _, after := _, guard := none }) (v := .agg #[.slice ao A.length ca]) rfl (by kernel_rfl) (by kernel_rfl) (by kernel_rfl) (by kernel_rfl) (by kernel_rfl) (fun _ _ _ h => h) (SL.ind (by decide) (by decide) (by decide)) (SL.get1) (yieldsIf_load_mid (by rfl) 24 (.tmp 2) rfl W.heap.size 0 rfl [.slice ao A.length ca] _ (fun wx hx => hx.rngT) Tryz.underlying24 rfl size1T) (SL.all P2 Q2 Q2) (SL.all P2 Q2 Q2) ?_
  simp only [Act.put, List.setIfInBounds_toArray, List.set_cons_zero, List.set_cons_succ]
  refine wpAnyL_take (fun wx => Blk wx (W.heap.size + 1) #[.slice bo B.length cb] 24) [5] (i := 2) (oi := { dst := some 9, op := Op.load _ (Operand.tmp 3), type := _, pos := _, after := _, guard := none }) (v := .agg #[.slice bo B.length cb]) rfl (by kernel_rfl) (by kernel_rfl) (by kernel_rfl) (by kernel_rfl) (by kernel_rfl) (fun _ _ _ h => h) (SL.ind (by decide) (by decide) (by decide)) (SL.get2) (yieldsIf_load_mid (by rfl) 24 (.tmp 3) rfl (W.heap.size + 1) 0 rfl [.slice bo B.length cb] _ (fun wx hx => hx.rngT) Tryz.underlying24 rfl size1T) (SL.all P2 Q2 Q2) (SL.all P2 Q2 Q2) ?_
  simp only [Act.put, List.setIfInBounds_toArray, List.set_cons_zero, List.set_cons_succ]
  refine wpAnyL_next (i := 1) (o := { dst := some 8, op := Op.call { callee := Callee.value (Operand.func _), args := #[Operand.tmp 7], argTypes := _ }, type := _, pos := _, after := _, guard := none }) (by kernel_rfl) rfl (by rfl) (fun KK hK => ?_)
  go_simp
  refine (unhide HSA _ X2).mono ?_
  rintro e w3 ⟨lo, lc, A', rfl, hNA, hmA, hx3⟩
  have P3 := P2.ext hx3
  have Q3 := Q2.ext hx3
  have X3 := X2.trans hx3
  have hb2 := X2.size
  clear hx3 P2 Q2 X2
  refine unhide hK _ _ (SL.all P3 Q3 Q3) ?_
  clear hK KK
  try simp only [Act.put, List.setIfInBounds_toArray, List.set_cons_zero, List.set_cons_succ]
  refine wpAnyL_next (i := 3) (o := { dst := some 10, op := Op.call { callee := Callee.value (Operand.func _), args := #[Operand.tmp 9], argTypes := _ }, type := _, pos := _, after := _, guard := none }) (by kernel_rfl) rfl (by rfl) (fun KK hK => ?_)
  go_simp
  refine (unhide HSB _ X3).mono ?_
  rintro e w4 ⟨lp, lq, B', rfl, hNB, hmB, hx4⟩
  have P4 := P3.ext hx4
  have Q4 := Q3.ext hx4
  have X4 := X3.trans hx4
  have hNA4 := hNA.ext hx4
  have hb3 := X3.size
  clear hx4 P3 Q3 X3 hNA
  refine unhide hK _ _ (SL.all P4 Q4 Q4) ?_
  clear hK KK
  try simp only [Act.put, List.setIfInBounds_toArray, List.set_cons_zero, List.set_cons_succ]
  have HNA := hide hNA4
  have HNB := hide hNB
  have HMA := hide hmA
  have HMB := hide hmB
  clear hNA4 hNB hmA hmB
  refine wpAnyL_next (i := 4) (o := { dst := none, op := Op.store _ (Operand.tmp 2) (Operand.tmp 8), type := _, pos := _, after := _, guard := none }) (by kernel_rfl) rfl (by rfl) (fun KK hK => ?_)
  have c0 := P4.cell (i := 0) (v := .slice ao A.length ca) rfl
  have f0 := P4.free 0
  go_simp
  have P5 := P4.set 0 (.slice lo A'.length lc)
  have Q5 := Q4.other (r := W.heap.size) 0 (.slice lo A'.length lc) (by omega)
  have X5 : Ext W (w4.setCell ⟨W.heap.size, 0, none⟩ (.slice lo A'.length lc)) := below_grown X4 (grownBy_set _ _ _ _) X4.size (Nat.le_refl _)
  have HNA5 := hide ((unhide HNA).stored (b := W.heap.size) (by omega) 0 (.slice lo A'.length lc))
  have HNB5 := hide ((unhide HNB).stored (b := W.heap.size) (by omega) 0 (.slice lo A'.length lc))
  generalize w4.setCell ⟨W.heap.size, 0, none⟩ (.slice lo A'.length lc) = w5 at P5 Q5 X5 HNA5 HNB5 ⊢
  clear c0 f0 P4 Q4 X4 HNA HNB
  refine unhide hK _ _ (SL.mk1 (getD_self _ _) Q5 Q5) ?_
  clear hK KK
  try simp only [Act.put, List.setIfInBounds_toArray, List.set_cons_zero, List.set_cons_succ]
  refine wpAnyL_next (i := 5) (o := { dst := none, op := Op.store _ (Operand.tmp 3) (Operand.tmp 10), type := _, pos := _, after := _, guard := none }) (by kernel_rfl) rfl (by rfl) (fun KK hK => ?_)
  have c0 := Q5.cell (i := 0) (v := .slice bo B.length cb) rfl
  have f0 := Q5.free 0
  go_simp
  have P6 := P5.other (r := W.heap.size + 1) 0 (.slice lp B'.length lq) (by omega)
  have Q6 := Q5.set 0 (.slice lp B'.length lq)
  have X6 : Ext W (w5.setCell ⟨W.heap.size + 1, 0, none⟩ (.slice lp B'.length lq)) := below_grown X5 (grownBy_set _ _ _ _) X5.size (by omega)
  have HNA6 := hide ((unhide HNA5).stored (b := W.heap.size + 1) (by omega) 0 (.slice lp B'.length lq))
  have HNB6 := hide ((unhide HNB5).stored (b := W.heap.size + 1) (by omega) 0 (.slice lp B'.length lq))
  generalize w5.setCell ⟨W.heap.size + 1, 0, none⟩ (.slice lp B'.length lq) = w6 at P6 Q6 X6 HNA6 HNB6 ⊢
  clear c0 f0 P5 Q5 X5 HNA5 HNB5
  refine unhide hK _ _ (SL.mk3 (by kernel_rfl) (getD_self _ _) (getD_self _ _)) ?_
  clear hK KK
  try simp only [Act.put, List.setIfInBounds_toArray, List.set_cons_zero, List.set_cons_succ]
  refine wpAnyL_done (by kernel_rfl) ?_ _
  refine NoPanic.normal ?_
  have HLA := hide (unhide HNA6).nl
  have HLB := hide (unhide HNB6).nl
  have hnA : A'.length ≤ 1000000 := by
    have h := congrArg List.length (unhide HMA)
    rw [List.length_map, List.length_map, List.length_take] at h
    omega
  have HKA : Hid (∀ p ∈ A', p.2.kids.length ≤ 17592186044416) := fun p hp => by
    have h1 : p.2 ∈ A'.map Prod.snd := List.mem_map.2 ⟨p, hp, rfl⟩
    rw [unhide HMA] at h1
    obtain ⟨q, _, e⟩ := List.mem_map.1 h1
    rw [← e]
    unfold cutN
    simp only [List.length_take]
    omega
  have HP := hide P6
  have HQ := hide Q6
  have HX := hide X6
  clear P6 Q6 X6 HNA6 HNB6 HMA HMB HSA HSB
  go_upto_region 4 with fail
  refine wp_region_noPanic ?_
  refine wp_region_held_drew (S := fun wx => Ext w6 wx) (by kernel_rfl) ((Ext.refl _).drew) (fun HS => ?_)
  refine wpAnyH_take (i := 0) (oi := { dst := some 11, op := Op.load _ (Operand.tmp 2), type := _, pos := _, after := _, guard := none }) (v := .agg #[.slice lo A'.length lc]) rfl (by kernel_rfl) (by kernel_rfl) (by kernel_rfl) (fun _ _ _ h => h) (yieldsIf_load_mid (by rfl) 24 (.tmp 2) rfl W.heap.size 0 rfl [.slice lo A'.length lc] _ (fun wx hx => ((unhide HP).ext hx).rngT) Tryz.underlying24 rfl size1T) HS ?_
  simp only [Act.put, List.setIfInBounds_toArray, List.set_cons_zero, List.set_cons_succ]
  refine wpAnyH_take (i := 1) (oi := { dst := some 12, op := Op.load _ (Operand.tmp 3), type := _, pos := _, after := _, guard := none }) (v := .agg #[.slice lp B'.length lq]) rfl (by kernel_rfl) (by kernel_rfl) (by kernel_rfl) (fun _ _ _ h => h) (yieldsIf_load_mid (by rfl) 24 (.tmp 3) rfl (W.heap.size + 1) 0 rfl [.slice lp B'.length lq] _ (fun wx hx => ((unhide HQ).ext hx).rngT) Tryz.underlying24 rfl size1T) HS ?_
  simp only [Act.put, List.setIfInBounds_toArray, List.set_cons_zero, List.set_cons_succ]
  refine wpAnyH_take (i := 3) (oi := { dst := some 14, op := Op.load _ (Operand.tmp 2), type := _, pos := _, after := _, guard := none }) (v := .agg #[.slice lo A'.length lc]) rfl (by kernel_rfl) (by kernel_rfl) (by kernel_rfl) (fun _ _ _ h => h) (yieldsIf_load_mid (by rfl) 24 (.tmp 2) rfl W.heap.size 0 rfl [.slice lo A'.length lc] _ (fun wx hx => ((unhide HP).ext hx).rngT) Tryz.underlying24 rfl size1T) HS ?_
  simp only [Act.put, List.setIfInBounds_toArray, List.set_cons_zero, List.set_cons_succ]
  refine wpAnyH_take (i := 4) (oi := { dst := some 15, op := Op.load _ (Operand.tmp 3), type := _, pos := _, after := _, guard := none }) (v := .agg #[.slice lp B'.length lq]) rfl (by kernel_rfl) (by kernel_rfl) (by kernel_rfl) (fun _ _ _ h => h) (yieldsIf_load_mid (by rfl) 24 (.tmp 3) rfl (W.heap.size + 1) 0 rfl [.slice lp B'.length lq] _ (fun wx hx => ((unhide HQ).ext hx).rngT) Tryz.underlying24 rfl size1T) HS ?_
  simp only [Act.put, List.setIfInBounds_toArray, List.set_cons_zero, List.set_cons_succ]
  refine wpAnyH_ready (rs := [2]) (by kernel_rfl) (by simp) (AllReadyH.cons (o := { dst := some 13, op := Op.call { callee := Callee.value (Operand.func _), args := #[Operand.tmp 11, Operand.tmp 12], argTypes := _ }, type := _, pos := _, after := _, guard := none }) rfl (fun KK hK => ?_) AllReadyH.nil)
  go_simp
  refine (sameT_any A' B' lo lp lc lq _ ((unhide HLA).ext HS) ((unhide HLB).ext HS)).mono ?_
  rintro e ws ⟨rfl, hxs⟩
  have HS2 := HS.trans hxs
  clear hxs HS
  have HS := HS2
  clear HS2
  refine hK.out _ _ HS (fun _ => ?_)
  clear hK KK
  try simp only [Act.put, List.setIfInBounds_toArray, List.set_cons_zero, List.set_cons_succ]
  refine wpAnyH_ready (rs := [5]) (by kernel_rfl) (by simp) (AllReadyH.cons (o := { dst := some 16, op := Op.call { callee := Callee.value (Operand.func _), args := #[Operand.tmp 14, Operand.tmp 15], argTypes := _ }, type := _, pos := _, after := _, guard := none }) rfl (fun KK hK => ?_) AllReadyH.nil)
  go_simp
  refine (refSameT_any A' B' lo lp lc lq _ ((unhide HLA).ext HS) ((unhide HLB).ext HS)).mono ?_
  rintro e wt ⟨rfl, hxs⟩
  have HS2 := HS.trans hxs
  clear hxs HS
  have HS := HS2
  clear HS2
  refine hK.out _ _ HS (fun _ => ?_)
  clear hK KK
  try simp only [Act.put, List.setIfInBounds_toArray, List.set_cons_zero, List.set_cons_succ]
  generalize sameN A' B' = sb
  refine wpAnyH_take (i := 6) (oi := { dst := some 17, op := Op.binOp BinOp.eql _ (Operand.tmp 13) (Operand.tmp 16) _, type := _, pos := _, after := _, guard := none }) (v := .bool true) rfl (by kernel_rfl) (by kernel_rfl) (by kernel_rfl) (fun _ _ _ h => h) (Or.inl ⟨by rfl, fun wx hx => by go_simp⟩) HS ?_
  simp only [Act.put, List.setIfInBounds_toArray, List.set_cons_zero, List.set_cons_succ]
  refine wpAnyH_take (i := 7) (oi := { dst := some 18, op := Op.move (Operand.tmp 17), type := _, pos := _, after := _, guard := none }) (v := .bool true) rfl (by kernel_rfl) (by kernel_rfl) (by kernel_rfl) (fun _ _ _ h => h) (Or.inl ⟨by rfl, fun _ _ => rfl⟩) HS ?_
  simp only [Act.put, List.setIfInBounds_toArray, List.set_cons_zero, List.set_cons_succ]
  refine wpAnyH_take (i := 8) (oi := { dst := some 19, op := Op.load _ (Operand.tmp 2), type := _, pos := _, after := _, guard := some (7, true) }) (v := .agg #[.slice lo A'.length lc]) rfl (by kernel_rfl) (by kernel_rfl) (by kernel_rfl) (fun _ _ _ h => h) (yieldsIf_load_mid (by rfl) 24 (.tmp 2) rfl W.heap.size 0 rfl [.slice lo A'.length lc] _ (fun wx hx => ((unhide HP).ext hx).rngT) Tryz.underlying24 rfl size1T) HS ?_
  simp only [Act.put, List.setIfInBounds_toArray, List.set_cons_zero, List.set_cons_succ]
  refine wpAnyH_take (i := 9) (oi := { dst := some 20, op := Op.load _ (Operand.tmp 2), type := _, pos := _, after := _, guard := some (7, true) }) (v := .agg #[.slice lo A'.length lc]) rfl (by kernel_rfl) (by kernel_rfl) (by kernel_rfl) (fun _ _ _ h => h) (yieldsIf_load_mid (by rfl) 24 (.tmp 2) rfl W.heap.size 0 rfl [.slice lo A'.length lc] _ (fun wx hx => ((unhide HP).ext hx).rngT) Tryz.underlying24 rfl size1T) HS ?_
  simp only [Act.put, List.setIfInBounds_toArray, List.set_cons_zero, List.set_cons_succ]
  refine wpAnyH_ready (rs := [10]) (by kernel_rfl) (by simp) (AllReadyH.cons (o := { dst := some 21, op := Op.call { callee := Callee.value (Operand.func _), args := #[Operand.tmp 20], argTypes := _ }, type := _, pos := _, after := _, guard := some (7, true) }) rfl (fun KK hK => ?_) AllReadyH.nil)
  go_simp
  refine (copiedT_any A' lo lc _ ((unhide HLA).ext HS) hnA (unhide HKA)).mono ?_
  rintro e wu ⟨lx, ly, C, rfl, hNC, hmC, hxs⟩
  have HLC := hide hNC.nl
  have HMC := hide (sameN_of hmC)
  clear hNC hmC
  have HS2 := HS.trans hxs
  clear hxs HS
  have HS := HS2
  clear HS2
  refine hK.out _ _ HS (fun _ => ?_)
  clear hK KK
  try simp only [Act.put, List.setIfInBounds_toArray, List.set_cons_zero, List.set_cons_succ]
  refine wpAnyH_ready (rs := [11]) (by kernel_rfl) (by simp) (AllReadyH.cons (o := { dst := some 22, op := Op.call { callee := Callee.value (Operand.func _), args := #[Operand.tmp 19, Operand.tmp 21], argTypes := _ }, type := _, pos := _, after := _, guard := some (7, true) }) rfl (fun KK hK => ?_) AllReadyH.nil)
  go_simp
  refine (sameT_any A' C lo lx lc ly _ ((unhide HLA).ext HS) (unhide HLC)).mono ?_
  rintro e wv ⟨rfl, hxs⟩
  rw [unhide HMC]
  have HS2 := HS.trans hxs
  clear hxs HS
  have HS := HS2
  clear HS2
  refine hK.out _ _ HS (fun _ => ?_)
  clear hK KK
  try simp only [Act.put, List.setIfInBounds_toArray, List.set_cons_zero, List.set_cons_succ]
  refine wpAnyH_take (i := 12) (oi := { dst := some 23, op := Op.pick (Operand.tmp 18) (Operand.tmp 22) (Operand.const (Value.bool false)), type := _, pos := _, after := _, guard := none }) (v := .bool true) rfl (by kernel_rfl) (by kernel_rfl) (by kernel_rfl) (fun _ _ _ h => h) (Or.inl ⟨by rfl, fun _ _ => rfl⟩) HS ?_
  simp only [Act.put, List.setIfInBounds_toArray, List.set_cons_zero, List.set_cons_succ]
  refine wpAnyH_take (i := 13) (oi := { dst := some 4, op := Op.assign (Operand.tmp 23), type := _, pos := _, after := _, guard := none }) (v := .bool true) rfl (by kernel_rfl) (by kernel_rfl) (by kernel_rfl) (fun _ _ _ h => h) (Or.inl ⟨by rfl, fun _ _ => rfl⟩) HS ?_
  simp only [Act.put, List.setIfInBounds_toArray, List.set_cons_zero, List.set_cons_succ]
  refine wpAnyH_done (by kernel_rfl) ?_ _
  refine NoPanic.normal ?_
  go_wp2
  go_ret
  exact ⟨rfl, (unhide HX).trans HS⟩

set_option maxRecDepth 100000 in
theorem parseSame_owes (H : Type) (enc : TypeId × Value → H) (W : World) (base : Nat) (args : Array Value) (ds : List (DataW H)) (p : List MemPlace) : OwesH H enc Tryz.prog 3 Tryz.f3 Rows.parseSameSpec W base args ds p := by
  intro hval hA hsz hsh
  rw [Tryz.params3] at hA hval hsz
  obtain ⟨v0, vs0, d0, ds0, p0, q0, hargs, rfl, rfl, h0, r0⟩ := trodAll_cons hA
  obtain ⟨v1, vs1, d1, ds1, p1, q1, rfl, rfl, rfl, h1, r1⟩ := trodAll_cons r0
  obtain ⟨rfl, rfl, rfl⟩ := trodAll_nil r1
  obtain rfl : args = #[v0, v1] := by cases args; simp_all
  obtain ⟨u0, A, rfl, hLA, hkA⟩ := open_tree (hval 0 24 v0 rfl rfl) h0 (Wgt.arg hsz (j := 0) rfl rfl)
  obtain ⟨u1, B, rfl, hLB, hkB⟩ := open_tree (hval 1 24 v1 rfl rfl) h1 (Wgt.arg hsz (j := 1) rfl rfl)
  obtain ⟨ao, ca, rfl, _⟩ := id hLA
  obtain ⟨bo, cb, rfl, _⟩ := id hLB
  obtain ⟨m, hm⟩ := Tryz.laysM143.s1_3 W hsh
  exact ⟨⟨rfl, rfl, rfl⟩, parseSame_any A B ao bo ca cb W m hm hLA hLB hkA hkB⟩

set_option maxRecDepth 100000 in
theorem parseSame_lifted (os : Os) (started : os.Started) (H : Type) (enc : TypeId × Value → H) :
    ReturnsInHanded {} Tryz.checked os 3 .any (Rows.parseSameSpec.pre6 enc Tryz.prog Tryz.f3 [] false) (Rows.parseSameSpec.post enc Tryz.prog Tryz.f3 false true false false) :=
  lift_law_shaped (C := Tryz.checked) own laidOut started (by kernel_rfl) Tryz.func3 (T := 4) rfl Tryz.underlying4 rfl (by kernel_rfl)
    (ChangeSpec.witness6 (enc := enc) (C := Tryz.checked) false ⟨#[], #[.agg #[.slice none 0 0], .agg #[.slice none 0 0]], []⟩ 8 (by kernel_rfl) (by kernel_rfl) (by kernel_rfl) (by kernel_rfl)) (parseSame_owes H enc)

theorem parseSame_holds : Rows.ParseSameSaid :=
  OpenClaim.holds_of_wide 3 Tryz.f3 rfl rfl rfl rfl rfl rfl rfl ⟨rfl, rfl, rfl, rfl, rfl⟩ rfl rfl rfl rfl rfl (by kernel_rfl) Tryz.func3 (by kernel_rfl)
    (of_decide_eq_true (by kernel_rfl)) (by unfold Func.isWrapper; rw [if_neg (of_decide_eq_false (by kernel_rfl))]; exact ⟨rfl, rfl⟩)
    (fun os started H enc _ => parseSame_lifted os started H enc)
#print axioms parseSame_holds
end Go.Proofs.YtjfhhhabcbkahaaGreat
