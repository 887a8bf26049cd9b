/- Several texts in one. -/
import Derived.Test.YtglfhmlcmffoaaaGreatRows
import Derived.Test.YtglfhmlcmffoaaaGreatLemJ
import Derived.ProofKit
import Derived.OpenShut
import Derived.SizedLaws
import Derived.JoinedCond
import Derived.Deep.CondSized
import Derived.Test.YtglfhmlcmffoaaaGreatIUJ
import Derived.Test.YtglfhmlcmffoaaaGreatQa
import Derived.Deep.Slices
import Derived.Test.YtglfhmlcmffoaaaGreatCLJ
import Derived.Laws.IdiomArrays
import Derived.Test.YtglfhmlcmffoaaaGreatMYJ
import Derived.Test.YtglfhmlcmffoaaaGreatVEJ
/-
  The step from a walk to a given statement, for every law of this seat: what comes in is opened, and behind the call it reads as it did, since nothing that was there has turned.
-/
namespace Go.Proofs.YtglfhmlcmffoaaaGreat
open Go.ChangeShapes Go.WideShapes Go.ChangeAt Go.RowKit

theorem own : ownKnob Tryz.prog.godebug = none := by kernel_rfl
theorem laidOut : laidOutB Tryz.prog = true := by kernel_rfl

section
variable {H : Type} {enc : TypeId × Value → H}

theorem trod_lt_all {P : Program} {W : World} {t : TypeId} {v : Value} {d : DataW H} {p : List MemPlace} (h : DataW.Trod enc P W 0 (fun _ => true) true t v d p) : ∀ x ∈ p, x.block < W.heap.size := by
  obtain ⟨m, hm⟩ := h
  exact DataW.trod_lt m _ _ _ hm

/-- Behind a call that turns nothing that was there all arguments read as they did. -/
theorem same_all {P : Program} (hl : laidOutB P = true) {W W' : World} (hb : Below W.heap.size W W') : ∀ (ts : List TypeId) (vs : List Value) (ds : List (DataW H)) (ps : List MemPlace),
    (ts.all fun t => P.readableRec t && decide (t < P.types.size)) = true → DataW.TrodAll enc P W 0 (fun _ => true) true ts vs ds ps → DataW.TrodAll enc P W' 0 (fun b => decide (b < W.heap.size)) true ts vs ds ps := by
  intro ts
  induction ts with
  | nil =>
    intro vs ds ps _ h
    obtain ⟨rfl, rfl, rfl⟩ := trodAll_nil h
    exact trodAll_mk0
  | cons t ts ih =>
    intro vs ds ps ht h
    obtain ⟨v, vs', d, ds', p, q, rfl, rfl, rfl, h1, h2⟩ := trodAll_cons h
    simp only [List.all_cons, Bool.and_eq_true, decide_eq_true_eq] at ht
    exact trodAll_cons_mk (Below.trod hl ht.1.1 ht.1.2 h1 hb (trod_lt_all h1)) (ih vs' ds' q ht.2 h2)

/-- 'true, and the input reads as it did', out of a walk that turns nothing that was there. -/
theorem post_true {P : Program} (hl : laidOutB P = true) {s : ChangeSpec} {fn : Func} {T : TypeId} {W W' : World} {args : Array Value} {ds gs : List (DataW H)} {before : List MemPlace} (hres : fn.resultTypes = #[T]) (hT : P.underlying T = some .bool) (hvars : s.vars = [])
    (hread : (fn.params.toList.all fun t => P.readableRec t && decide (t < P.types.size)) = true)
    (hW : DataW.Whole enc P fn.params.toList s.vars false W args.toList ds gs before) (hfn : (s.fn H ds).results = [.lit (.bool true)] ∧ (s.fn H ds).args = ds ∧ (s.fn H ds).vars = [])
    (hb : Below W.heap.size W W') : s.post enc P fn false true false false W args (.bool true) W' := by
  have hW0 := hW
  obtain ⟨p, q, hA, hV, rfl, _, _⟩ := hW
  rw [hvars] at hV
  obtain ⟨rfl, rfl⟩ := trodVars_none hV
  obtain ⟨h1, h2, h3⟩ := hfn
  refine ⟨ds, [], _, [], p, [], hW0, ?_, ?_, ?_, hb.frame _, fun h => by cases h⟩
  · rw [List.append_nil, h1, hres]
    exact trodAll_mk1 (shut_bool hT _)
  · rw [List.append_nil, h2]
    exact same_all hl hb _ _ _ _ hread hA
  · rw [List.append_nil, h3, hvars]
    exact rfl

/-- A slice of integers that came in: its numbers, that each fits its kind, how many bytes they take. -/
theorem open_row {P : Program} {W : World} {base : Nat} {t e : TypeId} {k : IntKind} {v : Value} {d : DataW H} {p : List MemPlace} {ts : List TypeId} {ds : List (DataW H)} {j : Nat} (ht : P.underlying t = some (.slice e)) (he : P.underlying e = some (.int k)) (hc : P.cellsOf e = 1)
    (hv : Value.okWide P W .any base t v) (h : DataW.Trod enc P W 0 (fun _ => true) true t v d p) (hsz : (DataW.weightsEach P ts ds).all (· ≤ reachBytes) = true) (hj : ts[j]? = some t) (hd : ds[j]? = some d) :
    ∃ xs : List Int, Row k W v xs ∧ (∀ x ∈ xs, (Lit.int k x).wf = true) ∧ xs.length * P.bytesOf e ≤ 140737488351232 := by
  obtain ⟨a, len, cap, rfl⟩ := okWide_slice ht hv
  obtain ⟨fuel, hf⟩ := h
  rcases open_ints ht he hc hf with ⟨hcs, _⟩ | ⟨x, l, c, zs, hcs, _, hl, hm, hz, hx, hcell, hwz⟩
  · simp [Value.cells] at hcs
    obtain ⟨rfl, rfl, rfl⟩ := hcs
    exact ⟨[], Row.nil _ _, by simp, by simp⟩
  · simp [Value.cells] at hcs
    obtain ⟨rfl, rfl, rfl⟩ := hcs
    simp only [if_true] at hz
    have hlen : (zs.take len).length = len := by simp; omega
    refine ⟨zs.take len, ?_, fun n hn => hwz n (List.mem_of_mem_take hn), ?_⟩
    · by_cases h0 : len = 0
      · subst h0
        exact .inl ⟨by simp, some x, cap, rfl, (fun h => by cases h), hm⟩
      · obtain ⟨b, off, spot⟩ := x
        have hc0 := hcell 0 (by omega)
        have hspot : spot = none := by simpa [Addr.add] using World.cell?_spot hc0
        subst hspot
        refine .inr ⟨?_, b, off, cap, by rw [hlen], by rw [hlen]; exact hl, hm, fun i hi => ?_⟩
        · intro h
          rw [h] at hlen
          exact h0 (by simpa using hlen.symm)
        · rw [hlen] at hi
          have hci := hcell i (by omega)
          rw [Addr.add_lit] at hci
          rw [hci]
          have e2 : (zs.take len).getD i 0 = zs.getD i 0 := by simp [List.getD, hi]
          rw [e2]
    · have hw := sized_slice hsz hj (by rw [hd, (Prod.mk.inj hx).1]) ht
      simp only [lits, List.length_map, reachBytes] at hw
      rw [hlen] at hw ⊢
      rw [Nat.add_mul] at hw
      omega

/-- What a law's proof owes: whatever it is handed, the call returns true and turns nothing that was there. -/
def Owes (H : Type) (enc : TypeId × Value → H) (P : Program) (f : FuncId) (fn : Func) (s : ChangeSpec) (W : World) (base : Nat) (args : Array Value) (ds : List (DataW H)) (p : List MemPlace) : Prop :=
  (∀ (j : Nat) t v, fn.params[j]? = some t → args[j]? = some v → Value.okWide P W .any base t v) →
  DataW.TrodAll enc P W 0 (fun _ => true) true fn.params.toList args.toList ds p →
  (DataW.weightsEach P fn.params.toList ds).all (· ≤ reachBytes) = true →
  ((s.fn H ds).results = [.lit (.bool true)] ∧ (s.fn H ds).args = ds ∧ (s.fn H ds).vars = []) ∧
  Calls P f args W fun e W' => e = .returned (.bool true) ∧ Ext W W'

theorem lift_law {C : Checked} {os : Os} {f : FuncId} {fn : Func} {s : ChangeSpec} {T : TypeId} (hown : ownKnob C.prog.godebug = none) (hlaid : laidOutB C.prog = true) (started : os.Started) (noInit : C.prog.inits.idxOf? f = none) (hfn : C.prog.funcs[f]? = some fn)
    (hres : fn.resultTypes = #[T]) (hT : C.prog.underlying T = some .bool) (hvars : s.vars = [])
    (hread : (fn.params.toList.all fun t => C.prog.readableRec t && decide (t < C.prog.types.size)) = true)
    (witness : ∃ (w : World) (tape : Tape) (i : Input), w.os = os ∧ (w.forCall tape i).Shaped C.prog ∧ i.vars = [] ∧ Input.okWide C.prog (w.forCall tape i) .any w.heap.size f i ∧
      s.pre6 enc C.prog fn [] false (w.forCall tape i).memory i.args ∧ ({} : Assume).holds C.prog (lone (Frame.enter C.prog f i.args .normal) [] (w.forCall tape i)))
    (owes : ∀ W base args ds p, Owes H enc C.prog f fn s W base args ds p) :
    ReturnsInHanded {} C os f .any (s.pre6 enc C.prog fn [] false) (s.post enc C.prog fn false true false false) := by
  refine returnsInHanded_of_change_sized (C := C) hown started noInit hfn witness ?_
  intro W base args ds gs before hval hW _ hsz _
  have hW0 := hW
  obtain ⟨p, q, hA, hV, rfl, _, _⟩ := hW
  rw [hvars] at hV
  obtain ⟨rfl, rfl⟩ := trodVars_none hV
  have e : s.plain.varTypes C.prog = [] := by simp [ChangeSpec.plain, DataSpec.varTypes, hvars]
  rw [e, List.append_nil, List.append_nil] at hsz
  obtain ⟨hf, hc⟩ := owes W base args ds p hval hA hsz
  refine hc.mono fun e W' ⟨he, hb⟩ => ⟨_, he, ?_⟩
  exact post_true hlaid (T := T) hres hT hvars hread hW0 hf hb
end
end Go.Proofs.YtglfhmlcmffoaaaGreat

/-
  Images: the document's Copy. What the dump lacks is left out.
-/
namespace Go.Proofs.YtglfhmlcmffoaaaGreat
open Go.RowKit
set_option linter.unusedVariables false
set_option linter.unusedSimpArgs false

/-- How far Copy has come. -/
structure CpI (w wr : World) (I : Img) (v : Value) (L : List Ent) (ao : Option Addr) (cap k : Nat) (D : List Ent) : Prop where
  len : D.length = k
  abs : absL D = absL (L.take k)
  lo : LO wr (w.heap.size + 2) (.slice ao D.length cap) D
  blk : Blk wr w.heap.size #[.int .i64 I.f, v, .int .i64 I.ws, .int .i64 I.wt, .int .i64 I.mn, .int .i64 I.mg] 112
  res : Blk wr (w.heap.size + 1) #[.int .i64 0, .slice none 0 0, .int .i64 0, .int .i64 0, .int .i64 0, .int .i64 0] 112
  ext : Ext w wr

end Go.Proofs.YtglfhmlcmffoaaaGreat

/-
  Images that come in: what they hold.
-/
namespace Go.Proofs.YtglfhmlcmffoaaaGreat
open Go.ChangeShapes Go.WideShapes Go.ChangeAt Go.RowKit
set_option linter.unusedVariables false
set_option linter.unusedSimpArgs false

theorem cells_img : Tryz.prog.cellsOf 112 = 6 := by kernel_rfl
theorem cells_lev : Tryz.prog.cellsOf 156 = 3 := by kernel_rfl
theorem cells_levs : Tryz.prog.cellsOf 110 = 1 := by kernel_rfl
theorem cells_int : Tryz.prog.cellsOf 3 = 1 := by kernel_rfl
theorem cells_bytes : Tryz.prog.cellsOf 154 = 1 := by kernel_rfl
theorem cells_byte : Tryz.prog.cellsOf 5 = 1 := by kernel_rfl
theorem bytes_lev : Tryz.prog.bytesOf 156 = 40 := by kernel_rfl
theorem bytes_byte : Tryz.prog.bytesOf 5 = 1 := by kernel_rfl
theorem byt_wf {x : Int} (h : (Lit.int .u8 x).wf = true) : 0 ≤ x ∧ x ≤ 255 := by
  simp only [Lit.wf, Bool.and_eq_true, decide_eq_true_eq] at h
  exact h

section
variable {H : Type} {enc : TypeId × Value → H}
/-- All that weighs, weighs what there is room for. -/
def Wgt (P : Program) (t : TypeId) (d : DataW H) : Prop := ∀ n ∈ d.weights P t, n ≤ reachBytes
theorem Wgt.arg {P : Program} {ts : List TypeId} {ds : List (DataW H)} {j : Nat} {t : TypeId} {d : DataW H} (h : (DataW.weightsEach P ts ds).all (· ≤ reachBytes) = true) (ht : ts[j]? = some t) (hd : ds[j]? = some d) : Wgt P t d := fun n hn => by
  have := List.all_eq_true.1 h _ (DataW.weights_mem_each ht hd n hn)
  simpa using this
theorem Wgt.part {P : Program} {t : TypeId} {fs : Array Field} {ps : List (DataW H)} (hu : P.underlying t = some (.struct fs)) (h : Wgt P t (.agg ps)) {j : Nat} {s : TypeId} {d : DataW H} (ht : (fs.toList.map (·.type))[j]? = some s) (hd : ps[j]? = some d) : Wgt P s d := fun n hn => by
  refine h n ?_
  simp only [DataW.weights, hu]
  exact DataW.weights_mem_each ht hd n hn
theorem weights_all {P : Program} {e : TypeId} {d : DataW H} {n : Nat} (hn : n ∈ d.weights P e) : ∀ (l : List (DataW H)), d ∈ l → n ∈ DataW.weightsAll P e l
  | x :: r, h => by
    simp only [DataW.weightsAll, List.mem_append]
    rcases List.mem_cons.1 h with rfl | h
    · exact .inl hn
    · exact .inr (weights_all hn r h)
theorem Wgt.elem {P : Program} {t e : TypeId} {xs ys : List (DataW H)} (hu : P.underlying t = some (.slice e)) (h : Wgt P t (.slice xs ys)) {d : DataW H} (hd : d ∈ xs) : Wgt P e d := fun n hn => by
  refine h n ?_
  simp only [DataW.weights, hu, List.mem_cons, List.mem_append]
  exact .inr (.inl (weights_all hn xs hd))
theorem Wgt.len {P : Program} {t e : TypeId} {xs ys : List (DataW H)} (hu : P.underlying t = some (.slice e)) (h : Wgt P t (.slice xs ys)) : xs.length * P.bytesOf e ≤ 140737488351232 := by
  have := h ((xs.length + ys.length) * P.bytesOf e) (by simp [DataW.weights, hu])
  unfold reachBytes at this
  rw [Nat.add_mul] at this
  omega

/-- A slice of bytes within what came in. -/
theorem open_bytes {W : World} {u : Value} {fuel : Nat} {y : DataW H × List MemPlace} (hf : DataW.trod enc Tryz.prog W 0 (fun _ => true) true fuel 154 [u] = some y) (hw : Wgt Tryz.prog 154 y.1) :
    ∃ xs : List Int, Row .u8 W u xs ∧ Byt xs ∧ xs.length ≤ 140737488351232 := by
  rcases open_ints Tryz.underlying154 Tryz.underlying5 cells_byte hf with ⟨hcs, _⟩ | ⟨x, l, c, zs, hcs, _, hl, hm, hz, hx, hcell, hwz⟩
  · simp at hcs
    subst hcs
    exact ⟨[], Row.nil _ _, by simp [Byt], by simp⟩
  · simp at hcs
    subst hcs
    simp only [if_true] at hz
    have hlen : (zs.take l).length = l := by simp; omega
    have hw2 : l ≤ 140737488351232 := by
      rw [hx] at hw
      have := Wgt.len Tryz.underlying154 hw
      rw [bytes_byte] at this
      simp only [lits, List.length_map] at this
      rw [hlen] at this
      omega
    refine ⟨zs.take l, ?_, fun n hn => byt_wf (hwz n (List.mem_of_mem_take hn)), by rw [hlen]; exact hw2⟩
    by_cases h0 : l = 0
    · subst h0
      exact .inl ⟨by simp, some x, c, rfl, (fun h => by cases h), hm⟩
    · obtain ⟨b, off, spot⟩ := x
      have hc0 := hcell 0 (by omega)
      have hspot : spot = none := by simpa [Addr.add] using World.cell?_spot hc0
      subst hspot
      refine .inr ⟨?_, b, off, c, by rw [hlen], by rw [hlen]; exact hl, hm, fun i hi => ?_⟩
      · intro h
        rw [h] at hlen
        exact h0 (by simpa using hlen.symm)
      · rw [hlen] at hi
        have hci := hcell i (by omega)
        rw [Addr.add_lit] at hci
        rw [hci]
        have e2 : (zs.take l).getD i 0 = zs.getD i 0 := by simp [List.getD, hi]
        rw [e2]
theorem trod_struct3 {P : Program} {w : World} {base : Nat} {spare : Nat → Bool} {held : Bool} {t : TypeId} {f0 f1 f2 : Field} {fuel : Nat} {cs : List Value} {x : DataW H × List MemPlace} (ht : P.underlying t = some (.struct #[f0, f1, f2])) (h : DataW.trod enc P w base spare held fuel t cs = some x) :
    ∃ y0 y1 y2 n, x.1 = .agg [y0.1, y1.1, y2.1] ∧ cs.length = P.cellsOf t ∧ DataW.trod enc P w base spare held n f0.type ((cs.drop f0.offset).take (P.cellsOf f0.type)) = some y0 ∧ DataW.trod enc P w base spare held n f1.type ((cs.drop f1.offset).take (P.cellsOf f1.type)) = some y1 ∧ DataW.trod enc P w base spare held n f2.type ((cs.drop f2.offset).take (P.cellsOf f2.type)) = some y2 := by
  obtain ⟨xs, n, _, rfl, hl, hlen, hf⟩ := DataW.trod_struct ht h
  match xs, hlen with
  | [y0, y1, y2], _ => exact ⟨y0, y1, y2, n, rfl, hl, by simpa using hf 0 f0 rfl, by simpa using hf 1 f1 rfl, by simpa using hf 2 f2 rfl⟩
theorem trod_struct6 {P : Program} {w : World} {base : Nat} {spare : Nat → Bool} {held : Bool} {t : TypeId} {f0 f1 f2 f3 f4 f5 : Field} {fuel : Nat} {cs : List Value} {x : DataW H × List MemPlace} (ht : P.underlying t = some (.struct #[f0, f1, f2, f3, f4, f5])) (h : DataW.trod enc P w base spare held fuel t cs = some x) :
    ∃ y0 y1 y2 y3 y4 y5 n, x.1 = .agg [y0.1, y1.1, y2.1, y3.1, y4.1, y5.1] ∧ cs.length = P.cellsOf t ∧ DataW.trod enc P w base spare held n f0.type ((cs.drop f0.offset).take (P.cellsOf f0.type)) = some y0 ∧ DataW.trod enc P w base spare held n f1.type ((cs.drop f1.offset).take (P.cellsOf f1.type)) = some y1 ∧ DataW.trod enc P w base spare held n f2.type ((cs.drop f2.offset).take (P.cellsOf f2.type)) = some y2 ∧ DataW.trod enc P w base spare held n f3.type ((cs.drop f3.offset).take (P.cellsOf f3.type)) = some y3 ∧ DataW.trod enc P w base spare held n f4.type ((cs.drop f4.offset).take (P.cellsOf f4.type)) = some y4 ∧ DataW.trod enc P w base spare held n f5.type ((cs.drop f5.offset).take (P.cellsOf f5.type)) = some y5 := by
  obtain ⟨xs, n, _, rfl, hl, hlen, hf⟩ := DataW.trod_struct ht h
  match xs, hlen with
  | [y0, y1, y2, y3, y4, y5], _ => exact ⟨y0, y1, y2, y3, y4, y5, n, rfl, hl, by simpa using hf 0 f0 rfl, by simpa using hf 1 f1 rfl, by simpa using hf 2 f2 rfl, by simpa using hf 3 f3 rfl, by simpa using hf 4 f4 rfl, by simpa using hf 5 f5 rfl⟩
/-- A level within what came in. -/
def LevOk (W : World) (p : Ent) : Prop := Row .u8 W p.2.2.1 p.2.2.2 ∧ Byt p.2.2.2 ∧ p.2.2.2.length ≤ 140737488351232 ∧ I64 p.1 ∧ I64 p.2.1
set_option maxRecDepth 100000 in
theorem open_lev {W : World} {u0 u1 u2 : Value} {fuel : Nat} {y : DataW H × List MemPlace} (hf : DataW.trod enc Tryz.prog W 0 (fun _ => true) true fuel 156 [u0, u1, u2] = some y) (hw : Wgt Tryz.prog 156 y.1) :
    ∃ p : Ent, u0 = .int .i64 p.1 ∧ u1 = .int .i64 p.2.1 ∧ u2 = p.2.2.1 ∧ LevOk W p := by
  obtain ⟨y0, y1, y2, n, hx, hlen, t0, t1, t2⟩ := trod_struct3 Tryz.underlying156 hf
  simp only [cells_int, cells_bytes, List.drop_zero, List.drop_succ_cons, List.take_succ_cons, List.take_zero] at t0 t1 t2
  obtain ⟨A, e0, _, k0⟩ := DataW.trod_int Tryz.underlying3 t0
  obtain ⟨B, e1, _, k1⟩ := DataW.trod_int Tryz.underlying3 t1
  rw [hx] at hw
  have hw2 : Wgt Tryz.prog 154 y2.1 := Wgt.part Tryz.underlying156 hw (j := 2) rfl rfl
  obtain ⟨bs, hrow, hwf, hln⟩ := open_bytes t2 hw2
  simp only [List.cons.injEq, and_true] at e0 e1
  exact ⟨(A, B, u2, bs), e0, e1, rfl, hrow, hwf, hln, bounds_i64 k0, bounds_i64 k1⟩
set_option maxRecDepth 10000 in
/-- A slice of levels within what came in. -/
theorem open_levs {W : World} {u : Value} {fuel : Nat} {y : DataW H × List MemPlace} (hf : DataW.trod enc Tryz.prog W 0 (fun _ => true) true fuel 110 [u] = some y) (hw : Wgt Tryz.prog 110 y.1) :
    ∃ L : List Ent, LR W u L ∧ (∀ p ∈ L, LevOk W p) ∧ L.length ≤ 3518437208780 := by
  rcases Deep.open_slice Tryz.underlying110 hf with ⟨hcs, _⟩ | ⟨x, l, c, m, n, D, Pl, hcs, _, hl, hm, hmm, hx, hel⟩
  · simp at hcs
    subst hcs
    exact ⟨[], LR.nil _, by simp, by simp⟩
  · simp at hcs
    subst hcs
    simp only [if_true] at hmm
    subst hmm
    rw [hx] at hw
    have each : ∀ i, i < l → ∃ p : Ent, LevOk W p ∧ W.cell? (x.add (i * 3)) = some (.int .i64 p.1) ∧ W.cell? ((x.add (i * 3)).add 1) = some (.int .i64 p.2.1) ∧ W.cell? ((x.add (i * 3)).add 2) = some p.2.2.1 := by
      intro i hi
      obtain ⟨cs', h1, h2⟩ := hel i (by omega)
      rw [cells_lev] at h1
      obtain ⟨_, hl2, hce⟩ := World.cells?_some h1
      match cs', hl2 with
      | [u0, u1, u2], _ =>
        have hc0 := hce 0 (by omega)
        have hc1 := hce 1 (by omega)
        have hc2 := hce 2 (by omega)
        have hwD : Wgt Tryz.prog 156 (D i) := Wgt.elem Tryz.underlying110 hw (List.mem_map.2 ⟨i, List.mem_range.2 hi, rfl⟩)
        obtain ⟨p, rfl, rfl, rfl, hp⟩ := open_lev h2 hwD
        refine ⟨p, hp, ?_, hc1, hc2⟩
        have e : (x.add (i * 3)).add 0 = x.add (i * 3) := by unfold Addr.add; split <;> simp_all
        rw [e] at hc0
        exact hc0
    have hinh : Inhabited Ent := ⟨(0, 0, .slice none 0 0, [])⟩
    obtain ⟨F, hF⟩ := Deep.choose_lt (α := Ent) (p := fun i p => LevOk W p ∧ W.cell? (x.add (i * 3)) = some (.int .i64 p.1) ∧ W.cell? ((x.add (i * 3)).add 1) = some (.int .i64 p.2.1) ∧ W.cell? ((x.add (i * 3)).add 2) = some p.2.2.1) (fun i hi => each i hi)
    have hlen : ((List.range l).map F).length = l := by simp
    have hall : ∀ p ∈ (List.range l).map F, LevOk W p := fun p hp => by
      obtain ⟨i, hi, rfl⟩ := List.mem_map.1 hp
      exact (hF i (List.mem_range.1 hi)).1
    refine ⟨(List.range l).map F, ⟨⟨some x, _, by rw [hlen], (fun h => by cases h), by rw [hlen]; exact hl, hm, fun i hi => ?_⟩, fun p hp => (hall p hp).1⟩, hall, ?_⟩
    rw [hlen] at hi
    obtain ⟨b, off, spot⟩ := x
    have hspot : spot = none := by simpa [Addr.add] using World.cell?_spot (hF 0 (by omega)).2.1
    subst hspot
    have h := hF i hi
    simp only [Addr.add_lit] at h
    simp only [List.getElem_map, List.getElem_range]
    exact ⟨b, off, rfl, h.2⟩
    rw [hlen]
    have h8 := Wgt.len Tryz.underlying110 hw
    rw [bytes_lev] at h8
    simp only [List.length_map, List.length_range] at h8
    omega
/-- An image that came in. -/
structure ImgIn (W : World) (I : Img) (v : Value) (L : List Ent) : Prop where
  lr : LR W v L
  abs : I.L = absL L
  all : ∀ p ∈ L, LevOk W p
  len : L.length ≤ 3518437208780
  f : I64 I.f
  ws : I64 I.ws
  wt : I64 I.wt
  mn : I64 I.mn
  mg : I64 I.mg
theorem array6 {α : Type} {cs : Array α} (h : cs.size = 6) : ∃ c0 c1 c2 c3 c4 c5, cs = #[c0, c1, c2, c3, c4, c5] := by
  obtain ⟨l⟩ := cs
  match l, h with
  | [c0, c1, c2, c3, c4, c5], _ => exact ⟨c0, c1, c2, c3, c4, c5, rfl⟩
set_option maxRecDepth 100000 in
theorem open_img {W : World} {base : Nat} {v : Value} {d : DataW H} {p : List MemPlace} (hv : Value.okWide Tryz.prog W .any base 112 v) (h : DataW.Trod enc Tryz.prog W 0 (fun _ => true) true 112 v d p) (hw : Wgt Tryz.prog 112 d) :
    ∃ (I : Img) (u : Value) (L : List Ent), v = .agg #[.int .i64 I.f, u, .int .i64 I.ws, .int .i64 I.wt, .int .i64 I.mn, .int .i64 I.mg] ∧ ImgIn W I u L := by
  obtain ⟨cs, rfl, hsz⟩ := okWide_struct Tryz.underlying112 hv
  rw [cells_img] at hsz
  obtain ⟨c0, c1, c2, c3, c4, c5, rfl⟩ := array6 hsz
  obtain ⟨fuel, hf⟩ := h
  obtain ⟨y0, y1, y2, y3, y4, y5, n, hx, hlen, h0, h1, h2, h3, h4, h5⟩ := trod_struct6 Tryz.underlying112 hf
  simp only [cells_int, cells_levs] at h0 h1 h2 h3 h4 h5
  have t0 : DataW.trod enc Tryz.prog W 0 (fun _ => true) true n 3 [c0] = some y0 := h0
  have t1 : DataW.trod enc Tryz.prog W 0 (fun _ => true) true n 110 [c1] = some y1 := h1
  have t2 : DataW.trod enc Tryz.prog W 0 (fun _ => true) true n 3 [c2] = some y2 := h2
  have t3 : DataW.trod enc Tryz.prog W 0 (fun _ => true) true n 3 [c3] = some y3 := h3
  have t4 : DataW.trod enc Tryz.prog W 0 (fun _ => true) true n 3 [c4] = some y4 := h4
  have t5 : DataW.trod enc Tryz.prog W 0 (fun _ => true) true n 3 [c5] = some y5 := h5
  obtain ⟨A, e0, _, k0⟩ := DataW.trod_int Tryz.underlying3 t0
  obtain ⟨B, e2, _, k2⟩ := DataW.trod_int Tryz.underlying3 t2
  obtain ⟨C, e3, _, k3⟩ := DataW.trod_int Tryz.underlying3 t3
  obtain ⟨D, e4, _, k4⟩ := DataW.trod_int Tryz.underlying3 t4
  obtain ⟨E, e5, _, k5⟩ := DataW.trod_int Tryz.underlying3 t5
  simp only [List.cons.injEq, and_true] at e0 e2 e3 e4 e5
  subst e0 e2 e3 e4 e5
  have hd' : d = .agg [y0.1, y1.1, y2.1, y3.1, y4.1, y5.1] := hx
  subst hd'
  have hw2 : Wgt Tryz.prog 110 y1.1 := Wgt.part Tryz.underlying112 hw (j := 1) rfl rfl
  obtain ⟨L, hL, hall, hlen2⟩ := open_levs t1 hw2
  exact ⟨⟨A, absL L, B, C, D, E⟩, c1, L, rfl, hL, rfl, hall, hlen2, bounds_i64 k0, bounds_i64 k2, bounds_i64 k3, bounds_i64 k4, bounds_i64 k5⟩
end
end Go.Proofs.YtglfhmlcmffoaaaGreat

/-
  Instructions and codes that come in: what they hold.
-/
namespace Go.Proofs.YtglfhmlcmffoaaaGreat
open Go.ChangeShapes Go.WideShapes Go.ChangeAt Go.RowKit
set_option linter.unusedVariables false
set_option linter.unusedSimpArgs false

theorem cells_ins : Tryz.prog.cellsOf 59 = 16 := by kernel_rfl
theorem cells_inss : Tryz.prog.cellsOf 22 = 1 := by kernel_rfl
theorem cells_cod : Tryz.prog.cellsOf 24 = 6 := by kernel_rfl
theorem cells_intC : Tryz.prog.cellsOf 3 = 1 := by kernel_rfl
theorem cells_fixC : Tryz.prog.cellsOf 26 = 1 := by kernel_rfl
theorem cells_vecC : Tryz.prog.cellsOf 28 = 4 := by kernel_rfl
theorem cells_plC : Tryz.prog.cellsOf 57 = 4 := by kernel_rfl
theorem wf64 {x : Int} (h : (Lit.int .i64 x).wf = true) : -9223372036854775808 ≤ x ∧ x ≤ 9223372036854775807 := by
  simp only [Lit.wf, Bool.and_eq_true, decide_eq_true_eq] at h
  exact h
theorem wf32 {x : Int} (h : (Lit.int .i32 x).wf = true) : -2147483648 ≤ x ∧ x ≤ 2147483647 := by
  simp only [Lit.wf, Bool.and_eq_true, decide_eq_true_eq] at h
  exact h
def ofL (l : List Int) (k : Nat) : Int := l.getD k 0

section
variable {H : Type} {enc : TypeId × Value → H}
set_option maxRecDepth 100000 in
set_option maxHeartbeats 2000000 in
/-- Sixteen cells that read as an instruction. -/
theorem open_ins {W : World} {fuel : Nat} {c0 c1 c2 c3 c4 c5 c6 c7 c8 c9 c10 c11 c12 c13 c14 c15 : Value} {y : DataW H × List MemPlace} (hf : DataW.trod enc Tryz.prog W 0 (fun _ => true) true fuel 59 [c0, c1, c2, c3, c4, c5, c6, c7, c8, c9, c10, c11, c12, c13, c14, c15] = some y) :
    ∃ I : Nat → Int, [c0, c1, c2, c3, c4, c5, c6, c7, c8, c9, c10, c11, c12, c13, c14, c15] = (insA I).toList ∧ OkI I := by
  obtain ⟨xs, n, _, rfl, hl, hlen, hfs⟩ := DataW.trod_struct Tryz.underlying59 hf
  match xs, hlen with
  | [y0, y1, y2, y3, y4, y5, y6, y7, y8, y9], _ =>
    have t0 : DataW.trod enc Tryz.prog W 0 (fun _ => true) true n 3 [c0] = some y0 := by simpa [cells_intC] using hfs 0 _ rfl
    have t1 : DataW.trod enc Tryz.prog W 0 (fun _ => true) true n 3 [c1] = some y1 := by simpa [cells_intC] using hfs 1 _ rfl
    have t2 : DataW.trod enc Tryz.prog W 0 (fun _ => true) true n 3 [c2] = some y2 := by simpa [cells_intC] using hfs 2 _ rfl
    have t3 : DataW.trod enc Tryz.prog W 0 (fun _ => true) true n 3 [c3] = some y3 := by simpa [cells_intC] using hfs 3 _ rfl
    have t4 : DataW.trod enc Tryz.prog W 0 (fun _ => true) true n 3 [c4] = some y4 := by simpa [cells_intC] using hfs 4 _ rfl
    have t5 : DataW.trod enc Tryz.prog W 0 (fun _ => true) true n 3 [c5] = some y5 := by simpa [cells_intC] using hfs 5 _ rfl
    have t6 : DataW.trod enc Tryz.prog W 0 (fun _ => true) true n 3 [c6] = some y6 := by simpa [cells_intC] using hfs 6 _ rfl
    have t7 : DataW.trod enc Tryz.prog W 0 (fun _ => true) true n 3 [c7] = some y7 := by simpa [cells_intC] using hfs 7 _ rfl
    have t8 : DataW.trod enc Tryz.prog W 0 (fun _ => true) true n 28 [c8, c9, c10, c11] = some y8 := by simpa [cells_vecC] using hfs 8 _ rfl
    have t9 : DataW.trod enc Tryz.prog W 0 (fun _ => true) true n 57 [c12, c13, c14, c15] = some y9 := by simpa [cells_plC] using hfs 9 _ rfl
    obtain ⟨v0, v1, v2, v3, m, _, u0, u1, u2, u3⟩ := trod_array4 Tryz.underlying28 cells_fixC t8
    obtain ⟨z0, z1, z2, z3, m2, _, s0, s1, s2, s3⟩ := trod_array4 Tryz.underlying57 cells_intC t9
    obtain ⟨a0, e0, _, k0⟩ := DataW.trod_int Tryz.underlying3 t0
    obtain ⟨a1, e1, _, k1⟩ := DataW.trod_int Tryz.underlying3 t1
    obtain ⟨a2, e2, _, k2⟩ := DataW.trod_int Tryz.underlying3 t2
    obtain ⟨a3, e3, _, k3⟩ := DataW.trod_int Tryz.underlying3 t3
    obtain ⟨a4, e4, _, k4⟩ := DataW.trod_int Tryz.underlying3 t4
    obtain ⟨a5, e5, _, k5⟩ := DataW.trod_int Tryz.underlying3 t5
    obtain ⟨a6, e6, _, k6⟩ := DataW.trod_int Tryz.underlying3 t6
    obtain ⟨a7, e7, _, k7⟩ := DataW.trod_int Tryz.underlying3 t7
    obtain ⟨a8, e8, _, k8⟩ := DataW.trod_int Tryz.underlying26 u0
    obtain ⟨a9, e9, _, k9⟩ := DataW.trod_int Tryz.underlying26 u1
    obtain ⟨a10, e10, _, k10⟩ := DataW.trod_int Tryz.underlying26 u2
    obtain ⟨a11, e11, _, k11⟩ := DataW.trod_int Tryz.underlying26 u3
    obtain ⟨a12, e12, _, k12⟩ := DataW.trod_int Tryz.underlying3 s0
    obtain ⟨a13, e13, _, k13⟩ := DataW.trod_int Tryz.underlying3 s1
    obtain ⟨a14, e14, _, k14⟩ := DataW.trod_int Tryz.underlying3 s2
    obtain ⟨a15, e15, _, k15⟩ := DataW.trod_int Tryz.underlying3 s3
    simp only [List.cons.injEq, and_true] at e0 e1 e2 e3 e4 e5 e6 e7 e8 e9 e10 e11 e12 e13 e14 e15
    subst e0 e1 e2 e3 e4 e5 e6 e7 e8 e9 e10 e11 e12 e13 e14 e15
    refine ⟨ofL [a0, a1, a2, a3, a4, a5, a6, a7, a8, a9, a10, a11, a12, a13, a14, a15], rfl, fun k hk => ?_, fun k hk => ?_, fun k hk => ?_⟩
    · rcases (by omega : k = 0 ∨ k = 1 ∨ k = 2 ∨ k = 3 ∨ k = 4 ∨ k = 5 ∨ k = 6 ∨ k = 7) with rfl | rfl | rfl | rfl | rfl | rfl | rfl | rfl
      · exact wf64 k0
      · exact wf64 k1
      · exact wf64 k2
      · exact wf64 k3
      · exact wf64 k4
      · exact wf64 k5
      · exact wf64 k6
      · exact wf64 k7
    · rcases (by omega : k = 0 ∨ k = 1 ∨ k = 2 ∨ k = 3) with rfl | rfl | rfl | rfl
      · exact wf32 k8
      · exact wf32 k9
      · exact wf32 k10
      · exact wf32 k11
    · rcases (by omega : k = 0 ∨ k = 1 ∨ k = 2 ∨ k = 3) with rfl | rfl | rfl | rfl
      · exact wf64 k12
      · exact wf64 k13
      · exact wf64 k14
      · exact wf64 k15

set_option maxRecDepth 10000 in
/-- A slice of instructions within what came in. -/
theorem open_inss {W : World} {u : Value} {fuel : Nat} {y : DataW H × List MemPlace} (hf : DataW.trod enc Tryz.prog W 0 (fun _ => true) true fuel 22 [u] = some y) :
    ∃ L : List (Nat → Int), IR W u L ∧ ∀ I ∈ L, OkI I := by
  rcases Deep.open_slice Tryz.underlying22 hf with ⟨hcs, _⟩ | ⟨x, l, c, m, n, D, Pl, hcs, _, hl, hm, hmm, hx, hel⟩
  · simp at hcs
    subst hcs
    exact ⟨[], ⟨none, 0, rfl, fun _ => rfl, Nat.le_refl _, Nat.zero_le _, fun i hi => by simp at hi⟩, by simp⟩
  · simp at hcs
    subst hcs
    simp only [if_true] at hmm
    subst hmm
    have each : ∀ i, i < l → ∃ I : Nat → Int, OkI I ∧ ∀ j u, (insA I).toList[j]? = some u → W.cell? ((x.add (i * 16)).add j) = some u := by
      intro i hi
      obtain ⟨cs', h1, h2⟩ := hel i (by omega)
      rw [cells_ins] at h1
      obtain ⟨_, hl2, hce⟩ := World.cells?_some h1
      match cs', hl2 with
      | [c0, c1, c2, c3, c4, c5, c6, c7, c8, c9, c10, c11, c12, c13, c14, c15], _ =>
        obtain ⟨I, e, hok⟩ := open_ins h2
        refine ⟨I, hok, fun j u hu => ?_⟩
        rw [← e] at hu
        have hj : j < 16 := by simpa using (List.getElem?_eq_some_iff.1 hu).1
        have := hce j (by omega)
        rw [this]
        exact hu
    have hinh : Inhabited (Nat → Int) := ⟨zI⟩
    obtain ⟨F, hF⟩ := Deep.choose_lt (α := Nat → Int) (p := fun i I => OkI I ∧ ∀ j u, (insA I).toList[j]? = some u → W.cell? ((x.add (i * 16)).add j) = some u) (fun i hi => each i hi)
    have hlen : ((List.range l).map F).length = l := by simp
    refine ⟨(List.range l).map F, ⟨some x, _, by rw [hlen], (fun h => by cases h), by rw [hlen]; exact hl, hm, fun i hi => ?_⟩, fun I hI => ?_⟩
    · rw [hlen] at hi
      obtain ⟨b, off, spot⟩ := x
      have h0 := (hF 0 (by omega)).2 0 _ rfl
      have hspot : spot = none := by simpa [Addr.add] using World.cell?_spot h0
      subst hspot
      refine ⟨b, off, rfl, fun j u hu => ?_⟩
      simp only [List.getElem_map, List.getElem_range] at hu
      have h := (hF i hi).2 j u hu
      simpa only [Addr.add_lit] using h
    · obtain ⟨i, hi, rfl⟩ := List.mem_map.1 hI
      exact (hF i (List.mem_range.1 hi)).1

set_option maxRecDepth 100000 in
/-- A slice of instructions that came in. -/
theorem open_inssA {W : World} {base : Nat} {v : Value} {d : DataW H} {p : List MemPlace} (hv : Value.okWide Tryz.prog W .any base 22 v) (h : DataW.Trod enc Tryz.prog W 0 (fun _ => true) true 22 v d p) :
    ∃ L : List (Nat → Int), IR W v L ∧ ∀ I ∈ L, OkI I := by
  obtain ⟨a, len, cap, rfl⟩ := okWide_slice Tryz.underlying22 hv
  obtain ⟨fuel, hf⟩ := h
  exact open_inss (by simpa [Value.cells] using hf)
theorem arr6 {α : Type} {cs : Array α} (h : cs.size = 6) : ∃ c0 c1 c2 c3 c4 c5, cs = #[c0, c1, c2, c3, c4, c5] := by
  obtain ⟨l⟩ := cs
  match l, h with
  | [c0, c1, c2, c3, c4, c5], _ => exact ⟨c0, c1, c2, c3, c4, c5, rfl⟩
set_option maxRecDepth 100000 in
/-- Six cells that read as a code. -/
theorem open_cod {W : World} {fuel : Nat} {c0 c1 c2 c3 c4 c5 : Value} {y : DataW H × List MemPlace} (hf : DataW.trod enc Tryz.prog W 0 (fun _ => true) true fuel 24 [c0, c1, c2, c3, c4, c5] = some y) :
    ∃ C : Cod, #[c0, c1, c2, c3, c4, c5] = #[.int .i64 (C).stage, c1, .int .i64 (C).regs, .int .i64 (C).attr, .int .i64 (C).unif, .int .i64 (C).vary] ∧ IR W c1 C.ins ∧ ∀ I ∈ C.ins, OkI I := by
  obtain ⟨xs, n, _, rfl, hl, hlen, hfs⟩ := DataW.trod_struct Tryz.underlying24 hf
  match xs, hlen with
  | [y0, y1, y2, y3, y4, y5], _ =>
    have t0 : DataW.trod enc Tryz.prog W 0 (fun _ => true) true n 3 [c0] = some y0 := by simpa [cells_intC] using hfs 0 _ rfl
    have t1 : DataW.trod enc Tryz.prog W 0 (fun _ => true) true n 22 [c1] = some y1 := by simpa [cells_inss] using hfs 1 _ rfl
    have t2 : DataW.trod enc Tryz.prog W 0 (fun _ => true) true n 3 [c2] = some y2 := by simpa [cells_intC] using hfs 2 _ rfl
    have t3 : DataW.trod enc Tryz.prog W 0 (fun _ => true) true n 3 [c3] = some y3 := by simpa [cells_intC] using hfs 3 _ rfl
    have t4 : DataW.trod enc Tryz.prog W 0 (fun _ => true) true n 3 [c4] = some y4 := by simpa [cells_intC] using hfs 4 _ rfl
    have t5 : DataW.trod enc Tryz.prog W 0 (fun _ => true) true n 3 [c5] = some y5 := by simpa [cells_intC] using hfs 5 _ rfl
    obtain ⟨a0, e0, _, k0⟩ := DataW.trod_int Tryz.underlying3 t0
    obtain ⟨a2, e2, _, k2⟩ := DataW.trod_int Tryz.underlying3 t2
    obtain ⟨a3, e3, _, k3⟩ := DataW.trod_int Tryz.underlying3 t3
    obtain ⟨a4, e4, _, k4⟩ := DataW.trod_int Tryz.underlying3 t4
    obtain ⟨a5, e5, _, k5⟩ := DataW.trod_int Tryz.underlying3 t5
    simp only [List.cons.injEq, and_true] at e0 e2 e3 e4 e5
    subst e0 e2 e3 e4 e5
    obtain ⟨L, hL, hok⟩ := open_inss t1
    exact ⟨⟨a0, a2, a3, a4, a5, L⟩, rfl, hL, hok⟩
set_option maxRecDepth 100000 in
theorem open_codA {W : World} {base : Nat} {v : Value} {d : DataW H} {p : List MemPlace} (hv : Value.okWide Tryz.prog W .any base 24 v) (h : DataW.Trod enc Tryz.prog W 0 (fun _ => true) true 24 v d p) :
    ∃ (C : Cod) (u : Value), v = .agg #[.int .i64 (C).stage, u, .int .i64 (C).regs, .int .i64 (C).attr, .int .i64 (C).unif, .int .i64 (C).vary] ∧ IR W u C.ins ∧ ∀ I ∈ C.ins, OkI I := by
  obtain ⟨cs, rfl, hsz⟩ := okWide_struct Tryz.underlying24 hv
  rw [cells_cod] at hsz
  obtain ⟨c0, c1, c2, c3, c4, c5, rfl⟩ := arr6 hsz
  obtain ⟨fuel, hf⟩ := h
  obtain ⟨C, e, h1, h2⟩ := open_cod (by simpa [Value.cells] using hf)
  exact ⟨C, c1, by rw [e], h1, h2⟩
end
end Go.Proofs.YtglfhmlcmffoaaaGreat

/-
  Vectors and pairs of vectors that come in: their numbers. What the dump lacks is left out.
-/
namespace Go.Proofs.YtglfhmlcmffoaaaGreat
open Go.ChangeShapes Go.WideShapes Go.ChangeAt Go.RowKit

section
variable {H : Type} {enc : TypeId × Value → H}

theorem cells_fix : Tryz.prog.cellsOf 26 = 1 := by kernel_rfl
theorem cells_vec : Tryz.prog.cellsOf 28 = 4 := by kernel_rfl

theorem array4 {α : Type} {cs : Array α} (h : cs.size = 4) : ∃ c0 c1 c2 c3, cs = #[c0, c1, c2, c3] := by
  obtain ⟨l⟩ := cs
  match l, h with
  | [c0, c1, c2, c3], _ => exact ⟨c0, c1, c2, c3, rfl⟩
theorem array8 {α : Type} {cs : Array α} (h : cs.size = 8) : ∃ c0 c1 c2 c3 c4 c5 c6 c7, cs = #[c0, c1, c2, c3, c4, c5, c6, c7] := by
  obtain ⟨l⟩ := cs
  match l, h with
  | [c0, c1, c2, c3, c4, c5, c6, c7], _ => exact ⟨c0, c1, c2, c3, c4, c5, c6, c7, rfl⟩

/-- Four cells that read as a vector are four numbers. -/
theorem four_cells {W : World} {fuel : Nat} {c0 c1 c2 c3 : Value} {x : DataW H × List MemPlace} (h : DataW.trod enc Tryz.prog W 0 (fun _ => true) true fuel 28 [c0, c1, c2, c3] = some x) :
    ∃ a : Nat → Int, c0 = .int .i32 (a 0) ∧ c1 = .int .i32 (a 1) ∧ c2 = .int .i32 (a 2) ∧ c3 = .int .i32 (a 3) ∧ ∀ i, I32 (a i) := by
  obtain ⟨y0, y1, y2, y3, m, hx, hy0, hy1, hy2, hy3⟩ := trod_array4 Tryz.underlying28 cells_fix h
  obtain ⟨x0, e0, _, w0⟩ := DataW.trod_int Tryz.underlying26 hy0
  obtain ⟨x1, e1, _, w1⟩ := DataW.trod_int Tryz.underlying26 hy1
  obtain ⟨x2, e2, _, w2⟩ := DataW.trod_int Tryz.underlying26 hy2
  obtain ⟨x3, e3, _, w3⟩ := DataW.trod_int Tryz.underlying26 hy3
  simp at e0 e1 e2 e3
  exact ⟨v4 x0 x1 x2 x3, e0, e1, e2, e3, v4_i32 (bounds_i32 w0) (bounds_i32 w1) (bounds_i32 w2) (bounds_i32 w3)⟩

set_option maxRecDepth 100000 in
theorem open_vec {W : World} {base : Nat} {v : Value} {d : DataW H} {p : List MemPlace} (hv : Value.okWide Tryz.prog W .any base 28 v) (h : DataW.Trod enc Tryz.prog W 0 (fun _ => true) true 28 v d p) :
    ∃ a : Nat → Int, v = .agg #[.int .i32 (a 0), .int .i32 (a 1), .int .i32 (a 2), .int .i32 (a 3)] ∧ ∀ i, I32 (a i) := by
  obtain ⟨cs, rfl, hsz, _⟩ : ∃ cs, v = .agg cs ∧ cs.size = Tryz.prog.cellsOf 28 ∧ Row.okWide Tryz.prog W .any base 28 cs := by
    simpa [Value.okWide, Tryz.underlying28] using hv
  rw [cells_vec] at hsz
  obtain ⟨c0, c1, c2, c3, rfl⟩ := array4 hsz
  obtain ⟨fuel, hf⟩ := h
  obtain ⟨a, rfl, rfl, rfl, rfl, ha⟩ := four_cells hf
  exact ⟨a, rfl, ha⟩

end

/-- Where block b holds the pair of the vectors x and y. -/
theorem Blk.pair {w : World} {b : Nat} {x y : Nat → Int} {t : TypeId} (h : Blk w b #[.int .i32 (x 0), .int .i32 (x 1), .int .i32 (x 2), .int .i32 (x 3), .int .i32 (y 0), .int .i32 (y 1), .int .i32 (y 2), .int .i32 (y 3)] t) :
    (w.cell? ⟨b, 0, none⟩ = some (.int .i32 (x 0)) ∧ w.cell? ⟨b, 1, none⟩ = some (.int .i32 (x 1)) ∧ w.cell? ⟨b, 2, none⟩ = some (.int .i32 (x 2)) ∧ w.cell? ⟨b, 3, none⟩ = some (.int .i32 (x 3))) ∧
    w.cell? ⟨b, 4, none⟩ = some (.int .i32 (y 0)) ∧ w.cell? ⟨b, 5, none⟩ = some (.int .i32 (y 1)) ∧ w.cell? ⟨b, 6, none⟩ = some (.int .i32 (y 2)) ∧ w.cell? ⟨b, 7, none⟩ = some (.int .i32 (y 3)) :=
  ⟨⟨h.cell rfl, h.cell rfl, h.cell rfl, h.cell rfl⟩, h.cell rfl, h.cell rfl, h.cell rfl, h.cell rfl⟩
end Go.Proofs.YtglfhmlcmffoaaaGreat
