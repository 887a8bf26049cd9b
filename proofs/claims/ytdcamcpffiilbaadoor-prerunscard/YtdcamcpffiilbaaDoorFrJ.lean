/- Several texts in one. -/
import Derived.Test.YtdcamcpffiilbaaDoorRows
import Derived.Test.YtdcamcpffiilbaaDoorLem
import Derived.ProofKit
import Derived.OpenShut
import Derived.SizedLaws
import Derived.JoinedCond
import Derived.Deep.CondSized
import Derived.Test.YtdcamcpffiilbaaDoorCards
import Derived.Test.YtdcamcpffiilbaaDoorTie
import Derived.Test.YtdcamcpffiilbaaDoorZB
import Derived.LaidMore
import Derived.Lay
import Derived.SevenTiedAt
import Derived.Stop.Joined
import Derived.Stop.LaidErr
import Derived.Lib.LaidTab
import Derived.HandedShaped
import Derived.Test.YtdcamcpffiilbaaDoorZRi
import Derived.Test.YtdcamcpffiilbaaDoorXT1J
import Derived.Test.YtdcamcpffiilbaaDoorXXJ
import Derived.Test.YtdcamcpffiilbaaDoorShelfB
import Derived.ChangeMaps5
/-
  The step from a walk to a given statement, for every law of this seat: what comes in is opened, and behind the call it reads as it did, since nothing that was there has turned.
-/
namespace Go.Proofs.YtdcamcpffiilbaaDoor
open Go.ChangeShapes Go.WideShapes Go.ChangeAt Go.RowKit

theorem own : ownKnob Tryd.prog.godebug = none := by kernel_rfl
theorem laidOut : laidOutB Tryd.prog = true := by kernel_rfl

section
variable {H : Type} {enc : TypeId × Value → H}

theorem trod_lt_all {P : Program} {W : World} {t : TypeId} {v : Value} {d : DataW H} {p : List MemPlace} (h : DataW.Trod enc P W 0 (fun _ => true) true t v d p) : ∀ x ∈ p, x.block < W.heap.size := by
  obtain ⟨m, hm⟩ := h
  exact DataW.trod_lt m _ _ _ hm

/-- Behind a call that turns nothing that was there all arguments read as they did. -/
theorem same_all {P : Program} (hl : laidOutB P = true) {W W' : World} (hb : Below W.heap.size W W') : ∀ (ts : List TypeId) (vs : List Value) (ds : List (DataW H)) (ps : List MemPlace),
    (ts.all fun t => P.readableRec t && decide (t < P.types.size)) = true → DataW.TrodAll enc P W 0 (fun _ => true) true ts vs ds ps → DataW.TrodAll enc P W' 0 (fun b => decide (b < W.heap.size)) true ts vs ds ps := by
  intro ts
  induction ts with
  | nil =>
    intro vs ds ps _ h
    obtain ⟨rfl, rfl, rfl⟩ := trodAll_nil h
    exact trodAll_mk0
  | cons t ts ih =>
    intro vs ds ps ht h
    obtain ⟨v, vs', d, ds', p, q, rfl, rfl, rfl, h1, h2⟩ := trodAll_cons h
    simp only [List.all_cons, Bool.and_eq_true, decide_eq_true_eq] at ht
    exact trodAll_cons_mk (Below.trod hl ht.1.1 ht.1.2 h1 hb (trod_lt_all h1)) (ih vs' ds' q ht.2 h2)

/-- 'true, and the input reads as it did', out of a walk that turns nothing that was there. -/
theorem post_true {P : Program} (hl : laidOutB P = true) {s : ChangeSpec} {fn : Func} {T : TypeId} {W W' : World} {args : Array Value} {ds gs : List (DataW H)} {before : List MemPlace} (hres : fn.resultTypes = #[T]) (hT : P.underlying T = some .bool) (hvars : s.vars = [])
    (hread : (fn.params.toList.all fun t => P.readableRec t && decide (t < P.types.size)) = true)
    (hW : DataW.Whole enc P fn.params.toList s.vars false W args.toList ds gs before) (hfn : (s.fn H ds).results = [.lit (.bool true)] ∧ (s.fn H ds).args = ds ∧ (s.fn H ds).vars = [])
    (hb : Below W.heap.size W W') : s.post enc P fn false true false false W args (.bool true) W' := by
  have hW0 := hW
  obtain ⟨p, q, hA, hV, rfl, _, _⟩ := hW
  rw [hvars] at hV
  obtain ⟨rfl, rfl⟩ := trodVars_none hV
  obtain ⟨h1, h2, h3⟩ := hfn
  refine ⟨ds, [], _, [], p, [], hW0, ?_, ?_, ?_, hb.frame _, fun h => by cases h⟩
  · rw [List.append_nil, h1, hres]
    exact trodAll_mk1 (shut_bool hT _)
  · rw [List.append_nil, h2]
    exact same_all hl hb _ _ _ _ hread hA
  · rw [List.append_nil, h3, hvars]
    exact rfl

/-- A slice of integers that came in: its numbers, that each fits its kind, how many bytes they take. -/
theorem open_row {P : Program} {W : World} {base : Nat} {t e : TypeId} {k : IntKind} {v : Value} {d : DataW H} {p : List MemPlace} {ts : List TypeId} {ds : List (DataW H)} {j : Nat} (ht : P.underlying t = some (.slice e)) (he : P.underlying e = some (.int k)) (hc : P.cellsOf e = 1)
    (hv : Value.okWide P W .any base t v) (h : DataW.Trod enc P W 0 (fun _ => true) true t v d p) (hsz : (DataW.weightsEach P ts ds).all (· ≤ reachBytes) = true) (hj : ts[j]? = some t) (hd : ds[j]? = some d) :
    ∃ xs : List Int, Row k W v xs ∧ (∀ x ∈ xs, (Lit.int k x).wf = true) ∧ xs.length * P.bytesOf e ≤ 140737488351232 := by
  obtain ⟨a, len, cap, rfl⟩ := okWide_slice ht hv
  obtain ⟨fuel, hf⟩ := h
  rcases open_ints ht he hc hf with ⟨hcs, _⟩ | ⟨x, l, c, zs, hcs, _, hl, hm, hz, hx, hcell, hwz⟩
  · simp [Value.cells] at hcs
    obtain ⟨rfl, rfl, rfl⟩ := hcs
    exact ⟨[], Row.nil _ _, by simp, by simp⟩
  · simp [Value.cells] at hcs
    obtain ⟨rfl, rfl, rfl⟩ := hcs
    simp only [if_true] at hz
    have hlen : (zs.take len).length = len := by simp; omega
    refine ⟨zs.take len, ?_, fun n hn => hwz n (List.mem_of_mem_take hn), ?_⟩
    · by_cases h0 : len = 0
      · subst h0
        exact .inl ⟨by simp, some x, cap, rfl, (fun h => by cases h), hm⟩
      · obtain ⟨b, off, spot⟩ := x
        have hc0 := hcell 0 (by omega)
        have hspot : spot = none := by simpa [Addr.add] using World.cell?_spot hc0
        subst hspot
        refine .inr ⟨?_, b, off, cap, by rw [hlen], by rw [hlen]; exact hl, hm, fun i hi => ?_⟩
        · intro h
          rw [h] at hlen
          exact h0 (by simpa using hlen.symm)
        · rw [hlen] at hi
          have hci := hcell i (by omega)
          rw [Addr.add_lit] at hci
          rw [hci]
          have e2 : (zs.take len).getD i 0 = zs.getD i 0 := by simp [List.getD, hi]
          rw [e2]
    · have hw := sized_slice hsz hj (by rw [hd, (Prod.mk.inj hx).1]) ht
      simp only [lits, List.length_map, reachBytes] at hw
      rw [hlen] at hw ⊢
      rw [Nat.add_mul] at hw
      omega

/-- What a law's proof owes: whatever it is handed, the call returns true and turns nothing that was there. -/
def Owes (H : Type) (enc : TypeId × Value → H) (P : Program) (f : FuncId) (fn : Func) (s : ChangeSpec) (W : World) (base : Nat) (args : Array Value) (ds : List (DataW H)) (p : List MemPlace) : Prop :=
  (∀ (j : Nat) t v, fn.params[j]? = some t → args[j]? = some v → Value.okWide P W .any base t v) →
  DataW.TrodAll enc P W 0 (fun _ => true) true fn.params.toList args.toList ds p →
  (DataW.weightsEach P fn.params.toList ds).all (· ≤ reachBytes) = true →
  ((s.fn H ds).results = [.lit (.bool true)] ∧ (s.fn H ds).args = ds ∧ (s.fn H ds).vars = []) ∧
  Calls P f args W fun e W' => e = .returned (.bool true) ∧ Ext W W'

theorem lift_law {C : Checked} {os : Os} {f : FuncId} {fn : Func} {s : ChangeSpec} {T : TypeId} (hown : ownKnob C.prog.godebug = none) (hlaid : laidOutB C.prog = true) (started : os.Started) (noInit : C.prog.inits.idxOf? f = none) (hfn : C.prog.funcs[f]? = some fn)
    (hres : fn.resultTypes = #[T]) (hT : C.prog.underlying T = some .bool) (hvars : s.vars = [])
    (hread : (fn.params.toList.all fun t => C.prog.readableRec t && decide (t < C.prog.types.size)) = true)
    (witness : ∃ (w : World) (tape : Tape) (i : Input), w.os = os ∧ (w.forCall tape i).Shaped C.prog ∧ i.vars = [] ∧ Input.okWide C.prog (w.forCall tape i) .any w.heap.size f i ∧
      s.pre6 enc C.prog fn [] false (w.forCall tape i).memory i.args ∧ ({} : Assume).holds C.prog (lone (Frame.enter C.prog f i.args .normal) [] (w.forCall tape i)))
    (owes : ∀ W base args ds p, Owes H enc C.prog f fn s W base args ds p) :
    ReturnsInHanded {} C os f .any (s.pre6 enc C.prog fn [] false) (s.post enc C.prog fn false true false false) := by
  refine returnsInHanded_of_change_sized (C := C) hown started noInit hfn witness ?_
  intro W base args ds gs before hval hW _ hsz _
  have hW0 := hW
  obtain ⟨p, q, hA, hV, rfl, _, _⟩ := hW
  rw [hvars] at hV
  obtain ⟨rfl, rfl⟩ := trodVars_none hV
  have e : s.plain.varTypes C.prog = [] := by simp [ChangeSpec.plain, DataSpec.varTypes, hvars]
  rw [e, List.append_nil, List.append_nil] at hsz
  obtain ⟨hf, hc⟩ := owes W base args ds p hval hA hsz
  refine hc.mono fun e W' ⟨he, hb⟩ => ⟨_, he, ?_⟩
  exact post_true hlaid (T := T) hres hT hvars hread hW0 hf hb
end
end Go.Proofs.YtdcamcpffiilbaaDoor

/-
  The step from a walk to a given card, for every law of this seat whose row lists tables of the library, the world's shape kept: what comes in is opened, the tables hold what the program's text lays, and behind the call all reads as it did.
-/
namespace Go.Proofs.YtdcamcpffiilbaaDoor
open Go.ChangeShapes Go.WideShapes Go.ChangeAt Go.RowKit

section
variable {H : Type} {enc : TypeId × Value → H}

/-- What a law's proof owes: whatever it is handed, where the tables are laid and the world is shaped, the call returns true and turns nothing that was there. -/
def OwesP (H : Type) (enc : TypeId × Value → H) (P : Program) (f : FuncId) (fn : Func) (s : ChangeSpec) (laid : List (String × DataW Unit)) (W : World) (base : Nat) (args : Array Value) (ds : List (DataW H)) (p : List MemPlace) : Prop :=
  (∀ (j : Nat) t v, fn.params[j]? = some t → args[j]? = some v → Value.okWide P W .any base t v) →
  DataW.TrodAll enc P W 0 (fun _ => true) true fn.params.toList args.toList ds p →
  (DataW.weightsEach P fn.params.toList ds).all (· ≤ reachBytes) = true →
  laidMetH P laid W → W.ShapedOpen P →
  ((s.fn H ds).results = [.lit (.bool true)] ∧ (s.fn H ds).args = ds ∧ (s.fn H ds).vars = []) ∧
  Calls P f args W fun e W' => e = .returned (.bool true) ∧ Ext W W'

theorem lift_law_both {C : Checked} {os : Os} {f : FuncId} {fn : Func} {s : ChangeSpec} {T : TypeId} {laid : List (String × DataW Unit)} (hown : ownKnob C.prog.godebug = none) (hlaid : laidOutB C.prog = true) (started : os.Started) (noInit : C.prog.inits.idxOf? f = none) (hfn : C.prog.funcs[f]? = some fn)
    (hres : fn.resultTypes = #[T]) (hT : C.prog.underlying T = some .bool) (hvars : s.vars = [])
    (hread : (fn.params.toList.all fun t => C.prog.readableRec t && decide (t < C.prog.types.size)) = true)
    (witness : ∃ (w : World) (tape : Tape) (i : Input), w.os = os ∧ (w.forCall tape i).Shaped C.prog ∧ i.vars = [] ∧ Input.okWide C.prog (w.forCall tape i) .any w.heap.size f i ∧
      ((s.pre enc C.prog fn [] false (w.forCall tape i).memory i.args ∧ laidMetH C.prog laid (w.forCall tape i).memory) ∧ sizedMet enc C.prog fn (OpenSpec.ofChange s) false (w.forCall tape i).memory i.args) ∧ ({} : Assume).holds C.prog (lone (Frame.enter C.prog f i.args .normal) [] (w.forCall tape i)))
    (owes : ∀ W base args ds p, OwesP H enc C.prog f fn s laid W base args ds p) :
    ReturnsInHanded {} C os f .any (fun w args => (s.pre enc C.prog fn [] false w args ∧ laidMetH C.prog laid w) ∧ sizedMet enc C.prog fn (OpenSpec.ofChange s) false w args) (s.post enc C.prog fn false true false false) := by
  refine returnsInHanded_of_calls hown started noInit witness ?_
  intro w tape i _ hsh _ hok hpre hholds
  obtain ⟨_, _, _, fn', hfn', _, _, _, _, hval⟩ := hok
  have e0 : fn' = fn := Option.some.inj (hfn'.symm.trans hfn)
  subst e0
  obtain ⟨⟨⟨ds, gs, before, hw, hc⟩, hx⟩, hz⟩ := hpre
  have hW := DataW.Whole.of_heap (w' := w.forCall tape i) (by rfl) hw
  have hsz : (DataW.weightsEach C.prog (fn'.params.toList ++ s.plain.varTypes C.prog) (ds ++ gs)).all (· ≤ reachBytes) = true := hz.weights hw
  have hL : laidMetH C.prog laid (w.forCall tape i) := hx.of_heap (by rfl)
  have hW0 := hW
  obtain ⟨p, q, hA, hV, rfl, _, _⟩ := hW
  rw [hvars] at hV
  obtain ⟨rfl, rfl⟩ := trodVars_none hV
  have e : s.plain.varTypes C.prog = [] := by simp [ChangeSpec.plain, DataSpec.varTypes, hvars]
  rw [e, List.append_nil, List.append_nil] at hsz
  obtain ⟨hf, hcl⟩ := owes (w.forCall tape i) w.heap.size i.args ds p hval hA hsz hL hsh
  refine hcl.mono fun e W' ⟨he, hb⟩ => ?_
  subst he
  exact ChangeSpec.post_blind (post_true hlaid (T := T) hres hT hvars hread hW0 hf hb)
end

/-- The list of tables, the same in each row of this seat. -/
def laidL : List (String × DataW Unit) := Rows.preRunsRow.laid
theorem laid_plain : (laidL.all fun x => x.2.handleName?.isNone) = true := by kernel_rfl
theorem pow10_datum : (Rows.laid_internal_strconv_uint64pow10 : DataW Unit) = Lib.tabData .u64 Lib.pow10Tab := by kernel_rfl
theorem tab_of_laid {W : World} (h : laidMetH Tryd.prog laidL W) : Tab W := by
  rw [MakeChecks.laidMetH_plain _ _ _ laid_plain] at h
  have h2 : laidMet Tryd.prog (("internal/strconv.uint64pow10", Rows.laid_internal_strconv_uint64pow10) :: _) W := h.tail.tail
  rw [pow10_datum] at h2
  exact Lib.tabIs_of_head tab_no (t := 115) (by kernel_rfl) Tryd.underlying115 Tryd.underlying109 (by kernel_rfl) (by kernel_rfl) h2

set_option maxRecDepth 100000 in
/-- A world that fits: the settled one, the tables laid. -/
theorem laid_fits (os : Os) (args : Array Value) : laidMetH Tryd.prog laidL ((World.laidAll Tryd.prog os laidL).forCall (fun _ _ => 0) { blocks := #[], args := args }).memory := by
  rw [MakeChecks.laidMetH_plain _ _ _ laid_plain]
  exact laidMet_laidAll _ (by kernel_rfl) (by kernel_rfl)
end Go.Proofs.YtdcamcpffiilbaaDoor

/-
  PreRuns: whatever text is told as the document says, or refused where it says; for every text. The library's tables are laid as the program's text lays them.
-/
namespace Go.Proofs.YtdcamcpffiilbaaDoor
open Go.ChangeShapes Go.WideShapes Go.ChangeAt Go.RowKit
open Go.ChangeMaps (open_string)
set_option linter.unusedSimpArgs false
set_option linter.unusedVariables false

set_option maxHeartbeats 4000000 in
set_option maxRecDepth 100000 in
theorem preRuns_any (s : ByteArray) (W : World) (m : Int) (hS : Std W m) :
    Calls Tryd.prog 3 #[.string s] W fun e w' => e = .returned (.bool true) ∧ Ext W w' := by
  have HS := hide hS
  clear hS
  go_enter Tryd.func3, Tryd.ntmps3
  go_wp2_with fail
  refine (wakes11_any W m (unhide HS)).mono ?_
  rintro e w1 ⟨rfl, hx1⟩
  have X1 := hide hx1
  clear hx1
  obtain ⟨R, hR⟩ : ∃ R, runP s.data.toList = R := ⟨_, rfl⟩
  have hR2 : runR keptP s.data.toList = R := by rw [← run_doc]; exact hR
  have HRU := run2_any s w1 m ((unhide HS).ext (unhide X1))
  rw [hR] at HRU
  have HRUN := hide HRU
  have HR2 := hide hR2
  clear HRU hR hR2
  go_wp2_with fail
  refine (unhide HRUN).mono ?_
  rintro e w3 ⟨ao3, ca3, rfl, hO3, hx3⟩
  have HT3 := hide (hO3.tr.ext ((Ext.refl w3).alloc (.cells #[.int .i64 R.2.1, .int .i64 R.2.2] 26)))
  have HB3 := hide (Blk.new w3 #[.int .i64 R.2.1, .int .i64 R.2.2] 26)
  have X4 := hide (((unhide X1).trans hx3).alloc (.cells #[.int .i64 R.2.1, .int .i64 R.2.2] 26))
  obtain ⟨w4, hw4⟩ : ∃ w4, w4 = w3.alloc (.cells #[.int .i64 R.2.1, .int .i64 R.2.2] 26) := ⟨_, rfl⟩
  obtain ⟨b3, hb3⟩ : ∃ b3, b3 = w3.heap.size := ⟨_, rfl⟩
  rw [← hw4] at HT3 HB3 X4
  rw [← hb3] at HB3
  have HLX := refRun_any s w4
  rw [unhide HR2] at HLX
  have HLXX := hide HLX
  clear hO3 hx3 HLX HRUN
  go_wp2_with fail
  rw [← hw4, ← hb3]
  clear hw4 hb3
  refine (unhide HLXX).mono ?_
  rintro e w5 ⟨ao5, ca5, rfl, hO5, hx5⟩
  have HT6 := hide (((unhide HT3).ext hx5).ext ((Ext.refl w5).alloc (.cells #[.int .i64 R.2.1, .int .i64 R.2.2] 26)))
  have HB6 := hide (((unhide HB3).ext hx5).alloc (.cells #[.int .i64 R.2.1, .int .i64 R.2.2] 26))
  have HU6 := hide (hO5.ext ((Ext.refl w5).alloc (.cells #[.int .i64 R.2.1, .int .i64 R.2.2] 26)))
  have HV6 := hide (Blk.new w5 #[.int .i64 R.2.1, .int .i64 R.2.2] 26)
  have X6 := hide (((unhide X4).trans hx5).alloc (.cells #[.int .i64 R.2.1, .int .i64 R.2.2] 26))
  have c0 := (unhide HB6).cell (i := 0) (v := .int .i64 R.2.1) rfl
  have c1 := (unhide HB6).cell (i := 1) (v := .int .i64 R.2.2) rfl
  have d0 := (unhide HV6).cell (i := 0) (v := .int .i64 R.2.1) rfl
  have d1 := (unhide HV6).cell (i := 1) (v := .int .i64 R.2.2) rfl
  have HSM := hide (same11 R.1 ao3 ao5 ca3 ca5 _ (unhide HT6) (unhide HU6))
  clear hO5 hx5 HLXX
  go_wp2_with fail
  refine (unhide HSM).mono ?_
  rintro e w7 ⟨rfl, hx7⟩
  have X7 := hide ((unhide X6).trans hx7)
  clear hx7
  go_wp2
  go_ret
  exact ⟨rfl, unhide X7⟩

set_option maxRecDepth 100000 in
theorem preRuns_owes (H : Type) (enc : TypeId × Value → H) (W : World) (base : Nat) (args : Array Value) (ds : List (DataW H)) (p : List MemPlace) : OwesP H enc Tryd.prog 3 Tryd.f3 Rows.preRunsSpec laidL W base args ds p := by
  intro hval hA hsz hL hsh
  have hT := tab_of_laid hL
  clear hL
  rw [Tryd.params3] at hA hval hsz
  obtain ⟨v0, vs0, d0, ds0, p0, q0, hargs, rfl, rfl, h0, r0⟩ := trodAll_cons hA
  obtain ⟨rfl, rfl, rfl⟩ := trodAll_nil r0
  obtain rfl : args = #[v0] := by cases args; simp_all
  obtain ⟨s, rfl, rfl, rfl, ws⟩ := open_string Tryd.underlying9 (hval 0 9 v0 rfl rfl) h0
  obtain ⟨m, hm⟩ := Tryd.laysM143.s1_3 W hsh
  exact ⟨⟨rfl, rfl, rfl⟩, preRuns_any s W m ⟨hm, hT⟩⟩

set_option maxRecDepth 100000 in
theorem preRuns_lifted (os : Os) (started : os.Started) (H : Type) (enc : TypeId × Value → H) :
    ReturnsInHanded {} Tryd.checked os 3 .any (fun w args => (Rows.preRunsSpec.pre enc Tryd.prog Tryd.f3 Rows.preRunsRow.domain false w args ∧ laidMetH Tryd.prog Rows.preRunsRow.laid w) ∧ sizedMet enc Tryd.prog Tryd.f3 (OpenSpec.ofChange Rows.preRunsSpec) false w args) (Rows.preRunsSpec.post enc Tryd.prog Tryd.f3 false true false false) :=
  lift_law_both (C := Tryd.checked) (laid := laidL) own laidOut started (by kernel_rfl) Tryd.func3 (T := 4) rfl Tryd.underlying4 rfl (by kernel_rfl)
    (ChangeSpec.witness_shaped (enc := enc) (C := Tryd.checked) (os := os) (X := fun w _ => laidMetH Tryd.prog laidL w) false (World.laidAll Tryd.prog os laidL) #[.string ⟨#[]⟩] 8 (World.laidAll_os _ _ _)
      (World.shaped_of_ZipB (by kernel_rfl) (by kernel_rfl)) (by kernel_rfl) (by kernel_rfl) (by kernel_rfl) (laid_fits os _)) (preRuns_owes H enc)

theorem preRuns_row : Rows.PreRunsSaid :=
  OpenClaim.holds_of_wide 3 Tryd.f3 rfl rfl rfl rfl rfl rfl rfl ⟨rfl, rfl, rfl, rfl, rfl⟩ rfl rfl rfl rfl rfl (by kernel_rfl) Tryd.func3 (by kernel_rfl)
    (of_decide_eq_true (by kernel_rfl)) (by unfold Func.isWrapper; rw [if_neg (of_decide_eq_false (by kernel_rfl))]; exact ⟨rfl, rfl⟩)
    (fun os started H enc _ => preRuns_lifted os started H enc)

theorem preRuns_plain (f : FuncId) (fn : Func) (hf : Tryd.pinned.checked.prog.funcNamed "paintbox/paintboxlaw11.PreRuns" = some f) (hfn : Tryd.pinned.checked.prog.funcs[f]? = some fn) :
    false = Tryd.pinned.checked.prog.looks [] ∧ ∀ (j : Nat) t, fn.params[j]? = some t → Tryd.pinned.checked.prog.wantsStandIn t = false := by
  obtain rfl : f = 3 := Option.some.inj ((show Tryd.prog.funcNamed "paintbox/paintboxlaw11.PreRuns" = some 3 by kernel_rfl).symm.trans hf) |>.symm
  obtain rfl : fn = Tryd.f3 := (Option.some.inj (Tryd.func3.symm.trans hfn)).symm
  refine ⟨by kernel_rfl, fun j t ht => ?_⟩
  rw [Tryd.params3] at ht
  have hm : t ∈ [9] := by simpa using Array.mem_of_getElem? ht
  have hall : ([9].all fun u => !Tryd.prog.wantsStandIn u) = true := by kernel_rfl
  exact (show Tryd.prog.wantsStandIn t = false by simpa using List.all_eq_true.1 hall t hm)

theorem preRuns_holds : Rows.PreRunsCardSaid :=
  Claim7.holds_tied_plain_at .later [] _ _ _ _ preRuns_row (fun _ h => by cases h) (by kernel_rfl) (fun _ h => by cases h) preRuns_row_tie rfl ⟨rfl, rfl⟩ (by kernel_rfl) rfl preRuns_plain (by kernel_rfl)
#print axioms preRuns_holds
end Go.Proofs.YtdcamcpffiilbaaDoor
