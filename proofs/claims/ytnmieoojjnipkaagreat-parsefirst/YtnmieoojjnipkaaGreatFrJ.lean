/- Several texts in one. -/
import Derived.Test.YtnmieoojjnipkaaGreatRows
import Derived.Test.YtnmieoojjnipkaaGreatLem
import Derived.ProofKit
import Derived.OpenShut
import Derived.SizedLaws
import Derived.JoinedCond
import Derived.Deep.CondSized
import Derived.HandedShaped
import Derived.Test.YtnmieoojjnipkaaGreatTKcJ
import Derived.Test.YtnmieoojjnipkaaGreatTLaJ
import Derived.ChangeMaps5
import Derived.BigQuiet
/-
  The step from a walk to a given statement, for every law of this seat: what comes in is opened, and behind the call it reads as it did, since nothing that was there has turned.
-/
namespace Go.Proofs.YtnmieoojjnipkaaGreat
open Go.ChangeShapes Go.WideShapes Go.ChangeAt Go.RowKit

theorem own : ownKnob Tryz.prog.godebug = none := by kernel_rfl
theorem laidOut : laidOutB Tryz.prog = true := by kernel_rfl

section
variable {H : Type} {enc : TypeId × Value → H}

theorem trod_lt_all {P : Program} {W : World} {t : TypeId} {v : Value} {d : DataW H} {p : List MemPlace} (h : DataW.Trod enc P W 0 (fun _ => true) true t v d p) : ∀ x ∈ p, x.block < W.heap.size := by
  obtain ⟨m, hm⟩ := h
  exact DataW.trod_lt m _ _ _ hm

/-- Behind a call that turns nothing that was there all arguments read as they did. -/
theorem same_all {P : Program} (hl : laidOutB P = true) {W W' : World} (hb : Below W.heap.size W W') : ∀ (ts : List TypeId) (vs : List Value) (ds : List (DataW H)) (ps : List MemPlace),
    (ts.all fun t => P.readableRec t && decide (t < P.types.size)) = true → DataW.TrodAll enc P W 0 (fun _ => true) true ts vs ds ps → DataW.TrodAll enc P W' 0 (fun b => decide (b < W.heap.size)) true ts vs ds ps := by
  intro ts
  induction ts with
  | nil =>
    intro vs ds ps _ h
    obtain ⟨rfl, rfl, rfl⟩ := trodAll_nil h
    exact trodAll_mk0
  | cons t ts ih =>
    intro vs ds ps ht h
    obtain ⟨v, vs', d, ds', p, q, rfl, rfl, rfl, h1, h2⟩ := trodAll_cons h
    simp only [List.all_cons, Bool.and_eq_true, decide_eq_true_eq] at ht
    exact trodAll_cons_mk (Below.trod hl ht.1.1 ht.1.2 h1 hb (trod_lt_all h1)) (ih vs' ds' q ht.2 h2)

/-- 'true, and the input reads as it did', out of a walk that turns nothing that was there. -/
theorem post_true {P : Program} (hl : laidOutB P = true) {s : ChangeSpec} {fn : Func} {T : TypeId} {W W' : World} {args : Array Value} {ds gs : List (DataW H)} {before : List MemPlace} (hres : fn.resultTypes = #[T]) (hT : P.underlying T = some .bool) (hvars : s.vars = [])
    (hread : (fn.params.toList.all fun t => P.readableRec t && decide (t < P.types.size)) = true)
    (hW : DataW.Whole enc P fn.params.toList s.vars false W args.toList ds gs before) (hfn : (s.fn H ds).results = [.lit (.bool true)] ∧ (s.fn H ds).args = ds ∧ (s.fn H ds).vars = [])
    (hb : Below W.heap.size W W') : s.post enc P fn false true false false W args (.bool true) W' := by
  have hW0 := hW
  obtain ⟨p, q, hA, hV, rfl, _, _⟩ := hW
  rw [hvars] at hV
  obtain ⟨rfl, rfl⟩ := trodVars_none hV
  obtain ⟨h1, h2, h3⟩ := hfn
  refine ⟨ds, [], _, [], p, [], hW0, ?_, ?_, ?_, hb.frame _, fun h => by cases h⟩
  · rw [List.append_nil, h1, hres]
    exact trodAll_mk1 (shut_bool hT _)
  · rw [List.append_nil, h2]
    exact same_all hl hb _ _ _ _ hread hA
  · rw [List.append_nil, h3, hvars]
    exact rfl

/-- A slice of integers that came in: its numbers, that each fits its kind, how many bytes they take. -/
theorem open_row {P : Program} {W : World} {base : Nat} {t e : TypeId} {k : IntKind} {v : Value} {d : DataW H} {p : List MemPlace} {ts : List TypeId} {ds : List (DataW H)} {j : Nat} (ht : P.underlying t = some (.slice e)) (he : P.underlying e = some (.int k)) (hc : P.cellsOf e = 1)
    (hv : Value.okWide P W .any base t v) (h : DataW.Trod enc P W 0 (fun _ => true) true t v d p) (hsz : (DataW.weightsEach P ts ds).all (· ≤ reachBytes) = true) (hj : ts[j]? = some t) (hd : ds[j]? = some d) :
    ∃ xs : List Int, Row k W v xs ∧ (∀ x ∈ xs, (Lit.int k x).wf = true) ∧ xs.length * P.bytesOf e ≤ 140737488351232 := by
  obtain ⟨a, len, cap, rfl⟩ := okWide_slice ht hv
  obtain ⟨fuel, hf⟩ := h
  rcases open_ints ht he hc hf with ⟨hcs, _⟩ | ⟨x, l, c, zs, hcs, _, hl, hm, hz, hx, hcell, hwz⟩
  · simp [Value.cells] at hcs
    obtain ⟨rfl, rfl, rfl⟩ := hcs
    exact ⟨[], Row.nil _ _, by simp, by simp⟩
  · simp [Value.cells] at hcs
    obtain ⟨rfl, rfl, rfl⟩ := hcs
    simp only [if_true] at hz
    have hlen : (zs.take len).length = len := by simp; omega
    refine ⟨zs.take len, ?_, fun n hn => hwz n (List.mem_of_mem_take hn), ?_⟩
    · by_cases h0 : len = 0
      · subst h0
        exact .inl ⟨by simp, some x, cap, rfl, (fun h => by cases h), hm⟩
      · obtain ⟨b, off, spot⟩ := x
        have hc0 := hcell 0 (by omega)
        have hspot : spot = none := by simpa [Addr.add] using World.cell?_spot hc0
        subst hspot
        refine .inr ⟨?_, b, off, cap, by rw [hlen], by rw [hlen]; exact hl, hm, fun i hi => ?_⟩
        · intro h
          rw [h] at hlen
          exact h0 (by simpa using hlen.symm)
        · rw [hlen] at hi
          have hci := hcell i (by omega)
          rw [Addr.add_lit] at hci
          rw [hci]
          have e2 : (zs.take len).getD i 0 = zs.getD i 0 := by simp [List.getD, hi]
          rw [e2]
    · have hw := sized_slice hsz hj (by rw [hd, (Prod.mk.inj hx).1]) ht
      simp only [lits, List.length_map, reachBytes] at hw
      rw [hlen] at hw ⊢
      rw [Nat.add_mul] at hw
      omega

/-- What a law's proof owes: whatever it is handed, the call returns true and turns nothing that was there. -/
def Owes (H : Type) (enc : TypeId × Value → H) (P : Program) (f : FuncId) (fn : Func) (s : ChangeSpec) (W : World) (base : Nat) (args : Array Value) (ds : List (DataW H)) (p : List MemPlace) : Prop :=
  (∀ (j : Nat) t v, fn.params[j]? = some t → args[j]? = some v → Value.okWide P W .any base t v) →
  DataW.TrodAll enc P W 0 (fun _ => true) true fn.params.toList args.toList ds p →
  (DataW.weightsEach P fn.params.toList ds).all (· ≤ reachBytes) = true →
  ((s.fn H ds).results = [.lit (.bool true)] ∧ (s.fn H ds).args = ds ∧ (s.fn H ds).vars = []) ∧
  Calls P f args W fun e W' => e = .returned (.bool true) ∧ Ext W W'

theorem lift_law {C : Checked} {os : Os} {f : FuncId} {fn : Func} {s : ChangeSpec} {T : TypeId} (hown : ownKnob C.prog.godebug = none) (hlaid : laidOutB C.prog = true) (started : os.Started) (noInit : C.prog.inits.idxOf? f = none) (hfn : C.prog.funcs[f]? = some fn)
    (hres : fn.resultTypes = #[T]) (hT : C.prog.underlying T = some .bool) (hvars : s.vars = [])
    (hread : (fn.params.toList.all fun t => C.prog.readableRec t && decide (t < C.prog.types.size)) = true)
    (witness : ∃ (w : World) (tape : Tape) (i : Input), w.os = os ∧ (w.forCall tape i).Shaped C.prog ∧ i.vars = [] ∧ Input.okWide C.prog (w.forCall tape i) .any w.heap.size f i ∧
      s.pre6 enc C.prog fn [] false (w.forCall tape i).memory i.args ∧ ({} : Assume).holds C.prog (lone (Frame.enter C.prog f i.args .normal) [] (w.forCall tape i)))
    (owes : ∀ W base args ds p, Owes H enc C.prog f fn s W base args ds p) :
    ReturnsInHanded {} C os f .any (s.pre6 enc C.prog fn [] false) (s.post enc C.prog fn false true false false) := by
  refine returnsInHanded_of_change_sized (C := C) hown started noInit hfn witness ?_
  intro W base args ds gs before hval hW _ hsz _
  have hW0 := hW
  obtain ⟨p, q, hA, hV, rfl, _, _⟩ := hW
  rw [hvars] at hV
  obtain ⟨rfl, rfl⟩ := trodVars_none hV
  have e : s.plain.varTypes C.prog = [] := by simp [ChangeSpec.plain, DataSpec.varTypes, hvars]
  rw [e, List.append_nil, List.append_nil] at hsz
  obtain ⟨hf, hc⟩ := owes W base args ds p hval hA hsz
  refine hc.mono fun e W' ⟨he, hb⟩ => ⟨_, he, ?_⟩
  exact post_true hlaid (T := T) hres hT hvars hread hW0 hf hb
end
end Go.Proofs.YtnmieoojjnipkaaGreat

/-
  The step from a walk to a given statement, where the world's shape is wanted: a variable of the library's own holds a number.
-/
namespace Go.Proofs.YtnmieoojjnipkaaGreat
open Go.ChangeShapes Go.WideShapes Go.ChangeAt Go.RowKit
section
variable {H : Type} {enc : TypeId × Value → H}
/-- What a law's proof owes: whatever it is handed, the call returns true and turns nothing that was there; the world is shaped. -/
def OwesH (H : Type) (enc : TypeId × Value → H) (P : Program) (f : FuncId) (fn : Func) (s : ChangeSpec) (W : World) (base : Nat) (args : Array Value) (ds : List (DataW H)) (p : List MemPlace) : Prop :=
  (∀ (j : Nat) t v, fn.params[j]? = some t → args[j]? = some v → Value.okWide P W .any base t v) →
  DataW.TrodAll enc P W 0 (fun _ => true) true fn.params.toList args.toList ds p →
  (DataW.weightsEach P fn.params.toList ds).all (· ≤ reachBytes) = true →
  W.ShapedOpen P →
  ((s.fn H ds).results = [.lit (.bool true)] ∧ (s.fn H ds).args = ds ∧ (s.fn H ds).vars = []) ∧
  Calls P f args W fun e W' => e = .returned (.bool true) ∧ Ext W W'

theorem lift_law_shaped {C : Checked} {os : Os} {f : FuncId} {fn : Func} {s : ChangeSpec} {T : TypeId} (hown : ownKnob C.prog.godebug = none) (hlaid : laidOutB C.prog = true) (started : os.Started) (noInit : C.prog.inits.idxOf? f = none) (hfn : C.prog.funcs[f]? = some fn)
    (hres : fn.resultTypes = #[T]) (hT : C.prog.underlying T = some .bool) (hvars : s.vars = [])
    (hread : (fn.params.toList.all fun t => C.prog.readableRec t && decide (t < C.prog.types.size)) = true)
    (witness : ∃ (w : World) (tape : Tape) (i : Input), w.os = os ∧ (w.forCall tape i).Shaped C.prog ∧ i.vars = [] ∧ Input.okWide C.prog (w.forCall tape i) .any w.heap.size f i ∧
      s.pre6 enc C.prog fn [] false (w.forCall tape i).memory i.args ∧ ({} : Assume).holds C.prog (lone (Frame.enter C.prog f i.args .normal) [] (w.forCall tape i)))
    (owes : ∀ W base args ds p, OwesH H enc C.prog f fn s W base args ds p) :
    ReturnsInHanded {} C os f .any (s.pre6 enc C.prog fn [] false) (s.post enc C.prog fn false true false false) := by
  refine returnsInHanded_of_change_shaped (C := C) hown started noInit hfn witness ?_
  intro W base args ds gs before hval hW _ hsz hsh _
  have hW0 := hW
  obtain ⟨p, q, hA, hV, rfl, _, _⟩ := hW
  rw [hvars] at hV
  obtain ⟨rfl, rfl⟩ := trodVars_none hV
  have e : s.plain.varTypes C.prog = [] := by simp [ChangeSpec.plain, DataSpec.varTypes, hvars]
  rw [e, List.append_nil, List.append_nil] at hsz
  obtain ⟨hf, hc⟩ := owes W base args ds p hval hA hsz hsh
  refine hc.mono fun e W' ⟨he, hb⟩ => ⟨_, he, ?_⟩
  exact post_true hlaid (T := T) hres hT hvars hread hW0 hf hb
end
end Go.Proofs.YtnmieoojjnipkaaGreat

/-
  ParseFirst: tokens are wrong at the first one that can't stand there, whatever stands behind it; for every text and number.
-/
namespace Go.Proofs.YtnmieoojjnipkaaGreat
open Go.ChangeShapes Go.WideShapes Go.ChangeAt Go.RowKit
open Go.ChangeMaps (open_string)
set_option linter.unusedSimpArgs false
set_option linter.unusedVariables false

theorem ext_cellP {w w1 : World} {b i : Nat} {x : Value} (h : Ext w w1) (hb : w.heap.size ≤ b) : Ext w (w1.setCell ⟨b, i, none⟩ x) := below_grown h (grownBy_set w1 b i x) h.size hb
theorem wrap_nn (x : Int) : 0 ≤ IntKind.u64.wrap x := by rw [IntKind.wrap_u64]; omega
/-- The two numbers of a Spot are written anew. -/
theorem spot_put {w0 w : World} {b : Nat} {x y : Value} (h : Blk w b #[x, y] 31) (hx : Ext w0 w) (hb : w0.heap.size ≤ b) (p q : Value) :
    Blk ((w.setCell ⟨b, 0, none⟩ p).setCell ⟨b, 1, none⟩ q) b #[p, q] 31 ∧ Ext w0 ((w.setCell ⟨b, 0, none⟩ p).setCell ⟨b, 1, none⟩ q) := ⟨(h.set 0 p).set 1 q, ext_cellP (ext_cellP hx hb) hb⟩
theorem Blk.pair {w : World} {b : Nat} {x y : Value} {t : TypeId} (h : Blk w b #[x, y] t) : w.cell? ⟨b, 0, none⟩ = some x ∧ w.cell? ⟨b, 1, none⟩ = some y ∧ w.frozen? ⟨b, 0, none⟩ = false ∧ w.frozen? ⟨b, 1, none⟩ = false := ⟨h.cell rfl, h.cell rfl, h.free 0, h.free 1⟩
set_option maxHeartbeats 4000000 in
set_option maxRecDepth 100000 in
theorem parseFirst_any (s0 : ByteArray) (A : Int) (W : World) (m : Int) (hm : W.cell? ⟨0, 0, none⟩ = some (.int .i64 m)) :
    Calls Tryz.prog 6 #[.string s0, .int .i64 A] W fun e w' => e = .returned (.bool true) ∧ Ext W w' := by
  have HM := hide hm
  clear hm
  have hmn : (min (s0.size : Int) 2000).toNat = min s0.size 2000 := by omega
  go_enter Tryz.func6, Tryz.ntmps6
  go_wp2_with fail
  refine (wakes12_any W m (unhide HM)).mono ?_
  rintro e w1 ⟨rfl, hx1⟩
  have HM1 := hide (keepM (unhide HM) hx1)
  have X1 := hide hx1
  clear HM hx1
  go_wp2_with fail
  refine (lex_any _ w1 m (unhide HM1)).mono ?_
  rintro e w3 ⟨ao, cap, rfl, hO, hx3⟩
  have hsz : (s0.extract 0 (min s0.size 2000)).data.toList.length ≤ 8192 := by
    have h9 := list_size (s0.extract 0 (min s0.size 2000))
    rw [ByteArray.size_extract] at h9
    omega
  have hpl := placed_all (s0.extract 0 (min s0.size 2000)).data.toList hsz
  have hsz2 : (s0.extract 0 (min s0.size 2000)).data.toList.length ≤ 2000 := by
    have h9 := list_size (s0.extract 0 (min s0.size 2000))
    rw [ByteArray.size_extract] at h9
    omega
  have hpl2 : (lexP (s0.extract 0 (min s0.size 2000)).data.toList).2.1 = 0 → _ := fun h => placed_row _ _ 0 (hpl h)
  clear hpl hsz
  generalize (s0.extract 0 (min s0.size 2000)).data.toList = S at *
  generalize lexP S = R at *
  obtain ⟨L, r1, r2⟩ := R
  simp only at hO hpl2 ⊢
  have HPL := hide hpl2
  clear hmn hpl2
  have HM3 := hide (keepM (unhide HM1) hx3)
  have X3 := hide ((unhide X1).trans hx3)
  have HT3 := hide (TO.tr hO)
  have hcap : L.length ≤ cap := by
    obtain ⟨_, _, e0, _, hc, _⟩ := TO.tr hO
    cases e0
    exact hc
  have B4 := hide (Blk.new w3 #[.int .i64 r1, .int .i64 r2] 31)
  have Y4 := hide ((Ext.refl w3).alloc (.cells #[.int .i64 r1, .int .i64 r2] 31))
  clear hO hx3 HM1 X1
  go_upto_region 4 with fail
  generalize w3.alloc (.cells #[.int .i64 r1, .int .i64 r2] 31) = w4 at *
  obtain ⟨b4, hb4⟩ : ∃ b4, b4 = w3.heap.size := ⟨_, rfl⟩
  rw [← hb4] at B4 ⊢
  have HB4 := hide (Nat.le_of_eq hb4.symm)
  clear hb4
  obtain ⟨c0, c1, c2, c3⟩ := (unhide B4).pair
  by_cases he : r1 = 0
  · subst he
    go_wp2_with fail
    refine (Parse_any L ao cap w4 m (keepM (unhide HM3) (unhide Y4)) ((unhide HT3).ext (unhide Y4))).mono ?_
    rintro e w5 ⟨hx5, ao5, n5, cap5, ns, base, rfl, hb5, hN5, hns⟩
    clear hN5 hns hb5
    obtain ⟨R, hR⟩ : ∃ R, parseP L = R := ⟨_, rfl⟩
    rw [hR]
    obtain ⟨x, p1, p2⟩ := R
    simp only
    have HR := hide hR
    clear hR c0 c1 c2 c3
    have B5 := hide ((unhide B4).ext hx5)
    have Y5 := hide ((unhide Y4).trans hx5)
    clear hx5
    obtain ⟨d0, d1, d2, d3⟩ := (unhide B5).pair
    have H6 := hide (spot_put (unhide B5) (unhide Y5) (unhide HB4) (.int .i64 p1) (.int .i64 p2))
    go_upto_region 7 with fail
    generalize (w5.setCell ⟨b4, 0, none⟩ (.int .i64 p1)).setCell ⟨b4, 1, none⟩ (.int .i64 p2) = w6 at H6 ⊢
    clear d0 d1 d2 d3 B5 Y5 B4 Y4
    obtain ⟨c0, c1, c2, c3⟩ := (unhide H6).1.pair
    by_cases hp : p1 = 220
    · subst hp
      obtain ⟨-, -, -, hl⟩ := parse_cond (unhide HR) (by decide)
      obtain ⟨hr1, hr2⟩ := unhide HPL (by first | rfl | trivial)
      obtain ⟨j, hj, hj1, hj2, hj3⟩ := first_ok (unhide HR)
      -- no earlier token stands there
      have hno : ∀ k (hk : k < L.length), k ≠ j → ¬ (L[k]).place = p2 := by
        intro k hk hkj hc
        by_cases hjl : j < L.length
        · have hp2 : p2 = L[j].place := by
            rw [(hj1 hjl).1]
            unfold tk
            simp [hjl]
          have h8 := (hr1 k hk).2.1
          have h9 := (hr1 j hjl).2.1
          rcases Nat.lt_or_gt_of_ne hkj with h7 | h7
          · have := hr2 k j h7 hjl
            omega
          · have := hr2 j k h7 hk
            omega
        · have he : j = L.length := by omega
          obtain ⟨h0, hp2⟩ := hj2 he
          have ht : tk L (L.length - 1) = L[L.length - 1] := by
            unfold tk
            simp [show L.length - 1 < L.length by omega]
          rw [ht] at hp2
          have hb := hr1 (L.length - 1) (by omega)
          have hw : endI L[L.length - 1] = L[L.length - 1].place + L[L.length - 1].text.length := by
            unfold endI
            simp [IntKind.wrap, IntKind.bits, IntKind.signed]
            omega
          rw [hw] at hp2
          by_cases hkl : k = L.length - 1
          · subst hkl
            omega
          · have := hr2 k (L.length - 1) (by omega) (by omega)
            omega
      have HNO := hide hno
      have HJ1 := hide hj1
      have HJ2 := hide hj2
      have HJ3 := hide hj3
      have HBD := hide hr1
      clear hno hj1 hj2 hj3 hr1 hr2 HR HPL
      go_wp2
      go_loopw [38] (fun i wr => ∃ k : Nat, k ≤ j ∧ i = .int .i64 (k : Int) ∧ Hid (Ext w3 wr) ∧ Hid (Blk wr b4 #[.int .i64 220, .int .i64 p2] 31)) (fun i _ => j - (intOf i).toNat)
      case atStart => exact ⟨0, by omega, rfl, (unhide H6).2, (unhide H6).1⟩
      case round =>
        obtain ⟨k, hk, rfl, hxr, hbr⟩ := hrel
        clear c0 c1 c2 c3
        by_cases hkl : k < L.length
        · have hkl2 : (k : Int) < (L.length : Int) := by omega
          obtain ⟨b, off, hao, hat⟩ := ((unhide HT3).ext (unhide hxr)).at k hkl
          obtain ⟨t0, t1, t2, t3, t4⟩ := hat
          obtain ⟨q, hq⟩ : ∃ q, q = L[k] := ⟨_, rfl⟩
          rw [← hq] at t0 t1 t2 t3 t4
          have HQ := hide hq
          clear hq
          subst hao
          have HX8 := hide ((unhide hxr).alloc (.cells #[.int .i64 q.kind, .string ⟨q.text.toArray⟩, .int .i32 q.num, .int .i64 q.place, .int .i64 q.line] 43))
          have HB8 := hide ((unhide hbr).ext ((Ext.refl wr).alloc (.cells #[.int .i64 q.kind, .string ⟨q.text.toArray⟩, .int .i32 q.num, .int .i64 q.place, .int .i64 q.line] 43)))
          have HQ8 := hide (Blk.new wr #[.int .i64 q.kind, .string ⟨q.text.toArray⟩, .int .i32 q.num, .int .i64 q.place, .int .i64 q.line] 43)
          go_upto_region 12 with fail
          generalize wr.alloc (.cells #[.int .i64 q.kind, .string ⟨q.text.toArray⟩, .int .i32 q.num, .int .i64 q.place, .int .i64 q.line] 43) = w8 at HX8 HB8 HQ8 ⊢
          generalize wr.heap.size = b8 at *
          clear t0 t1 t2 t3 t4 hxr hbr
          have q3 : w8.cell? ⟨b8, 3, none⟩ = some (.int .i64 q.place) := (unhide HQ8).cell rfl
          obtain ⟨c0, c1, -, -⟩ := (unhide HB8).pair
          by_cases hkj : k = j
          · have hjl : j < L.length := by omega
            have hp2 : q.place = p2 := by
              rw [((unhide HJ1) hjl).1, unhide HQ]
              unfold tk
              simp [hkj, hjl]
            have n0 : (q.place == p2) = true := by simp [hp2]
            have HKJ := hide hkj
            obtain ⟨y1, hy1⟩ := ((unhide HJ1) hjl).2
            have hl1 : (L.take (k + 1)).length = k + 1 := len_take (by omega)
            have HPA := Parse_any (L.take (k + 1)) (some ⟨b, off, none⟩) cap w8 m (keepM (unhide HM3) (unhide HX8)) (by rw [hl1]; exact ((unhide HT3).ext (unhide HX8)).takeW (k + 1) (by omega))
            rw [hl1, hkj, hy1, ← hkj] at HPA
            have HP := hide HPA
            have n1 : IntKind.i64.wrap ((k : Int) + 1) = (k : Int) + 1 := by simp [IntKind.wrap, IntKind.bits, IntKind.signed]; omega
            have n2 : (k : Int) + 1 ≤ (cap : Int) := by omega
            have n3 : (k : Int) ≤ (cap : Int) := by omega
            have n4 : ((k : Int) + 1).toNat = k + 1 := by omega
            clear HPA hl1 hy1 hkj hp2
            go_wp2_with fail
            refine (unhide HP).mono ?_
            rintro e w9 ⟨hx9, ao9, n9, cap9, ns9, base9, rfl, -, -, -⟩
            simp only
            obtain ⟨wa, ha⟩ : ∃ wa, wa = w9.alloc (.cells #[.slice ao9 n9 cap9] 24) := ⟨_, rfl⟩
            obtain ⟨wb, hb⟩ : ∃ wb, wb = wa.alloc (.cells #[.int .i64 220, .int .i64 p2] 31) := ⟨_, rfl⟩
            have za : wa.heap.size = w9.heap.size + 1 := by rw [ha]; simp
            have xa : Ext w9 wa := by rw [ha]; exact (Ext.refl _).alloc _
            have xb : Ext wa wb := by rw [hb]; exact (Ext.refl _).alloc _
            have HX10 := hide (((unhide HX8).trans hx9).trans (xa.trans xb))
            have HB10 := hide ((unhide HB8).ext (hx9.trans (xa.trans xb)))
            have HS10 : Hid (Blk wb (w9.heap.size + 1) #[.int .i64 220, .int .i64 p2] 31) := by
              show Blk _ _ _ _
              rw [hb, ← za]
              exact Blk.new _ _ _
            have HE10 : Hid (wb = (w9.alloc (.cells #[.slice ao9 n9 cap9] 24)).alloc (.cells #[.int .i64 220, .int .i64 p2] 31)) := by
              show _ = _
              rw [hb, ha]
            clear ha hb za xa xb hx9 HP c0 c1 q3
            go_upto_region 14 with fail
            rw [← unhide HE10]
            generalize w9.heap.size = b9 at *
            have hl2 : (L.take k).length = k := len_take (by omega)
            have HPA := Parse_any (L.take k) (some ⟨b, off, none⟩) cap wb m (keepM (unhide HM3) (unhide HX10)) (by rw [hl2]; exact ((unhide HT3).ext (unhide HX10)).takeW k (by omega))
            rw [hl2] at HPA
            have hj3 := unhide HJ3
            rw [← unhide HKJ] at hj3
            have HP := hide HPA
            clear HPA hl2 HJ3
            obtain ⟨R2, hR2⟩ : ∃ R2, parseP (L.take k) = R2 := ⟨_, rfl⟩
            rw [hR2] at HP hj3
            clear hR2
            obtain ⟨y2, z1, z2⟩ := R2
            go_wp2_with fail
            refine (unhide HP).mono ?_
            rintro e w11 ⟨hx11, ao11, n11, cap11, ns11, base11, rfl, -, -, -⟩
            simp only
            obtain ⟨wa, ha⟩ : ∃ wa, wa = w11.alloc (.cells #[.slice ao11 n11 cap11] 24) := ⟨_, rfl⟩
            obtain ⟨wc, hc⟩ : ∃ wc, wc = wa.alloc (.cells #[.int .i64 z1, .int .i64 z2] 31) := ⟨_, rfl⟩
            have za : wa.heap.size = w11.heap.size + 1 := by rw [ha]; simp
            have xa : Ext w11 wa := by rw [ha]; exact (Ext.refl _).alloc _
            have xb : Ext wa wc := by rw [hc]; exact (Ext.refl _).alloc _
            have HX12 := hide (((unhide HX10).trans hx11).trans (xa.trans xb))
            have HB12 := hide ((unhide HB10).ext (hx11.trans (xa.trans xb)))
            have HS12 := hide ((unhide HS10).ext (hx11.trans (xa.trans xb)))
            have HU12 : Hid (Blk wc (w11.heap.size + 1) #[.int .i64 z1, .int .i64 z2] 31) := by
              show Blk _ _ _ _
              rw [hc, ← za]
              exact Blk.new _ _ _
            have HE12 : Hid (wc = (w11.alloc (.cells #[.slice ao11 n11 cap11] 24)).alloc (.cells #[.int .i64 z1, .int .i64 z2] 31)) := by
              show _ = _
              rw [hc, ha]
            clear ha hc za xa xb hx11 HP HX10 HB10 HS10 HE10
            go_upto_region 15 with fail
            rw [← unhide HE12]
            generalize w11.heap.size = b11 at *
            clear HE12
            obtain ⟨c0, c1, -, -⟩ := (unhide HB12).pair
            obtain ⟨s0', s1', -, -⟩ := (unhide HS12).pair
            obtain ⟨u0, u1, -, -⟩ := (unhide HU12).pair
            have HFIN := hide ((unhide X3).trans (unhide HX12))
            by_cases hk0 : k = 0
            · have m0 : ¬ (0 : Int) < (k : Int) := by omega
              have hz : (z1 = 0 ∧ z2 = 0) ∨ z1 = 3 := by
                rcases hj3 with ⟨y, h⟩ | ⟨h, _⟩ | ⟨y, qq, h⟩
                · exact .inl ⟨(Prod.mk.inj (Prod.mk.inj h).2).1, (Prod.mk.inj (Prod.mk.inj h).2).2⟩
                · omega
                · exact .inr (Prod.mk.inj (Prod.mk.inj h).2).1
              clear hj3 hk0
              rcases hz with ⟨rfl, rfl⟩ | rfl
              · go_wp2
                go_ret
                exact ⟨by simp, unhide HFIN⟩
              · go_wp2
                go_ret
                exact ⟨by simp, unhide HFIN⟩
            · obtain ⟨i, hi⟩ : ∃ i, k = i + 1 := ⟨k - 1, by omega⟩
              have m0 : (0 : Int) < (k : Int) := by omega
              have m1 : (k : Int) - 1 = (i : Int) := by omega
              have m2 : IntKind.i64.wrap ((k : Int) - 1) = (i : Int) := by rw [m1]; simp [IntKind.wrap, IntKind.bits, IntKind.signed]; omega
              have m3 : (i : Int) < (L.length : Int) := by omega
              obtain ⟨b', off', e', hat⟩ := ((unhide HT3).ext (unhide HX12)).at i (by omega)
              cases e'
              have t1 := hat.text
              have t3 := hat.place
              clear hat
              have hv : endI (tk L (k - 1)) = IntKind.i64.wrap ((L[i]'(by omega)).place + (L[i]'(by omega)).text.length) := by
                have ht : tk L (k - 1) = L[i]'(by omega) := by
                  rw [show k - 1 = i by omega]
                  unfold tk
                  simp [show i < L.length by omega]
                rw [ht]
                rfl
              obtain ⟨q', hq'⟩ : ∃ q', q' = L[i]'(by omega) := ⟨_, rfl⟩
              rw [← hq'] at hv t1 t3
              have m4 : (⟨q'.text.toArray⟩ : ByteArray).size = q'.text.length := by simp [ByteArray.size]
              obtain ⟨v, hv2⟩ : ∃ v, v = IntKind.i64.wrap (q'.place + (q'.text.length : Int)) := ⟨_, rfl⟩
              have m5 : IntKind.i64.wrap (q'.place + (q'.text.length : Int)) = v := hv2.symm
              have hz : (z1 = 0 ∧ z2 = 0) ∨ (z1 = 220 ∧ z2 = v) ∨ z1 = 3 := by
                rcases hj3 with ⟨y, h⟩ | ⟨_, y, h⟩ | ⟨y, qq, h⟩
                · exact .inl ⟨(Prod.mk.inj (Prod.mk.inj h).2).1, (Prod.mk.inj (Prod.mk.inj h).2).2⟩
                · exact .inr (.inl ⟨(Prod.mk.inj (Prod.mk.inj h).2).1, by rw [(Prod.mk.inj (Prod.mk.inj h).2).2, hv, hv2]⟩)
                · exact .inr (.inr (Prod.mk.inj (Prod.mk.inj h).2).1)
              have HI := hide hi
              have HXD := hide (fun z => (Ext.refl wc).drewN z)
              clear hj3 hk0 hv hv2 hq' hi
              rcases hz with ⟨rfl, rfl⟩ | ⟨rfl, rfl⟩ | rfl
              · go_upto_region 17 with fail
                go_quiet (fail)
                go_wp2
                go_ret
                exact ⟨by simp, (unhide HFIN).trans (unhide HXD _)⟩
              · go_upto_region 17 with fail
                go_quiet (fail)
                go_wp2
                go_ret
                exact ⟨by simp, (unhide HFIN).trans (unhide HXD _)⟩
              · go_upto_region 17 with fail
                go_quiet (fail)
                go_wp2
                go_ret
                exact ⟨by simp, (unhide HFIN).trans (unhide HXD _)⟩
          · have n0 : (q.place == p2) = false := by
              rw [beq_eq_false_iff_ne, unhide HQ]
              exact unhide HNO k hkl hkj
            go_wp2
            go_roundw
            case rel => exact ⟨k + 1, by omega, by go_num, HX8, HB8⟩
            case measure => simp [intOf]; omega
        · have he : j = L.length := by omega
          obtain ⟨h0, hp2⟩ := unhide HJ2 he
          obtain rfl : k = L.length := by omega
          obtain ⟨i, hi⟩ : ∃ i, L.length = i + 1 := ⟨L.length - 1, by omega⟩
          obtain ⟨b, off, hao, hat⟩ := ((unhide HT3).ext (unhide hxr)).at i (by omega)
          subst hao
          have t1 := hat.text
          have t3 := hat.place
          clear hat
          have hv : p2 = IntKind.i64.wrap ((L[i]'(by omega)).place + (L[i]'(by omega)).text.length) := by
            have ht : tk L (L.length - 1) = L[i]'(by omega) := by
              rw [show L.length - 1 = i by omega]
              unfold tk
              simp [show i < L.length by omega]
            rw [hp2, ht]
            rfl
          obtain ⟨q', hq'⟩ : ∃ q', q' = L[i]'(by omega) := ⟨_, rfl⟩
          rw [← hq'] at hv t1 t3
          have m0 : (0 : Int) < (L.length : Int) := by omega
          have m1 : (L.length : Int) - 1 = (i : Int) := by omega
          have m2 : IntKind.i64.wrap ((L.length : Int) - 1) = (i : Int) := by rw [m1]; simp [IntKind.wrap, IntKind.bits, IntKind.signed]; omega
          have m3 : (i : Int) < (L.length : Int) := by omega
          have m4 : (⟨q'.text.toArray⟩ : ByteArray).size = q'.text.length := by simp [ByteArray.size]
          have m5 : IntKind.i64.wrap (q'.place + (q'.text.length : Int)) = p2 := hv.symm
          have HI := hide hi
          have HXD := hide (fun z => (Ext.refl wr).drewN z)
          have HFIN := hide ((unhide X3).trans (unhide hxr))
          obtain ⟨c0, c1, -, -⟩ := (unhide hbr).pair
          clear hv hq' hi he hp2 HJ1 HJ2 HJ3 HNO
          go_upto_region 20 with fail
          go_quiet (fail)
          go_wp2
          go_ret
          exact ⟨by simp, (unhide HFIN).trans (unhide HXD _)⟩
    · have hq : (p1 != 220) = true := by simpa using hp
      go_wp2
      go_ret
      exact ⟨rfl, (unhide X3).trans (unhide H6).2⟩
  · have hq : (r1 != 0) = true := by simpa using he
    go_wp2
    go_ret
    exact ⟨rfl, (unhide X3).trans (unhide Y4)⟩

set_option maxRecDepth 100000 in
theorem parseFirst_owes (H : Type) (enc : TypeId × Value → H) (W : World) (base : Nat) (args : Array Value) (ds : List (DataW H)) (p : List MemPlace) : OwesH H enc Tryz.prog 6 Tryz.f6 Rows.parseFirstSpec W base args ds p := by
  intro hval hA hsz hsh
  rw [Tryz.params6] at hA hval hsz
  obtain ⟨v0, vs0, d0, ds0, p0, q0, hargs, rfl, rfl, h0, r0⟩ := trodAll_cons hA
  obtain ⟨v1, vs1, d1, ds1, p1, q1, rfl, rfl, rfl, h1, r1⟩ := trodAll_cons r0
  obtain ⟨rfl, rfl, rfl⟩ := trodAll_nil r1
  obtain rfl : args = #[v0, v1] := by cases args; simp_all
  obtain ⟨s, rfl, rfl, rfl, ws⟩ := open_string Tryz.underlying9 (hval 0 9 v0 rfl rfl) h0
  obtain ⟨x, rfl, rfl, rfl, wx⟩ := open_int Tryz.underlying3 (hval 1 3 v1 rfl rfl) h1
  obtain ⟨m, hm⟩ := Tryz.laysM143.s1_3 W hsh
  exact ⟨⟨rfl, rfl, rfl⟩, parseFirst_any s x W m hm⟩

set_option maxRecDepth 100000 in
theorem parseFirst_lifted (os : Os) (started : os.Started) (H : Type) (enc : TypeId × Value → H) :
    ReturnsInHanded {} Tryz.checked os 6 .any (Rows.parseFirstSpec.pre6 enc Tryz.prog Tryz.f6 [] false) (Rows.parseFirstSpec.post enc Tryz.prog Tryz.f6 false true false false) :=
  lift_law_shaped (C := Tryz.checked) own laidOut started (by kernel_rfl) Tryz.func6 (T := 4) rfl Tryz.underlying4 rfl (by kernel_rfl)
    (ChangeSpec.witness6 (enc := enc) (C := Tryz.checked) false ⟨#[], #[.string ⟨#[]⟩, .int .i64 0], []⟩ 8 (by kernel_rfl) (by kernel_rfl) (by kernel_rfl) (by kernel_rfl)) (parseFirst_owes H enc)

theorem parseFirst_holds : Rows.ParseFirstSaid :=
  OpenClaim.holds_of_wide 6 Tryz.f6 rfl rfl rfl rfl rfl rfl rfl ⟨rfl, rfl, rfl, rfl, rfl⟩ rfl rfl rfl rfl rfl (by kernel_rfl) Tryz.func6 (by kernel_rfl)
    (of_decide_eq_true (by kernel_rfl)) (by unfold Func.isWrapper; rw [if_neg (of_decide_eq_false (by kernel_rfl))]; exact ⟨rfl, rfl⟩)
    (fun os started H enc _ => parseFirst_lifted os started H enc)
#print axioms parseFirst_holds
end Go.Proofs.YtnmieoojjnipkaaGreat
