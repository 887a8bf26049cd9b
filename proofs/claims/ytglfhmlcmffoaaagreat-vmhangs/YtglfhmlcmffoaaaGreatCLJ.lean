/- Several texts in one. -/
import Derived.Test.YtglfhmlcmffoaaaGreatSGJ
import Derived.Test.YtglfhmlcmffoaaaGreatCJeJ
import Derived.Test.YtglfhmlcmffoaaaGreatVMDJ
import Derived.Deep.RegionHeld3
import Derived.Test.YtglfhmlcmffoaaaGreatCHJ
import Derived.RangeFuncNested
import Derived.RangeFuncBound
import Derived.RangeFuncCalls
import Derived.RangeFuncLeaves
import Derived.RangeFuncBox
import Derived.Shelf.Abstract
import Derived.Shelf.RegionOpen
import Derived.WalkKit
import Derived.OwnWalkIn
import Derived.TacticsInMore
import Derived.LoopNIn
import Derived.LoopIn
import Derived.Stop.RegionWithIn
import Derived.Deep.Cut
import Derived.BigQuiet
import Derived.Test.YtglfhmlcmffoaaaGreatPGJ
/-
  Codes as bytes: the walks of headOf, codeOf, instrOf. What the dump lacks is left out.
-/
namespace Go.Proofs.YtglfhmlcmffoaaaGreat
open Go.RowKit
set_option linter.unusedVariables false
set_option linter.unusedSimpArgs false

/-- 'copy' into a block that is known whole, as one step of a region that draws. -/
theorem step_copyC {P : Program} {ops : Array Oper} {o : Oper} {a : Act} {w : World} {K : Act → World → Prop} {Q : Exit → Act → World → Prop} {E : Prop} (hgd : o.guard = none) (d s : Operand) (dT sT : TypeId)
    (ho : o.op = .call { callee := .builtin .copy, args := #[d, s], argTypes := #[dT, sT] }) (elem : TypeId) (hu : P.underlying dT = some (.slice elem)) (hsz : (P.info? elem).map (·.size) = some 1)
    (g off dLen dCap : Nat) (ad : Addr) (sLen sCap : Nat) (hd : a.eval d = .slice (some ⟨g, off, none⟩) dLen dCap) (hs : a.eval s = .slice (some ad) sLen sCap)
    (cur : Array Value) (t : TypeId) (hg : w.heap[g]? = some (.cells cur t (0, 0))) (cs : List Value) (hn : cs.length = Nat.min sLen dLen)
    (hsrc : ∀ j v, cs[j]? = some v → w.cell? (ad.add j) = some v) (hfit : off + cs.length ≤ cur.size) (h1 : ∀ v ∈ cs, v.oneCell' = true)
    (h : K (a.put o.dst (goInt cs.length)) (w.setRow g (cur.toList.take off ++ (cs ++ cur.toList.drop (off + cs.length))).toArray)) :
    if Region.wanted o (yielded ops a.tmps) = true then Oper.wp P o a w K Q else E := by
  have hw : Region.wanted o (yielded ops a.tmps) = true := by simp [Region.wanted, hgd]
  rw [if_pos hw]
  have hrun := run_copy_row (P := P) w dT sT o.type elem g off dLen dCap ad sLen sCap cur t cs hu hsz hg hn hsrc hfit h1
  unfold Oper.wp
  simp [execOp, ho, resolve, invoke, builtin, hd, hs, hrun, Result.andThen]
  exact h

end Go.Proofs.YtglfhmlcmffoaaaGreat

/-
  Codes as bytes: numbersOf, the function over which one ranges, and its walk. What the dump lacks is left out.
-/
namespace Go.Proofs.YtglfhmlcmffoaaaGreat
open Go.RowKit Go.Shelf
set_option linter.unusedVariables false
set_option linter.unusedSimpArgs false
attribute [local go_sem] Oper.semAt_some

def lo32 (x : Int) : Int := x % 4294967296
def hdL (C : Cod) (n : Nat) : List Int := [1128353872, C.stage, C.regs, C.attr, C.unif, C.vary, (n : Int)]
def inL (I : Nat → Int) : List Int := [I 0, I 1, I 2, I 3, I 4, I 5, I 6, I 7, I 8, I 9, I 10, I 11, I 12, I 13, I 14, I 15]
/-- The numbers of a code, its first k instructions. -/
def numK (C : Cod) (k : Nat) : List Int := (hdL C C.ins.length ++ (C.ins.take k).flatMap inL).map lo32
def numL (C : Cod) : List Int := numK C C.ins.length
theorem numK_len (C : Cod) (k : Nat) (hk : k ≤ C.ins.length) : (numK C k).length = 7 + 16 * k := by
  have h : ∀ L : List (Nat → Int), (L.flatMap inL).length = 16 * L.length := fun L => by
    induction L with
    | nil => rfl
    | cons x r ih => rw [List.flatMap_cons, List.length_append, ih]; simp [inL]; omega
  unfold numK
  rw [List.length_map, List.length_append, h, List.length_take]
  simp [hdL]
  omega
theorem numK_succ (C : Cod) (k : Nat) (hk : k < C.ins.length) : numK C (k + 1) = numK C k ++ (inL C.ins[k]).map lo32 := by
  unfold numK
  rw [List.take_succ_eq_append_getElem hk, List.flatMap_append, ← List.append_assoc, List.map_append]
  simp
theorem numK_all (C : Cod) (k : Nat) : numK C k <+: numL C := by
  unfold numL numK
  rw [List.take_length, List.map_append, List.map_append]
  refine List.prefix_append_right_inj _ |>.2 ?_
  conv => rhs; rw [← List.take_append_drop k C.ins, List.flatMap_append, List.map_append]
  exact List.prefix_append _ _

abbrev Nu : Type := { x : Int // 0 ≤ x ∧ x < 4294967296 }
def valN (l : List Nu) : List Int := l.map (·.1)
theorem valN_snoc (l : List Nu) (x : Nu) : valN (l ++ [x]) = valN l ++ [x.1] := by simp [valN]
/-- All that lay in w lies as it lay. -/
def Agr (w W : World) : Prop := ∀ i, i < w.heap.size → W.heap[i]? = w.heap[i]?
theorem Agr.size {w W : World} (h : Agr w W) : w.heap.size ≤ W.heap.size := by
  by_cases h0 : w.heap.size = 0
  · omega
  · have h1 := h (w.heap.size - 1) (by omega)
    rw [Array.getElem?_eq_getElem (show w.heap.size - 1 < w.heap.size by omega)] at h1
    have := (Array.getElem?_eq_some_iff.1 h1).1
    omega
theorem Agr.ext {w W W' : World} (h : Agr w W) (hx : Ext W W') : Agr w W' := fun i hi => (hx.block i (by have := h.size; omega)).trans (h i hi)
theorem IR.agr {w W : World} {v : Value} {L : List (Nat → Int)} (h : IR w v L) (ha : Agr w W) : IR W v L := by
  obtain ⟨ao, cap, e, h1, h2, h3, h4⟩ := h
  refine ⟨ao, cap, e, h1, h2, h3, fun i hi => ?_⟩
  obtain ⟨b, off, e2, c⟩ := h4 i hi
  refine ⟨b, off, e2, fun j u hu => ?_⟩
  have := c j u hu
  exact (World.cell?_of_block (ha b (World.block_lt_of_cell? w _ this))).trans this
/-- What a round must keep: the code's block, and all that lay at first. -/
def KeptN (w : World) (Bc : Nat) (W W' : World) : Prop := W'.heap[Bc]? = W.heap[Bc]? ∧ ∀ i, i < w.heap.size → W'.heap[i]? = W.heap[i]?

end Go.Proofs.YtglfhmlcmffoaaaGreat

/-
  Codes as bytes: the walk of Encode. What the dump lacks is left out.
-/
namespace Go.Proofs.YtglfhmlcmffoaaaGreat
open Go.RowKit Go.Shelf
set_option linter.unusedVariables false
set_option linter.unusedSimpArgs false
attribute [local go_sem] Oper.semAt_some

/-- The bytes of numbers. -/
def bytL (l : List Int) : List Int := l.flatMap (fun x => low x 4)
def bytP (C : Cod) : List Int := bytL (numL C)
theorem bytL_snoc (l : List Int) (x : Int) : bytL (l ++ [x]) = bytL l ++ low x 4 := by simp [bytL, List.flatMap_append]
theorem bytL_len (l : List Int) : (bytL l).length = 4 * l.length := by
  induction l with
  | nil => rfl
  | cons x r ih =>
    have e : bytL (x :: r) = low x 4 ++ bytL r := by simp [bytL]
    rw [e, List.length_append, ih, low_length]
    simp
    omega
theorem bytP_len (C : Cod) : (bytP C).length = 28 + 64 * C.ins.length := by
  rw [bytP, bytL_len, numL, numK_len C _ (Nat.le_refl _)]
  omega

/-- 'append(out, xs...)', as one operation within a fence. -/
theorem operIn_append_Own {F : Fence} {n : Nat} {P : Program} {w : World} {o : Oper} {a : Act} {K : Act → World → Prop} {Q : Exit → Act → World → Prop} (s x : Operand) (t : TypeId)
    (ho : o.op = .call { callee := .builtin .append, args := #[s, x], argTypes := #[t, t] })
    (base : Nat) (e : TypeId) (i : TypeInfo) (k : IntKind) (bytes : Nat) (ht : P.underlying t = some (.slice e)) (hi : P.info? e = some i) (hz : i.zero = some (.int k 0))
    (hsize : i.size = 1) (hby : i.bytes = bytes) (v : Value) (xs : List Int) (hs : a.eval s = v) (hown : Own k w base e v xs)
    (b off cap : Nat) (ys : List Int) (hx : a.eval x = .slice (some ⟨b, off, none⟩) ys.length cap) (hc : ∀ i, i < ys.length → w.cell? ⟨b, off + i, none⟩ = some (.int k (ys.getD i 0))) (h63 : xs.length + ys.length ≤ maxLen) (hbytes : (xs.length + ys.length) * bytes ≤ 140737488355328) (hbase : base ≤ w.heap.size)
    (h : ∀ v' w', Own k w' base e v' (xs ++ ys) → w.grownBy w' v.ownBlock → K (a.put o.dst v') w') : o.wpIn F n P a w K Q := by
  obtain ⟨v', w', hrun, r1, r2, r3⟩ := run_append_own (P := P) w base t o.type e i (.int k 0) 1 bytes ht hi hz hsize hby rfl (by decide) v xs.length _ hown ⟨b, off, none⟩ ys.length cap (ys.map (Value.int k)) (by simp) (Row.news hc) (ints_oneCell _ _) h63 hbytes hbase
  unfold Oper.wpIn
  refine ⟨?_, ?_⟩
  · simp [Oper.about, ho, resolve, Target.leads, Sem.run_pure]
  · rw [Oper.semAt_plain F _ _ (by rw [ho]; intro c hc'; cases hc')]
    simp [execOp, ho, resolve, invoke, builtin, hs, hx, hrun, Result.andThen]
    refine h v' w' ?_ r2
    unfold Own
    rw [List.length_append, List.map_append]
    exact r1

theorem extG {w w' : World} (hx : Ext w w') (r : Option Nat) : w.grownBy w' r := ⟨hx.os, hx.tape, hx.output, hx.size, fun i hi _ => hx.block i hi⟩
theorem own_cells {k : IntKind} {w : World} {base : Nat} {e : TypeId} {v : Value} {xs : List Int} (h : Own k w base e v xs) : ∀ (j : Nat) (o : Obj), v.ownBlock = some j → w.heap[j]? = some o → o.isCells = true := by
  intro j o hj ho
  rcases h.2 with ⟨rfl, _⟩ | ⟨g, cap, cur, rfl, _, hg, _⟩
  · cases hj
  · cases hj
    rw [hg] at ho
    cases ho
    rfl
theorem Own.kept9 {k : IntKind} {w w' : World} {base r : Nat} {e : TypeId} {v : Value} {xs : List Int} (h : Own k w base e v xs) (hg : w.grownBy w' (some r)) (hne : v.ownBlock ≠ some r) : Own k w' base e v xs := by
  refine World.ownsRow.kept h hg ?_
  cases hv : v.ownBlock with
  | none => exact .inl rfl
  | some b => exact .inr (fun e => hne (by rw [hv, e]))
theorem own_neBC {k : IntKind} {w : World} {base G : Nat} {e t : TypeId} {v : Value} {xs : List Int} {cs : Array Value} (h : Own k w base e v xs) (hB : Blk w G cs t) (hne : t ≠ e) : v.ownBlock ≠ some G := by
  intro hv
  rcases h.2 with ⟨rfl, _⟩ | ⟨g, cap, cur, rfl, _, hg, _⟩
  · cases hv
  · cases hv
    rw [show w.heap[g]? = some (.cells cs t (0, 0)) from hB] at hg
    cases hg
    exact hne rfl
theorem blk_keptC {W W' : World} {b : Nat} {cs : Array Value} {t : TypeId} {row : Option Nat} (h : Blk W b cs t) (hg : W.grownBy W' row) (hr : ∀ r, row = some r → ∃ o : Obj, W.heap[r]? = some o ∧ o.isCells = false) : Blk W' b cs t := by
  refine (hg.block b h.lt ?_).trans h
  intro e
  obtain ⟨o, ho, hc⟩ := hr b e.symm
  rw [show W.heap[b]? = some (.cells cs t (0, 0)) from h] at ho
  cases ho
  cases hc
theorem own_keptC {k : IntKind} {W W' : World} {base : Nat} {e : TypeId} {v : Value} {xs : List Int} {row : Option Nat} (h : Own k W base e v xs) (hg : W.grownBy W' row) (hr : ∀ r, row = some r → ∃ o : Obj, W.heap[r]? = some o ∧ o.isCells = false) : Own k W' base e v xs := by
  refine World.ownsRow.kept h hg ?_
  rcases h.2 with ⟨rfl, _⟩ | ⟨g, cap, cur, rfl, _, hgg, _⟩
  · exact .inl rfl
  · refine .inr (fun e => ?_)
    obtain ⟨o, ho, hc⟩ := hr g e.symm
    rw [hgg] at ho
    cases ho
    cases hc
theorem KeptN.trans {w : World} {Bc : Nat} {A B C : World} (h : KeptN w Bc A B) (k : KeptN w Bc B C) : KeptN w Bc A C := ⟨k.1.trans h.1, fun i hi => (k.2 i hi).trans (h.2 i hi)⟩
theorem keptN_put {w : World} {Bc : Nat} {W : World} {l : Nat} {o' : Obj} (hB : Bc ≠ l) (hw : w.heap.size ≤ l) : KeptN w Bc W (W.putObj l o') := ⟨World.putObj_heap_other hB, fun i hi => World.putObj_heap_other (by omega)⟩

/-- What stands between two rounds of Encode: the bytes so far. -/
def EncI (w : World) (G : Nat) (pre : List Nu) (W : World) : Prop := ∃ ao cap, Blk W G #[.slice ao (bytL (valN pre)).length cap] 154 ∧ Own .u8 W w.heap.size 5 (.slice ao (bytL (valN pre)).length cap) (bytL (valN pre)) ∧ Ext w W

end Go.Proofs.YtglfhmlcmffoaaaGreat

/-
  Codes: rows of instructions that are the call's own; whole values moved within a fence.
-/
namespace Go.Proofs.YtglfhmlcmffoaaaGreat
open Go.RowKit
set_option linter.unusedVariables false
set_option linter.unusedSimpArgs false

def icells (L : List (Nat → Int)) : List Value := L.flatMap (fun I => (insA I).toList)
theorem icells_len (L : List (Nat → Int)) : (icells L).length = L.length * 16 := by
  induction L with
  | nil => rfl
  | cons x r ih =>
    unfold icells at ih ⊢
    rw [List.flatMap_cons, List.length_append, ih]
    simp [insA]
    omega
theorem icells_append (A B : List (Nat → Int)) : icells (A ++ B) = icells A ++ icells B := by
  unfold icells
  rw [List.flatMap_append]
theorem icells_one (x : Nat → Int) : icells [x] = (insA x).toList := by simp [icells]
theorem icells_get : ∀ (L : List (Nat → Int)) (i : Nat) (h : i < L.length) (j : Nat), j < 16 → (icells L)[i * 16 + j]? = (insA L[i]).toList[j]?
  | x :: r, 0, _, j, hj => by
    have e : icells (x :: r) = (insA x).toList ++ icells r := rfl
    rw [e, List.getElem?_append_left (by simp [insA]; omega)]
    simp
  | x :: r, i + 1, h, j, hj => by
    have ih := icells_get r i (by simpa using h) j hj
    have e : icells (x :: r) = (insA x).toList ++ icells r := rfl
    have el : (insA x).toList.length = 16 := rfl
    rw [e, List.getElem?_append_right (by omega), el, show (i + 1) * 16 + j - 16 = i * 16 + j by omega]
    simpa using ih
theorem icells_ones (L : List (Nat → Int)) : ∀ u ∈ icells L, u.oneCell' = true := by
  intro u hu
  unfold icells at hu
  obtain ⟨I, _, h⟩ := List.mem_flatMap.1 hu
  simp [insA] at h
  rcases h with rfl | rfl | rfl | rfl | rfl | rfl | rfl | rfl | rfl | rfl | rfl | rfl | rfl | rfl | rfl | rfl <;> rfl

/-- The slice value v is the call's own and holds the instructions L. -/
def OI (w : World) (base : Nat) (v : Value) (L : List (Nat → Int)) : Prop := w.ownsRow base 59 16 v L.length (icells L)
section
variable {w w' : World} {base : Nat} {v : Value} {L : List (Nat → Int)}
theorem OI.ir (h : OI w base v L) : IR w v L := by
  have h0 := h
  rcases h.2 with ⟨e, h0⟩ | ⟨g, cap, cur, e, hb, hg, hnc, hcm, hcs, htake⟩
  · refine ⟨none, 0, by rw [h0]; exact e, fun _ => rfl, by omega, Nat.zero_le _, fun i hi => by omega⟩
  · refine ⟨_, cap, e, (fun h => by cases h), hnc, hcm, fun i hi => ⟨g, 0, rfl, ?_⟩⟩
    have hc := World.ownsRow.cells h0 (g := g) (by rw [e]; rfl)
    intro j u hu
    have hj : j < 16 := by have := (List.getElem?_eq_some_iff.1 hu).1; simpa [insA] using this
    have := hc (i * 16 + j) u (by rw [icells_get L i hi j hj]; exact hu)
    rw [Addr.add_lit] at this
    rw [Nat.add_assoc]
    exact this
theorem OI.nil (w : World) (base : Nat) : OI w base (.slice none 0 0) [] := World.ownsRow_nil _ _ _ _
theorem OI.ext (h : OI w base v L) (hx : Ext w w') : OI w' base v L := by
  refine World.ownsRow.kept h (extG hx none) ?_
  cases v.ownBlock <;> simp
theorem OI.kept9 {r : Nat} (h : OI w base v L) (hg : w.grownBy w' (some r)) (hne : v.ownBlock ≠ some r) : OI w' base v L := by
  refine World.ownsRow.kept h hg ?_
  cases hv : v.ownBlock with
  | none => exact .inl rfl
  | some b => exact .inr (fun e => hne (by rw [hv, e]))
theorem OI.lt (h : OI w base v L) : ∀ g, v.ownBlock = some g → base ≤ g ∧ g < w.heap.size := World.ownsRow.lt h
theorem OI.low {b2 : Nat} (h : OI w base v L) (hb : b2 ≤ base) : OI w b2 v L := by
  refine ⟨h.1, ?_⟩
  rcases h.2 with hn | ⟨g, cap, cur, e, h1, r⟩
  · exact .inl hn
  · exact .inr ⟨g, cap, cur, e, by omega, r⟩
theorem OI.shape (h : OI w base v L) : ∃ ao cap, v = .slice ao L.length cap ∧ (ao = none → cap = 0) ∧ L.length ≤ cap ∧ cap ≤ maxLen := by
  obtain ⟨ao, cap, e, h1, h2, h3, _⟩ := h.ir
  exact ⟨ao, cap, e, h1, h2, h3⟩
theorem OI.neB {G : Nat} {t : TypeId} {cs : Array Value} (h : OI w base v L) (hB : Blk w G cs t) (hne : t ≠ 59) : v.ownBlock ≠ some G := by
  intro hv
  rcases h.2 with ⟨rfl, _⟩ | ⟨g, cap, cur, rfl, _, hg, _⟩
  · cases hv
  · cases hv
    rw [show w.heap[g]? = some (.cells cs t (0, 0)) from hB] at hg
    cases hg
    exact hne rfl
theorem OI.cells (h : OI w base v L) : ∀ (j : Nat) (o : Obj), v.ownBlock = some j → w.heap[j]? = some o → o.isCells = true := by
  intro j o hj ho
  rcases h.2 with ⟨rfl, _⟩ | ⟨g, cap, cur, rfl, _, hg, _⟩
  · cases hj
  · cases hj
    rw [hg] at ho
    cases ho
    rfl
theorem OI.keptC {row : Option Nat} (h : OI w base v L) (hg : w.grownBy w' row) (hr : ∀ r, row = some r → ∃ o : Obj, w.heap[r]? = some o ∧ o.isCells = false) : OI w' base v L := by
  refine World.ownsRow.kept h hg ?_
  rcases h.2 with ⟨rfl, _⟩ | ⟨g, cap, cur, rfl, _, hgg, _⟩
  · exact .inl rfl
  · refine .inr (fun e => ?_)
    obtain ⟨o, ho, hc⟩ := hr g e.symm
    rw [hgg] at ho
    cases ho
    cases hc
end
theorem infoI : (Tryz.prog.info? 59).map (fun i => (i.zero, i.size, i.bytes)) = some (some (.agg (insA zI)), 16, 112) := by kernel_rfl
theorem info_all {P : Program} {t : TypeId} {z : Value} {n b : Nat} (h : (P.info? t).map (fun i => (i.zero, i.size, i.bytes)) = some (some z, n, b)) : ∃ i, P.info? t = some i ∧ i.zero = some z ∧ i.size = n ∧ i.bytes = b := by
  cases hi : P.info? t with
  | none => rw [hi] at h; cases h
  | some i =>
    rw [hi] at h
    simp only [Option.map_some, Option.some.injEq, Prod.mk.injEq] at h
    exact ⟨i, rfl, h.1, h.2.1, h.2.2⟩

section
variable {F : Fence} {n : Nat} {P : Program} {w : World} {ops : Array Oper} {rest : List Oper} {o : Oper} {a : Act} {Q : Exit → Act → World → Prop}
theorem wpListIn_load_rowC (hgd : o.guard = none) (ty : TypeId) (x : Operand) (ho : o.op = .load ty x)
    (g : Nat) (hx : a.eval x = .pointer (some ⟨g, 0, none⟩)) (t : TypeId) (cs : Array Value) (fr : Nat × Nat) (d : TypeDesc) (hg : w.heap[g]? = some (.cells cs t fr))
    (hu : P.underlying ty = some d) (hd : (match d with | .struct _ | .array _ _ => true | _ => false) = true) (hi : (P.info? ty).map (·.size) = some cs.size)
    (h : wpListIn F n P ops Q rest (a.put o.dst (.agg cs)) w) : wpListIn F n P ops Q (o :: rest) a w := by
  refine wpListIn_plain hgd fun K hK => ?_
  unfold Oper.wpIn
  refine ⟨by simp [Oper.about, ho], ?_⟩
  rw [Oper.semAt_plain F _ _ (by rw [ho]; intro c hc'; cases hc')]
  unfold execOp
  simp only [ho, hx, Instr.loadAt, Instr.sureAddr, Sem.run_bind, Sem.run_pure, Result.andThen_ok, run_loadVar_row w g t ty cs fr d hg hu hd hi]
  exact hK _ _ h
theorem wpListIn_storeLastC (hgd : o.guard = none) (ty : TypeId) (x y : Operand) (ho : o.op = .store ty x y) (old : Array Value) (g : Nat) (hgg : w.heap.size = g) (hx : a.eval x = .pointer (some ⟨g, 0, none⟩)) (cells : Array Value) (hy : a.eval y = .agg cells)
    (m : Nat) (hi : (P.info? ty).map (·.size) = some m) (hn : cells.size = m) (hold : old.size = m) (h1 : cells.all (·.oneCell') = true) (h : wpListIn F n P ops Q rest (a.put o.dst undef) (w.alloc (.cells cells ty))) :
    wpListIn F n P ops Q (o :: rest) a (w.alloc (.cells old ty)) := by
  subst hgg
  refine wpListIn_plain hgd fun K hK => ?_
  unfold Oper.wpIn
  refine ⟨by simp [Oper.about, ho], ?_⟩
  rw [Oper.semAt_plain F _ _ (by rw [ho]; intro c hc'; cases hc')]
  unfold execOp
  simp only [ho, hx, hy, Instr.storeAt, Instr.sureAddr, Sem.run_bind, Sem.run_pure, Result.andThen_ok, run_storeVar_row (w.alloc (.cells old ty)) w.heap.size ty ty old cells (heap_alloc_last w _) (by rw [hi, hn]) (by omega) h1]
  rw [World.setRow_alloc_new]
  exact hK _ _ h
theorem wpListIn_buildSliceC (hgd : o.guard = none) (t e : TypeId) (len : Nat) (parts : Array (Nat × Operand)) (ho : o.op = .buildSlice t len parts)
    (cells : Array Value) (ie : TypeInfo) (z : Value) (hu : P.underlying t = some (.slice e)) (hie : P.info? e = some ie) (hz : ie.zero = some z) (hsmall : ¬ len * ie.size > 2 ^ 24) (hpos : ¬ len * ie.size = 0)
    (hf : Instr.fill (fun i => some (i * ie.size, ie.size)) ((Array.range (len * ie.size)).map (z.cells[· % z.cells.size]!)) (parts.map fun (i, x) => (i, a.eval x)).toList = some cells)
    (h : wpListIn F n P ops Q rest (a.put o.dst (.slice (some ⟨w.heap.size, 0, none⟩) len len)) (w.alloc (.cells cells e))) : wpListIn F n P ops Q (o :: rest) a w := by
  refine wpListIn_plain hgd fun K hK => ?_
  unfold Oper.wpIn
  refine ⟨by simp [Oper.about, ho], ?_⟩
  rw [Oper.semAt_plain F _ _ (by rw [ho]; intro c hc'; cases hc')]
  unfold execOp
  simp only [ho, Sem.run_bind, run_buildSlice w t e len _ cells ie z hu hie hz hsmall hpos hf, Result.andThen_ok]
  exact hK _ _ h
end
end Go.Proofs.YtglfhmlcmffoaaaGreat
