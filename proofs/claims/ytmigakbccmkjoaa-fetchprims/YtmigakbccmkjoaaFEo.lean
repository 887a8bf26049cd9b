/-
  Primitives: the walk of Prims.
-/
import Derived.Test.YtmigakbccmkjoaaFEn
import Derived.Test.YtmigakbccmkjoaaQR
namespace Go.Proofs.Ytmigakbccmkjoaa
open Go.RowKit Go.Shelf
set_option linter.unusedVariables false
set_option linter.unusedSimpArgs false
attribute [local go_sem] Oper.semAt_some

/-- A primitive's cells; what primitive k of a mode over l is. -/
def pEnc (a : Nat → Int) : List Value := [.int .i64 (a 0), .int .i64 (a 1), .int .i64 (a 2), .int .i64 (a 3)]
theorem pEnc_len (a : Nat → Int) : (pEnc a).length = 4 := rfl
theorem pEnc_one (a : Nat → Int) : ∀ u ∈ pEnc a, u.oneCell' = true := by simp [pEnc, Value.oneCell']
def prmK (m : Int) (l : List Int) (k j : Nat) : Nat → Int := fun i => if i = 0 then (shpC m l.length : Int) else if i - 1 < j then l.getD (shpP m l.length k (i - 1)).toNat 0 else 0
def prmF (m : Int) (l : List Int) (k : Nat) : Nat → Int := prmK m l k (shpC m l.length)
def prmL (m : Int) (l : List Int) : List (Nat → Int) := (List.range (shpN m l.length).toNat).map (prmF m l)
theorem infoPrim : (Try.prog.info? 59).map (fun i => (i.zero, i.size, i.bytes)) = some (some (.agg #[.int .i64 0, .int .i64 0, .int .i64 0, .int .i64 0]), 4, 32) := by kernel_rfl
/-- Where the vertices stand they stand within the list. -/
theorem shpP_in (m : Int) (hm : modB m = true) (n k j : Nat) (hk : (k : Int) < shpN m n) (hj : j < shpC m n) : 0 ≤ shpP m n k j ∧ shpP m n k j < (n : Int) := by
  rcases mod_cases hm with rfl | rfl | rfl | rfl | rfl | rfl | rfl
  · have hk : (k : Int) < n := hk
    have hj : j < 1 := hj
    obtain rfl : j = 0 := by omega
    show 0 ≤ (k : Int) ∧ (k : Int) < n
    omega
  · have hk : (k : Int) < (n : Int) / 2 := hk
    have hj : j < 2 := hj
    rcases (by omega : j = 0 ∨ j = 1) with rfl | rfl
    · show 0 ≤ 2 * (k : Int) ∧ 2 * (k : Int) < n
      omega
    · show 0 ≤ 2 * (k : Int) + 1 ∧ 2 * (k : Int) + 1 < n
      omega
  · by_cases h2 : n < 2
    · have e2 : shpN 2 n = 0 := by show (if n < 2 then (0 : Int) else n) = 0; rw [if_pos h2]
      omega
    · have e1 : shpC 2 n = 2 := by show (if n < 2 then 0 else 2) = 2; rw [if_neg h2]
      have e2 : shpN 2 n = n := by show (if n < 2 then (0 : Int) else n) = n; rw [if_neg h2]
      rw [e2] at hk
      rcases (by omega : j = 0 ∨ j = 1) with rfl | rfl
      · show 0 ≤ (k : Int) ∧ (k : Int) < n
        omega
      · show 0 ≤ ((k : Int) + 1) % n ∧ ((k : Int) + 1) % n < n
        exact ⟨Int.emod_nonneg _ (by omega), Int.emod_lt_of_pos _ (by omega)⟩
  · have hk : (k : Int) < (n : Int) - 1 := hk
    have hj : j < 2 := hj
    rcases (by omega : j = 0 ∨ j = 1) with rfl | rfl
    · show 0 ≤ (k : Int) ∧ (k : Int) < n
      omega
    · show 0 ≤ (k : Int) + 1 ∧ (k : Int) + 1 < n
      omega
  · have hk : (k : Int) < (n : Int) / 3 := hk
    have hj : j < 3 := hj
    rcases (by omega : j = 0 ∨ j = 1 ∨ j = 2) with rfl | rfl | rfl
    · show 0 ≤ 3 * (k : Int) ∧ 3 * (k : Int) < n
      omega
    · show 0 ≤ 3 * (k : Int) + 1 ∧ 3 * (k : Int) + 1 < n
      omega
    · show 0 ≤ 3 * (k : Int) + 2 ∧ 3 * (k : Int) + 2 < n
      omega
  · have hk : (k : Int) < (n : Int) - 2 := hk
    have hj : j < 3 := hj
    by_cases h2 : k % 2 = 0
    · have e : shpP 5 n k = fun j => if j = 0 then (k : Int) else if j = 1 then (k : Int) + 1 else (k : Int) + 2 := by
        show (if k % 2 = 0 then _ else _) = _
        rw [if_pos h2]
      rw [e]
      rcases (by omega : j = 0 ∨ j = 1 ∨ j = 2) with rfl | rfl | rfl <;> simp <;> omega
    · have e : shpP 5 n k = fun j => if j = 0 then (k : Int) + 1 else if j = 1 then (k : Int) else (k : Int) + 2 := by
        show (if k % 2 = 0 then _ else _) = _
        rw [if_neg h2]
      rw [e]
      rcases (by omega : j = 0 ∨ j = 1 ∨ j = 2) with rfl | rfl | rfl <;> simp <;> omega
  · have hk : (k : Int) < (n : Int) - 2 := hk
    have hj : j < 3 := hj
    rcases (by omega : j = 0 ∨ j = 1 ∨ j = 2) with rfl | rfl | rfl
    · show (0 : Int) ≤ 0 ∧ (0 : Int) < n
      omega
    · show 0 ≤ (k : Int) + 1 ∧ (k : Int) + 1 < n
      omega
    · show 0 ≤ (k : Int) + 2 ∧ (k : Int) + 2 < n
      omega
theorem shpC_3 (m : Int) (n : Nat) : shpC m n ≤ 3 := by
  unfold shpC
  repeat' split
  all_goals omega
theorem shpN_le (m : Int) (n : Nat) : shpN m n ≤ n := by
  unfold shpN
  repeat' split
  all_goals omega

theorem blk_keptF {W W' : World} {b : Nat} {cs : Array Value} {t : TypeId} {row : Option Nat} (h : Blk W b cs t) (hg : W.grownBy W' row) (hr : ∀ r, row = some r → ∃ o : Obj, W.heap[r]? = some o ∧ o.isCells = false) : Blk W' b cs t := by
  refine (hg.block b h.lt ?_).trans h
  intro e
  obtain ⟨o, ho, hc⟩ := hr b e.symm
  rw [show W.heap[b]? = some (.cells cs t (0, 0)) from h] at ho
  cases ho
  cases hc
theorem go_cells {α : Type} {enc : α → List Value} {e : TypeId} {size : Nat} {w : World} {base : Nat} {v : Value} {L : List α} (h : GO enc e size w base v L) : ∀ (j : Nat) (o : Obj), v.ownBlock = some j → w.heap[j]? = some o → o.isCells = true := by
  intro j o hj ho
  rcases h.2 with ⟨rfl, _⟩ | ⟨g, cap, cur, rfl, _, hg, _⟩
  · cases hj
  · cases hj
    rw [hg] at ho
    cases ho
    rfl
theorem go_keptF {α : Type} {enc : α → List Value} {e : TypeId} {size : Nat} {W W' : World} {base : Nat} {v : Value} {L : List α} {row : Option Nat} (h : GO enc e size W base v L) (hg : W.grownBy W' row) (hr : ∀ r, row = some r → ∃ o : Obj, W.heap[r]? = some o ∧ o.isCells = false) : GO enc e size W' base v L := by
  refine World.ownsRow.kept h hg ?_
  cases hv : v.ownBlock with
  | none => exact .inl rfl
  | some g =>
    refine .inr (fun e => ?_)
    obtain ⟨o, ho, hc⟩ := hr g e.symm
    rw [go_cells h g o hv ho] at hc
    cases hc
theorem extGF {w w' : World} (hx : Ext w w') (r : Option Nat) : w.grownBy w' r := ⟨hx.os, hx.tape, hx.output, hx.size, fun i hi _ => hx.block i hi⟩
theorem keptS_put {w : World} {Bc : Nat} {W : World} {l : Nat} {o' : Obj} (hB : Bc ≠ l) (hw : w.heap.size ≤ l) : KeptS w Bc W (W.putObj l o') := ⟨World.putObj_heap_other hB, fun i hi => World.putObj_heap_other (by omega)⟩
theorem KeptS.trans {w : World} {Bc : Nat} {A B C : World} (h : KeptS w Bc A B) (k : KeptS w Bc B C) : KeptS w Bc A C := ⟨k.1.trans h.1, fun i hi => (k.2 i hi).trans (h.2 i hi)⟩
theorem KeptS.ofExt {w : World} {Bc : Nat} {A B : World} (hx : Ext A B) (hB : Bc < A.heap.size) (hw : w.heap.size ≤ A.heap.size) : KeptS w Bc A B := ⟨hx.block Bc hB, fun i hi => hx.block i (by omega)⟩
theorem KeepsFrom.ofExt {B : Nat} {W W' : World} (hx : Ext W W') : KeepsFrom B W W' := (KeepsOthers.of_grownBy (extGF hx none) (fun j o e _ => by cases e)).from B
/-- 'append(row, x)' within a fence, the row the call's own, the block of x laid last. -/
theorem wpListIn_append_G {F : Fence} {n : Nat} {P : Program} {α : Type} {enc : α → List Value} {e : TypeId} {size : Nat} {w : World} {ops : Array Oper} {rest : List Oper} {o : Oper} {a : Act} {Q : Exit → Act → World → Prop} {z : Value} {bytes : Nat} {t : TypeId}
    (hinfo : (P.info? e).map (fun i => (i.zero, i.size, i.bytes)) = some (some z, size, bytes)) (hu : P.underlying t = some (.slice e)) (hz : z.cells.size = size) (hp : 0 < size) (hb : bytes ≤ 100) (hgd : o.guard = none) (s x : Operand)
    (ho : o.op = .call { callee := .builtin .append, args := #[s, x], argTypes := #[t, t] }) (base : Nat) (v : Value) (L : List α) (y : α) (hs : a.eval s = v)
    (hown : GO enc e size w base v L) (g c : Nat) (hx : a.eval x = .slice (some ⟨g, 0, none⟩) 1 c) (t2 : TypeId) (hB : Blk w g (enc y).toArray t2) (hsz : (enc y).length = size) (hone : ∀ u ∈ enc y, u.oneCell' = true)
    (hL : L.length ≤ 1000000000000) (hbase : base ≤ w.heap.size)
    (h : ∀ ao cap N w', N = L ++ [y] → GO enc e size w' base (.slice ao N.length cap) N → w.grownBy w' v.ownBlock → (∀ b, (Value.slice ao N.length cap).ownBlock = some b → v.ownBlock = some b ∨ w.heap.size ≤ b) → wpListIn F n P ops Q rest (a.put o.dst (.slice ao N.length cap)) w') :
    wpListIn F n P ops Q (o :: rest) a w := by
  refine wpListIn_plain hgd fun K hK' => ?_
  obtain ⟨ao, cap, N, w', hN, hrun, r1, r2, r3⟩ := run_append_G (P := P) o.type hinfo hu hz hp hb base v L y hown g c t2 hB hsz hone hL hbase
  unfold Oper.wpIn
  refine ⟨?_, ?_⟩
  · simp [Oper.about, ho, resolve, Target.leads, Sem.run_pure]
  · rw [Oper.semAt_plain F _ _ (by rw [ho]; intro c hc'; cases hc')]
    simp [execOp, ho, resolve, invoke, builtin, hs, hx, hrun, Result.andThen]
    exact hK' _ _ (h ao cap N w' hN r1 r2 r3)
theorem cell_setO {w : World} {r i b j : Nat} {v u : Value} (h : w.cell? ⟨b, j, none⟩ = some u) (hne : b ≠ r) : (w.setCell ⟨r, i, none⟩ v).cell? ⟨b, j, none⟩ = some u := by
  rw [World.cell?_of_block (w := w) (heap_setCell_other w ⟨r, i, none⟩ b v hne)]
  exact h
/-- What stands between two rounds of Prims. -/
def PrI (w w1 : World) (m : Int) (l : List Int) (fv lv : Value) (pre : List (Fk m l.length)) (W : World) : Prop :=
  ∃ ao cap, Blk W (w1.heap.size + 1) #[.slice ao pre.length cap] 52 ∧ GO pEnc 59 4 W (w1.heap.size + 3) (.slice ao pre.length cap) ((valK pre).map (prmF m l)) ∧ Blk W w1.heap.size (shC m l.length fv) 74 ∧
    Blk W (w1.heap.size + 2) (shC m l.length fv) 74 ∧ Blk W w.heap.size #[lv] 51 ∧ Ext w W
theorem prI_own (w w1 : World) (m : Int) (l : List Int) (fv lv : Value) (hw : w.heap.size ≤ w1.heap.size) : OwnFrom (w1.heap.size + 3) (PrI w w1 m l fv lv) := by
  intro pre A B row hs hg hr
  obtain ⟨ao, cap, h1, h2, h3, h4, h5, h6⟩ := hs
  have hr2 : ∀ r, row = some r → ∃ o : Obj, A.heap[r]? = some o ∧ o.isCells = false := fun r e => (hr r e).2
  exact ⟨ao, cap, blk_keptF h1 hg hr2, go_keptF h2 hg hr2, blk_keptF h3 hg hr2, blk_keptF h4 hg hr2, blk_keptF h5 hg hr2, h6.grown hg h6.size (fun r e => by have := (hr r e).1; omega)⟩
theorem prmK_set (m : Int) (l : List Int) (k j : Nat) (hj : j < 3) : (pEnc (prmK m l k j)).toArray.setIfInBounds (1 + j) (.int .i64 (l.getD (shpP m l.length k j).toNat 0)) = (pEnc (prmK m l k (j + 1))).toArray := by
  have key : ∀ i, i ≠ j + 1 → prmK m l k (j + 1) i = prmK m l k j i := by
    intro i hi
    unfold prmK
    by_cases h0 : i = 0
    · rw [if_pos h0, if_pos h0]
    · rw [if_neg h0, if_neg h0]
      by_cases h : i - 1 < j
      · rw [if_pos h, if_pos (by omega)]
      · rw [if_neg h, if_neg (by omega)]
  have keyj : prmK m l k (j + 1) (j + 1) = l.getD (shpP m l.length k j).toNat 0 := by
    unfold prmK
    rw [if_neg (by omega), if_pos (by omega), Nat.add_sub_cancel]
  rcases (by omega : j = 0 ∨ j = 1 ∨ j = 2) with rfl | rfl | rfl
  · unfold pEnc; rw [key 0 (by omega), key 2 (by omega), key 3 (by omega), keyj]; rfl
  · unfold pEnc; rw [key 0 (by omega), key 1 (by omega), key 3 (by omega), keyj]; rfl
  · unfold pEnc; rw [key 0 (by omega), key 1 (by omega), key 2 (by omega), keyj]; rfl

set_option maxRecDepth 100000 in
set_option maxHeartbeats 4000000 in
theorem prims_ok (v : Value) (l : List Int) (m : Int) (w : World) (hr : Row .i64 w v l) (hm : modB m = true) (hn : l.length ≤ 256) :
    Calls Try.prog 21 #[.int .i64 m, v] w fun e w' => ∃ ao cap, e = .returned (.tuple #[.slice ao (prmL m l).length cap, .int .i64 0]) ∧ GO pEnc 59 4 w' w.heap.size (.slice ao (prmL m l).length cap) (prmL m l) ∧ Ext w w' := by
  obtain ⟨lo, lc, rfl, hao, hlc, hcm⟩ := hr.shape
  have HR := hide hr
  have HL := hide (Blk.new w #[.slice lo l.length lc] 51)
  have HX := hide ((Ext.refl w).alloc (.cells #[.slice lo l.length lc] 51))
  have HSH := hide (shapeOf_any m l.length (w.alloc (.cells #[.slice lo l.length lc] 51)) hm (by omega))
  have hn2 : ¬ (256 : Int) < (l.length : Int) := by omega
  unfold maxLen at hcm
  clear hr hao
  refine (callsIn_wide (n := 9)).1 ?_
  refine callsIn_of_wp_marks Try.func21 rfl trivial ?_ rfl
  simp only [Try.ntmps21, List.size_toArray, List.length_cons, List.length_nil, Nat.reduceAdd, Nat.reduceSub, Array.replicate_succ, Array.replicate_zero, List.push_toArray, List.append_toArray, List.nil_append, List.cons_append]
  refine wpIn_wide.2 ?_
  go_wp2_with fail
  refine (unhide HSH).mono ?_
  rintro e w1 ⟨fv, rfl, hfv, hpl, hx1⟩
  have HPL := hide hpl
  have HL1 := hide ((unhide HL).ext hx1)
  have HX1 := hide ((unhide HX).trans hx1)
  have c0 : ∀ o, (w1.alloc o).cell? ⟨w.heap.size, 0, none⟩ = some (.slice lo l.length lc) := fun o => ((unhide HL1).alloc o).cell rfl
  clear hpl hx1 HSH HL HX
  rcases hfv with hfv | ⟨g, lb, hfv⟩
  all_goals
    subst hfv
    go_wp2_with (go_at_call 30; refine (shall_any _ _ _ _ (by first | exact .inl rfl | exact .inr ⟨_, _, rfl⟩)).mono ?_; rintro e w2 ⟨rfl, rfl⟩)
    first | generalize hfw : Value.func (Fn.func g) #[] lb = fv at HPL ⊢ | generalize hfw : Value.nilFunc = fv at HPL ⊢
    clear hfw c0
    rw [show w1.heap.size + 1 + 1 = w1.heap.size + 2 from rfl]
    refine (wpIn_wide (n := 9)).1 ?_
    have hs1 : Blk (((w1.alloc (.cells #[.int .i64 (shpC m l.length : Int), .int .i64 (shpN m l.length), fv] 74)).alloc (.cells #[.slice none 0 0] 52)).alloc (.cells #[.int .i64 (shpC m l.length : Int), .int .i64 (shpN m l.length), fv] 74)) w1.heap.size (shC m l.length fv) 74 := ((Blk.new _ _ _).alloc _).alloc _
    have hs2 : Blk (((w1.alloc (.cells #[.int .i64 (shpC m l.length : Int), .int .i64 (shpN m l.length), fv] 74)).alloc (.cells #[.slice none 0 0] 52)).alloc (.cells #[.int .i64 (shpC m l.length : Int), .int .i64 (shpN m l.length), fv] 74)) (w1.heap.size + 1) #[.slice none 0 0] 52 := (Blk.at (by simp)).alloc _
    have hs3 : Blk (((w1.alloc (.cells #[.int .i64 (shpC m l.length : Int), .int .i64 (shpN m l.length), fv] 74)).alloc (.cells #[.slice none 0 0] 52)).alloc (.cells #[.int .i64 (shpC m l.length : Int), .int .i64 (shpN m l.length), fv] 74)) (w1.heap.size + 2) (shC m l.length fv) 74 := Blk.at (by simp)
    have hx3 : Ext w1 (((w1.alloc (.cells #[.int .i64 (shpC m l.length : Int), .int .i64 (shpN m l.length), fv] 74)).alloc (.cells #[.slice none 0 0] 52)).alloc (.cells #[.int .i64 (shpC m l.length : Int), .int .i64 (shpN m l.length), fv] 74)) := (((Ext.refl w1).alloc _).alloc _).alloc _
    have hsz : (((w1.alloc (.cells #[.int .i64 (shpC m l.length : Int), .int .i64 (shpN m l.length), fv] 74)).alloc (.cells #[.slice none 0 0] 52)).alloc (.cells #[.int .i64 (shpC m l.length : Int), .int .i64 (shpN m l.length), fv] 74)).heap.size = w1.heap.size + 3 := by simp
    generalize ((w1.alloc (.cells #[.int .i64 (shpC m l.length : Int), .int .i64 (shpN m l.length), fv] 74)).alloc (.cells #[.slice none 0 0] 52)).alloc (.cells #[.int .i64 (shpC m l.length : Int), .int .i64 (shpN m l.length), fv] 74) = W0 at hs1 hs2 hs3 hx3 hsz ⊢
    have hww : w.heap.size ≤ w1.heap.size := (unhide HX1).size
    have hlw : w.heap.size < w1.heap.size := (unhide HL1).lt
    have h0 : PrI w w1 m l fv (.slice lo l.length lc) [] W0 := ⟨none, 0, hs2, GO.nil _ _, hs1, hs3, (unhide HL1).ext hx3, (unhide HX1).trans hx3⟩
    have hN256 : shpN m l.length ≤ 1000 := by have := shpN_le m l.length; omega
    refine wpIn_rangeFunc_ownH (α := Fk m l.length) rfl (by omega) (gf := 56) (lb := #[.pointer (some ⟨w1.heap.size + 2, 0, none⟩)]) rfl trivial (enters_of Try.func56 (by kernel_rfl) rfl)
      (shapeIter (9 - 1) (by omega) m l.length fv (w1.heap.size + 2) w1 W0 (unhide HPL) (AgF.ofExt hx3) hs3 hN256) KeptS.trans (fun W q o o' hl _ _ _ => keptS_put (by omega) (by omega)) (Below.refl _ _) (fun _ => rfl)
      (PrI w w1 m l fv (.slice lo l.length lc)) (fun _ _ _ => False) (by rw [hsz]; exact prI_own w w1 m l fv _ hww) (fun _ _ _ _ _ hs _ _ => hs) h0
      (fun x a' W => ∃ cb, a' = { tmps := #[.int .i64 m, .slice lo l.length lc, undef, .pointer (some ⟨w.heap.size, 0, none⟩), .slice none 0 0, .int .i64 0, .pointer (some ⟨w1.heap.size, 0, none⟩), .bool true, .pointer (some ⟨w1.heap.size + 1, 0, none⟩), .pointer (some ⟨cb, 0, none⟩), undef, undef, .tuple #[.agg #[.int .i64 (shpC m l.length : Int), .int .i64 (shpN m l.length), fv], .bool true], .int .i64 m, .slice lo l.length lc, .int .i64 (l.length : Int), .tuple #[.agg #[.int .i64 (shpC m l.length : Int), .int .i64 (shpN m l.length), fv], .bool true], .agg #[.int .i64 (shpC m l.length : Int), .int .i64 (shpN m l.length), fv], .bool true, .bool true, .bool false, .slice lo l.length lc, .int .i64 (l.length : Int), .bool (decide (256 < (l.length : Int))), .agg #[.int .i64 (shpC m l.length : Int), .int .i64 (shpN m l.length), fv], .func (.func 56) #[] #[.pointer (some ⟨w1.heap.size + 2, 0, none⟩)], .agg #[.int .i64 (shpP m l.length x.1 0), .int .i64 (shpP m l.length x.1 1), .int .i64 (shpP m l.length x.1 2)], undef, undef, undef, undef, undef, undef, undef, undef, undef, undef, undef, undef, undef, undef, undef, undef, undef, undef, undef, undef, undef, undef, undef], defers := [] } ∧ Blk W cb #[.int .i64 (shpP m l.length x.1 0), .int .i64 (shpP m l.length x.1 1), .int .i64 (shpP m l.length x.1 2)] 57)
      (fun x a' s A B row hs hg hr => by
        obtain ⟨cb, e, hb⟩ := hs
        exact ⟨cb, e, blk_keptF hb hg (fun r e => (hr r e).2)⟩) ?_ ?_ ?_ ?_
    · intro q pre x W K hI hK
      unfold p3V
      gi_wp2
      obtain ⟨ao, cap, h1, h2, h3, h4, h5, h6⟩ := id hI
      have hx : Ext W (W.alloc (.cells #[.int .i64 (shpP m l.length x.1 0), .int .i64 (shpP m l.length x.1 1), .int .i64 (shpP m l.length x.1 2)] 57)) := (Ext.refl W).alloc _
      exact hK _ _ (KeepsFrom.ofExt hx) (KeptS.ofExt hx h4.lt (Nat.le_of_lt h3.lt)) ⟨ao, cap, h1.ext hx, GO.ext h2 hx, h3.ext hx, h4.ext hx, h5.ext hx, h6.trans hx⟩ ⟨_, rfl, Blk.new _ _ _⟩
    · rintro q pre x a' W hq hrec hI ⟨cb, rfl, hcb⟩ hlt
      have hk := x.2
      have hc3 := shpC_3 m l.length
      have HIN := hide (fun j hj => shpP_in m hm l.length x.1 j hk hj)
      obtain ⟨ao, cap, h1, h2, h3, h4, h5, h6⟩ := id hI
      have HI := hide hI
      have s0 : W.cell? ⟨w1.heap.size, 0, none⟩ = some (.int .i64 (shpC m l.length : Int)) := h3.cell rfl
      have s0' : ∀ o, (W.alloc o).cell? ⟨w1.heap.size, 0, none⟩ = some (.int .i64 (shpC m l.length : Int)) := fun o => (h3.alloc o).cell rfl
      have H0 := hide (show Blk (W.alloc (.cells #[.int .i64 (shpC m l.length : Int), .int .i64 0, .int .i64 0, .int .i64 0] 59)) W.heap.size (pEnc (prmK m l x.1 0)).toArray 59 from Blk.new _ _ _)
      have hX0 := hide ((Ext.refl W).alloc (.cells #[.int .i64 (shpC m l.length : Int), .int .i64 0, .int .i64 0, .int .i64 0] 59))
      have HW := hide (And.intro h1 (And.intro h2 (And.intro h3 (And.intro h4 (And.intro h5 h6)))))
      have HC := hide hcb
      have hcl := hcb.lt
      have HMX := hide hlt
      clear hI h1 h2 h3 h4 h5 h6 hcb hrec hlt hs1 hs2 hs3 hx3 h0 HPL hN256 HL1 HX1
      gi_wp2
      gi_loopw [32] (fun iv wr => ∃ j : Nat, j ≤ shpC m l.length ∧ iv = .int .i64 (j : Int) ∧ Blk wr W.heap.size (pEnc (prmK m l x.1 j)).toArray 59 ∧ Ext W wr) (fun iv _ => shpC m l.length - (intOf iv).toNat)
      case atStart => exact ⟨0, Nat.zero_le _, rfl, unhide H0, unhide hX0⟩
      case round =>
        clear H0 hX0 s0 s0'
        obtain ⟨j, hj, rfl, hpb, hX⟩ := hrel
        have D := hide (And.intro hpb hX)
        clear hpb hX
        by_cases hjt : j < shpC m l.length
        · have hjt2 : (j : Int) < (shpC m l.length : Int) := by omega
          have hj3 : (j : Int) < 3 := by omega
          obtain ⟨hp0, hp1⟩ := unhide HIN j hjt
          obtain ⟨pn, hpn⟩ : ∃ pn : Nat, shpP m l.length x.1 j = (pn : Int) := ⟨(shpP m l.length x.1 j).toNat, by omega⟩
          have hpl : pn < l.length := by omega
          obtain ⟨b, off, hlo, hlc2⟩ := ((unhide HR).ext ((unhide HW).2.2.2.2.2)).at pn hpl
          have hbl := World.block_lt_of_cell? W _ (hlc2 pn hpl)
          have e2 := ((unhide D).2.cell (p := ⟨b, off + pn, none⟩) hbl).trans (hlc2 pn hpl)
          have e1 : wr.cell? ⟨cb, j, none⟩ = some (.int .i64 (pn : Int)) := by
            rw [← hpn]
            refine ((unhide HC).ext (unhide D).2).cell ?_
            rcases (by omega : j = 0 ∨ j = 1 ∨ j = 2) with rfl | rfl | rfl <;> rfl
          have e0 : wr.cell? ⟨w.heap.size, 0, none⟩ = some (.slice lo l.length lc) := ((unhide HW).2.2.2.2.1.ext (unhide D).2).cell rfl
          have f9 := (unhide D).1.free (1 + j)
          have HSET := hide (prmK_set m l x.1 j (by omega))
          rw [hpn, Int.toNat_natCast, show l.getD pn 0 = l[pn] by simp [hpl]] at HSET
          generalize l[pn] = y at *
          subst hlo
          have HPN := hide hpn
          have hpl2 : (pn : Int) < (l.length : Int) := by omega
          have e9 : wr.cell? ⟨W.heap.size, 1 + j, none⟩ = some (.int .i64 (prmK m l x.1 j (1 + j))) := by
            refine (unhide D).1.cell ?_
            rcases (by omega : j = 0 ∨ j = 1 ∨ j = 2) with rfl | rfl | rfl <;> rfl
          have HS := hide (And.intro e0 (And.intro e1 e2))
          clear hlc2 hpn hp0 hp1
          gi_wp2
          refine region_in (S := fun w' => w'.cell? ⟨w.heap.size, 0, none⟩ = some (.slice (some ⟨b, off, none⟩) l.length lc) ∧ w'.cell? ⟨cb, j, none⟩ = some (.int .i64 (pn : Int)) ∧ w'.cell? ⟨b, off + pn, none⟩ = some (.int .i64 y)) (by kernel_rfl) (by kernel_rfl) (by rintro ⟨_, _, h⟩; exact h) (unhide HS) (fun hHeld => ?_)
          refine wpAnyH_take (i := 0) (v := .int .i64 (j : Int)) rfl (by kernel_rfl) (by kernel_rfl) (by kernel_rfl) (fun _ _ _ h => h) (Or.inl ⟨by rfl, fun _ _ => rfl⟩) hHeld ?_
          refine wpAnyH_take (i := 1) (v := .slice (some ⟨b, off, none⟩) l.length lc) rfl (by kernel_rfl) (by kernel_rfl) (by kernel_rfl) (fun _ _ _ h => h) (Or.inl ⟨by rfl, fun w9 h9 => by (have q := h9.1; go_simp)⟩) hHeld ?_
          refine wpAnyH_take (i := 2) (v := .int .i64 (j : Int)) rfl (by kernel_rfl) (by kernel_rfl) (by kernel_rfl) (fun _ _ _ h => h) (Or.inl ⟨by rfl, fun _ _ => rfl⟩) hHeld ?_
          refine wpAnyH_take (i := 3) (v := .pointer (some ⟨cb, j, none⟩)) rfl (by kernel_rfl) (by kernel_rfl) (by kernel_rfl) (fun _ _ _ h => h) (Or.inl ⟨by rfl, fun w9 h9 => by (go_simp)⟩) hHeld ?_
          refine wpAnyH_take (i := 4) (v := .int .i64 (pn : Int)) rfl (by kernel_rfl) (by kernel_rfl) (by kernel_rfl) (fun _ _ _ h => h) (Or.inl ⟨by rfl, fun w9 h9 => by (have q := h9.2.1; go_simp)⟩) hHeld ?_
          refine wpAnyH_take (i := 5) (v := .pointer (some ⟨b, off + pn, none⟩)) rfl (by kernel_rfl) (by kernel_rfl) (by kernel_rfl) (fun _ _ _ h => h) (Or.inl ⟨by rfl, fun w9 h9 => by (go_simp)⟩) hHeld ?_
          refine wpAnyH_take (i := 6) (v := .int .i64 y) rfl (by kernel_rfl) (by kernel_rfl) (by kernel_rfl) (fun _ _ _ h => h) (Or.inl ⟨by rfl, fun w9 h9 => by (have q := h9.2.2; go_simp)⟩) hHeld ?_
          refine wpAnyH_take (i := 7) (v := .pointer (some ⟨W.heap.size, 1, none⟩)) rfl (by kernel_rfl) (by kernel_rfl) (by kernel_rfl) (fun _ _ _ h => h) (Or.inl ⟨by rfl, fun w9 h9 => by (go_simp)⟩) hHeld ?_
          refine wpAnyH_take (i := 8) (v := .pointer (some ⟨W.heap.size, 1 + j, none⟩)) rfl (by kernel_rfl) (by kernel_rfl) (by kernel_rfl) (fun _ _ _ h => h) (Or.inl ⟨by rfl, fun w9 h9 => by (go_simp)⟩) hHeld ?_
          refine wpAnyH_ready (rs := [9]) (by kernel_rfl) (by simp) (AllReadyH.cons rfl (fun K hK => ?_) AllReadyH.nil)
          go_simp
          have hbl2 : b < W.heap.size := hbl
          have hww2 : w.heap.size < W.heap.size := (unhide HW).2.2.2.2.1.lt
          have hS9 : ((wr.drew.setCell ⟨W.heap.size, 1 + j, none⟩ (.int .i64 y)).cell? ⟨w.heap.size, 0, none⟩ = some (.slice (some ⟨b, off, none⟩) l.length lc) ∧ (wr.drew.setCell ⟨W.heap.size, 1 + j, none⟩ (.int .i64 y)).cell? ⟨cb, j, none⟩ = some (.int .i64 (pn : Int)) ∧ (wr.drew.setCell ⟨W.heap.size, 1 + j, none⟩ (.int .i64 y)).cell? ⟨b, off + pn, none⟩ = some (.int .i64 y)) :=
            ⟨cell_setO hHeld.1 (by omega), cell_setO hHeld.2.1 (by omega), cell_setO hHeld.2.2 (by omega)⟩
          refine hK.out _ _ hS9 (fun _ => ?_)
          clear hK K
          refine wpAnyH_done (by kernel_rfl) ?_ _
          have hpb9 : Blk (wr.drew.setCell ⟨W.heap.size, 1 + j, none⟩ (.int .i64 y)) W.heap.size (pEnc (prmK m l x.1 (j + 1))).toArray 59 := by
            have h := ((unhide D).1.ext ((Ext.refl wr).drew)).set (1 + j) (.int .i64 y)
            rw [unhide HSET] at h
            exact h
          have D9 := hide (And.intro hpb9 (ext_set (i := 1 + j) (v := .int .i64 y) ((unhide D).2.drew) (Nat.le_refl W.heap.size)))
          clear hpb9 hS9 hHeld HS D
          gi_wp2
          go_roundw
          case rel => exact ⟨j + 1, by omega, by go_num, unhide D9⟩
          case measure => simp [intOf]; omega
        · have hjt2 : ¬ (j : Int) < (shpC m l.length : Int) := by omega
          obtain rfl : j = shpC m l.length := by omega
          have hGE := (unhide HW).2.1
          have hpb2 : Blk wr W.heap.size (pEnc (prmF m l x.1)).toArray 59 := (unhide D).1
          have c8 : wr.cell? ⟨w1.heap.size + 1, 0, none⟩ = some (.slice ao pre.length cap) := ((unhide HW).1.ext (unhide D).2).cell rfl
          have HMAP : Hid ((valK pre).map (prmF m l) ++ [prmF m l x.1] = (valK (pre ++ [x])).map (prmF m l)) := by simp [Hid, valK]
          generalize prmF m l x.1 = y at hpb2 HMAP ⊢
          have q0 : wr.cell? ⟨W.heap.size, 0, none⟩ = some (.int .i64 (y 0)) := hpb2.cell rfl
          have q1 : wr.cell? ⟨W.heap.size, 1, none⟩ = some (.int .i64 (y 1)) := hpb2.cell rfl
          have q2 : wr.cell? ⟨W.heap.size, 2, none⟩ = some (.int .i64 (y 2)) := hpb2.cell rfl
          have q3 : wr.cell? ⟨W.heap.size, 3, none⟩ = some (.int .i64 (y 3)) := hpb2.cell rfl
          have hxA : Ext W (wr.alloc (.cells #[.int .i64 (y 0), .int .i64 (y 1), .int .i64 (y 2), .int .i64 (y 3)] 59)) := (unhide D).2.alloc _
          have hE5 : Blk (wr.alloc (.cells #[.int .i64 (y 0), .int .i64 (y 1), .int .i64 (y 2), .int .i64 (y 3)] 59)) wr.heap.size (pEnc y).toArray 59 := Blk.new _ _ _
          have hbs : w1.heap.size + 3 ≤ (wr.alloc (.cells #[.int .i64 (y 0), .int .i64 (y 1), .int .i64 (y 2), .int .i64 (y 3)] 59)).heap.size := by
            have t1 := (unhide HW).2.2.2.1.lt
            have t2 := hxA.size
            omega
          have HA := hide (And.intro hxA (And.intro hE5 (And.intro hbs (GO.ext hGE hxA))))
          have hll : ((valK pre).map (prmF m l)).length ≤ 1000000000000 := by
            have t := unhide HMX
            have := shpN_le m l.length
            simp [valK]
            omega
          have HMX2 := hide hll
          clear hxA hE5 hbs hpb2 hGE hll
          gi_wp2_with (refine wpListIn_append_G (enc := pEnc) infoPrim Try.underlying52 rfl (by decide) (by decide) rfl (.tmp 45) (.tmp 47) rfl (w1.heap.size + 3) _ ((valK pre).map (prmF m l)) y rfl (unhide HA).2.2.2 _ 1 rfl _ (unhide HA).2.1 rfl (pEnc_one y) (unhide HMX2) (unhide HA).2.2.1 ?_)
          intro ao2 cap2 N w9 hN hG9 hg9 hloc
          have hNl : N.length = (pre ++ [x]).length := by rw [hN]; simp [valK]
          rw [hN, unhide HMAP] at hG9
          rw [hN, unhide HMAP] at hNl
          rw [hN, unhide HMAP]
          rw [hN, unhide HMAP] at hloc
          rw [hNl] at hG9 hloc ⊢
          have hown : ∀ r, (Value.slice ao pre.length cap).ownBlock = some r → w1.heap.size + 3 ≤ r := fun r e => ((unhide HA).2.2.2.lt r e).1
          have t3 := (unhide HW).2.2.1.lt
          have hP9 : Blk w9 (w1.heap.size + 1) #[.slice ao pre.length cap] 52 := ((unhide HW).1.ext (unhide HA).1).grownO hg9 (fun r e => by have := hown r e; omega)
          have c9 : w9.cell? ⟨w1.heap.size + 1, 0, none⟩ = some (.slice ao pre.length cap) := hP9.cell rfl
          have f9 := hP9.free 0
          have hne9 : ∀ b, (Value.slice ao2 (pre ++ [x]).length cap2).ownBlock = some b → b ≠ w1.heap.size + 1 := by
            intro b hb
            rcases hloc b hb with h | h
            · have := hown b h; omega
            · have t4 : wr.heap.size + 1 ≤ b := by simpa using h
              have t5 := (unhide D).2.size
              omega
          have hK1 : KeepsOthers W w9 := (KeepsOthers.of_grownBy (extGF (unhide HA).1 none) (fun j o e _ => by cases e)).trans (KeepsOthers.of_grownBy hg9 (go_cells (unhide HA).2.2.2))
          have hK2 : KeepsFrom W0.heap.size W (w9.setCell ⟨w1.heap.size + 1, 0, none⟩ (.slice ao2 (pre ++ [x]).length cap2)) := (hK1.trans (KeepsOthers.setCell _ _ _)).from _
          have hK3 : KeptS w1 (w1.heap.size + 2) W (w9.setCell ⟨w1.heap.size + 1, 0, none⟩ (.slice ao2 (pre ++ [x]).length cap2)) := by
            have hsA := (unhide HA).1.size
            have one : ∀ i, i < w1.heap.size ∨ i = w1.heap.size + 2 → (w9.setCell ⟨w1.heap.size + 1, 0, none⟩ (.slice ao2 (pre ++ [x]).length cap2)).heap[i]? = W.heap[i]? := by
              intro i hi
              have t6 := (unhide HW).2.2.2.1.lt
              refine (heap_setCell_other _ _ _ _ (by simp; omega)).trans ((hg9.block i (by omega) (fun e => ?_)).trans ((unhide HA).1.block i (by omega)))
              have := hown i e.symm
              omega
            exact ⟨one _ (.inr rfl), fun i hi => one i (.inl hi)⟩
          have hx9 : Ext w w9 := ((unhide HW).2.2.2.2.2.trans (unhide HA).1).grown hg9 ((unhide HW).2.2.2.2.2.trans (unhide HA).1).size (fun r e => by have := hown r e; omega)
          have hgo : ∀ (b : Nat) (cs : Array Value) (t : TypeId), Blk W b cs t → b ≠ w1.heap.size + 1 → b < w1.heap.size + 3 → Blk (w9.setCell ⟨w1.heap.size + 1, 0, none⟩ (.slice ao2 (pre ++ [x]).length cap2)) b cs t := fun b cs t hb h1 h2 =>
            ((hb.ext (unhide HA).1).grownO hg9 (fun r e => by have := hown r e; omega)).other 0 _ h1
          have hK4 : PrI w w1 m l fv (.slice lo l.length lc) (pre ++ [x]) (w9.setCell ⟨w1.heap.size + 1, 0, none⟩ (.slice ao2 (pre ++ [x]).length cap2)) :=
            ⟨ao2, cap2, hP9.set 0 _, GO.keep hG9 (grownBy_set _ _ _ _) hne9, hgo _ _ _ (unhide HW).2.2.1 (by omega) (by omega), hgo _ _ _ (unhide HW).2.2.2.1 (by omega) (by omega), hgo _ _ _ (unhide HW).2.2.2.2.1 (by omega) (by omega), ext_set hx9 (by omega)⟩
          have HF := hide (And.intro hK2 (And.intro hK3 hK4))
          clear hK1 hK2 hK3 hK4 hgo hx9 hne9 hP9 hown hG9 hg9 hloc hN hNl HA HW D q0 q1 q2 q3 c8
          gi_wp2
          rw [show (pre ++ [x]).length = pre.length + 1 by simp] at HF
          exact ⟨(unhide HF).1, (unhide HF).2.1, (unhide HF).2.2⟩
    · rintro D xs W hD hS hI hK
      obtain ⟨ao, cap, h1, h2, h3, h4, h5, h6⟩ := hI
      have c8 : W.cell? ⟨w1.heap.size + 1, 0, none⟩ = some (.slice ao xs.length cap) := h1.cell rfl
      have hL : (valK xs).map (prmF m l) = prmL m l := by unfold prmL; rw [hS]
      have hl : xs.length = (prmL m l).length := by rw [← hL]; simp [valK]
      rw [hL] at h2
      rw [hl] at h2 c8
      have H2 := hide (And.intro h2 h6)
      have HK := hide hK
      clear h1 h2 h3 h4 h5 h6 hK hS hL hl hs1 hs2 hs3 h0 HPL
      go_wp2
      refine ⟨by simp, .inl ⟨_, _, rfl, run_takeDeferred (unhide HK), ?_⟩⟩
      refine ⟨.tuple #[.slice ao (prmL m l).length cap, .int .i64 0], by simp [results, Try.results21, go_sem], ao, cap, rfl, ?_, (show Below w.heap.size w W from (unhide H2).2).trans (belowK_b (w := w) (Nat.le_refl _) W D _ _ (by omega) (unhide HK) rfl rfl)⟩
      exact go_keptF (row := some D) (GO.lower (unhide H2).1 (by omega)) ⟨rfl, rfl, rfl, by simp [World.putObj], fun i hi hne => World.putObj_heap_other (fun e => hne (by rw [e]))⟩ (fun r e => by cases e; exact ⟨_, unhide HK, rfl⟩)
    · rintro D c pre W _ _ h _
      exact h.elim
end Go.Proofs.Ytmigakbccmkjoaa
