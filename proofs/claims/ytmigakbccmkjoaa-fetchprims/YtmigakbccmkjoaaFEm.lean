/-
  Primitives: plainly; and the walks of shapeOf, the functions of places, all.
-/
import Derived.Test.YtmigakbccmkjoaaProg
import Derived.Test.YtmigakbccmkjoaaBlk
import Derived.Test.YtmigakbccmkjoaaVH
import Derived.Test.YtmigakbccmkjoaaGO
import Derived.Shelf.Abstract
import Derived.Laws.EntriesVeiled
namespace Go.Proofs.Ytmigakbccmkjoaa
open Go.RowKit
set_option linter.unusedVariables false
set_option linter.unusedSimpArgs false

/-- How many vertices a primitive has; how many primitives there are (may be below 0); where their vertices stand. -/
def shpC (m : Int) (n : Nat) : Nat := if m = 0 then 1 else if m = 2 then (if n < 2 then 0 else 2) else if m ≤ 3 then 2 else 3
def shpN (m : Int) (n : Nat) : Int := if m = 0 then n else if m = 1 then (n : Int) / 2 else if m = 2 then (if n < 2 then 0 else n) else if m = 3 then (n : Int) - 1 else if m = 4 then (n : Int) / 3 else (n : Int) - 2
def shpP (m : Int) (n k : Nat) : Nat → Int :=
  if m = 0 then fun j => if j = 0 then k else 0
  else if m = 1 then fun j => if j = 0 then 2 * k else if j = 1 then 2 * k + 1 else 0
  else if m = 2 then fun j => if j = 0 then k else if j = 1 then ((k : Int) + 1) % n else 0
  else if m = 3 then fun j => if j = 0 then k else if j = 1 then (k : Int) + 1 else 0
  else if m = 4 then fun j => if j = 0 then 3 * k else if j = 1 then 3 * k + 1 else 3 * (k : Int) + 2
  else if m = 5 then (if k % 2 = 0 then fun j => if j = 0 then k else if j = 1 then (k : Int) + 1 else (k : Int) + 2 else fun j => if j = 0 then (k : Int) + 1 else if j = 1 then k else (k : Int) + 2)
  else fun j => if j = 0 then 0 else if j = 1 then (k : Int) + 1 else (k : Int) + 2
def modB (m : Int) : Bool := decide (0 ≤ m ∧ m ≤ 6)
theorem mod_cases {m : Int} (h : modB m = true) : m = 0 ∨ m = 1 ∨ m = 2 ∨ m = 3 ∨ m = 4 ∨ m = 5 ∨ m = 6 := by
  unfold modB at h
  have := of_decide_eq_true h
  omega
/-- Three places as a value. -/
def p3V (p : Nat → Int) : Value := .agg #[.int .i64 (p 0), .int .i64 (p 1), .int .i64 (p 2)]
/-- All that lay in w lies as it lay. -/
def AgF (w W : World) : Prop := ∀ i, i < w.heap.size → W.heap[i]? = w.heap[i]?
theorem AgF.size {w W : World} (h : AgF w W) : w.heap.size ≤ W.heap.size := by
  by_cases h0 : w.heap.size = 0
  · omega
  · have h1 := h (w.heap.size - 1) (by omega)
    rw [Array.getElem?_eq_getElem (show w.heap.size - 1 < w.heap.size by omega)] at h1
    have := (Array.getElem?_eq_some_iff.1 h1).1
    omega
theorem AgF.ofExt {w W : World} (h : Ext w W) : AgF w W := fun i hi => h.block i hi
theorem AgF.trans {a b c : World} (h : AgF a b) (k : AgF b c) : AgF a c := fun i hi => (k i (by have := h.size; omega)).trans (h i hi)
theorem AgF.blk {w W : World} {b : Nat} {cs : Array Value} {t : TypeId} (h : AgF w W) (hb : Blk w b cs t) : Blk W b cs t := (h b hb.lt).trans hb
theorem Blk.grownO {w w' : World} {b : Nat} {cs : Array Value} {t : TypeId} {ro : Option Nat} (h : Blk w b cs t) (hg : w.grownBy w' ro) (hne : ∀ r, ro = some r → b ≠ r) : Blk w' b cs t :=
  (hg.block b h.lt (fun e => hne b e.symm rfl)).trans h
theorem blkNew {w : World} {cs : Array Value} {t : TypeId} : Blk (w.alloc (.cells cs t)) w.heap.size cs t := Blk.new w cs t
/-- What the function of places answers, as long as what lay in w lies so. -/
def PlQ (w : World) (fv : Value) (m : Int) (n : Nat) : Prop :=
  (fv = .nilFunc ∧ shpN m n = 0) ∨ ∃ g lb, fv = .func (.func g) #[] lb ∧ (∀ args w, (callFunc g args).run Try.prog w = .ok (.enter g args) w) ∧
    ∀ (W : World) (k : Nat), AgF w W → (k : Int) < shpN m n → Calls Try.prog g (#[.int .i64 (k : Int)] ++ lb) W fun e w' => e = .returned (p3V (shpP m n k)) ∧ Ext W w'

theorem place_0 (n k : Nat) (W : World) (hk : k ≤ 1000) : Calls Try.prog 49 #[.int .i64 (k : Int)] W fun e w' => e = .returned (p3V (shpP 0 n k)) ∧ Ext W w' := by
  go_enter Try.func49, Try.ntmps49
  go_wp2
  have hB := Blk.new W #[.int .i64 ((k : Int)), .int .i64 (0), .int .i64 (0)] 57
  have r0 : (W.alloc (.cells #[.int .i64 ((k : Int)), .int .i64 (0), .int .i64 (0)] 57)).cell? ⟨W.heap.size, 0, none⟩ = some (.int .i64 ((k : Int))) := hB.cell rfl
  have r1 : (W.alloc (.cells #[.int .i64 ((k : Int)), .int .i64 (0), .int .i64 (0)] 57)).cell? ⟨W.heap.size, 1, none⟩ = some (.int .i64 (0)) := hB.cell rfl
  have r2 : (W.alloc (.cells #[.int .i64 ((k : Int)), .int .i64 (0), .int .i64 (0)] 57)).cell? ⟨W.heap.size, 2, none⟩ = some (.int .i64 (0)) := hB.cell rfl
  refine bodyPost_ret (v := .agg #[.int .i64 ((k : Int)), .int .i64 (0), .int .i64 (0)]) (by simp [results, Try.results49, go_sem, r0, r1, r2]) rfl ⟨?_, (Ext.refl W).alloc _⟩
  rfl
theorem place_1 (n k : Nat) (W : World) (hk : k ≤ 1000) : Calls Try.prog 50 #[.int .i64 (k : Int)] W fun e w' => e = .returned (p3V (shpP 1 n k)) ∧ Ext W w' := by
  go_enter Try.func50, Try.ntmps50
  go_wp2
  have hB := Blk.new W #[.int .i64 (2 * (k : Int)), .int .i64 (2 * (k : Int) + 1), .int .i64 (0)] 57
  have r0 : (W.alloc (.cells #[.int .i64 (2 * (k : Int)), .int .i64 (2 * (k : Int) + 1), .int .i64 (0)] 57)).cell? ⟨W.heap.size, 0, none⟩ = some (.int .i64 (2 * (k : Int))) := hB.cell rfl
  have r1 : (W.alloc (.cells #[.int .i64 (2 * (k : Int)), .int .i64 (2 * (k : Int) + 1), .int .i64 (0)] 57)).cell? ⟨W.heap.size, 1, none⟩ = some (.int .i64 (2 * (k : Int) + 1)) := hB.cell rfl
  have r2 : (W.alloc (.cells #[.int .i64 (2 * (k : Int)), .int .i64 (2 * (k : Int) + 1), .int .i64 (0)] 57)).cell? ⟨W.heap.size, 2, none⟩ = some (.int .i64 (0)) := hB.cell rfl
  refine bodyPost_ret (v := .agg #[.int .i64 (2 * (k : Int)), .int .i64 (2 * (k : Int) + 1), .int .i64 (0)]) (by simp [results, Try.results50, go_sem, r0, r1, r2]) rfl ⟨?_, (Ext.refl W).alloc _⟩
  rfl
theorem place_3 (n k : Nat) (W : World) (hk : k ≤ 1000) : Calls Try.prog 52 #[.int .i64 (k : Int)] W fun e w' => e = .returned (p3V (shpP 3 n k)) ∧ Ext W w' := by
  go_enter Try.func52, Try.ntmps52
  go_wp2
  have hB := Blk.new W #[.int .i64 ((k : Int)), .int .i64 ((k : Int) + 1), .int .i64 (0)] 57
  have r0 : (W.alloc (.cells #[.int .i64 ((k : Int)), .int .i64 ((k : Int) + 1), .int .i64 (0)] 57)).cell? ⟨W.heap.size, 0, none⟩ = some (.int .i64 ((k : Int))) := hB.cell rfl
  have r1 : (W.alloc (.cells #[.int .i64 ((k : Int)), .int .i64 ((k : Int) + 1), .int .i64 (0)] 57)).cell? ⟨W.heap.size, 1, none⟩ = some (.int .i64 ((k : Int) + 1)) := hB.cell rfl
  have r2 : (W.alloc (.cells #[.int .i64 ((k : Int)), .int .i64 ((k : Int) + 1), .int .i64 (0)] 57)).cell? ⟨W.heap.size, 2, none⟩ = some (.int .i64 (0)) := hB.cell rfl
  refine bodyPost_ret (v := .agg #[.int .i64 ((k : Int)), .int .i64 ((k : Int) + 1), .int .i64 (0)]) (by simp [results, Try.results52, go_sem, r0, r1, r2]) rfl ⟨?_, (Ext.refl W).alloc _⟩
  rfl
theorem place_4 (n k : Nat) (W : World) (hk : k ≤ 1000) : Calls Try.prog 53 #[.int .i64 (k : Int)] W fun e w' => e = .returned (p3V (shpP 4 n k)) ∧ Ext W w' := by
  go_enter Try.func53, Try.ntmps53
  go_wp2
  have hB := Blk.new W #[.int .i64 (3 * (k : Int)), .int .i64 (3 * (k : Int) + 1), .int .i64 (3 * (k : Int) + 2)] 57
  have r0 : (W.alloc (.cells #[.int .i64 (3 * (k : Int)), .int .i64 (3 * (k : Int) + 1), .int .i64 (3 * (k : Int) + 2)] 57)).cell? ⟨W.heap.size, 0, none⟩ = some (.int .i64 (3 * (k : Int))) := hB.cell rfl
  have r1 : (W.alloc (.cells #[.int .i64 (3 * (k : Int)), .int .i64 (3 * (k : Int) + 1), .int .i64 (3 * (k : Int) + 2)] 57)).cell? ⟨W.heap.size, 1, none⟩ = some (.int .i64 (3 * (k : Int) + 1)) := hB.cell rfl
  have r2 : (W.alloc (.cells #[.int .i64 (3 * (k : Int)), .int .i64 (3 * (k : Int) + 1), .int .i64 (3 * (k : Int) + 2)] 57)).cell? ⟨W.heap.size, 2, none⟩ = some (.int .i64 (3 * (k : Int) + 2)) := hB.cell rfl
  refine bodyPost_ret (v := .agg #[.int .i64 (3 * (k : Int)), .int .i64 (3 * (k : Int) + 1), .int .i64 (3 * (k : Int) + 2)]) (by simp [results, Try.results53, go_sem, r0, r1, r2]) rfl ⟨?_, (Ext.refl W).alloc _⟩
  rfl
theorem place_6 (n k : Nat) (W : World) (hk : k ≤ 1000) : Calls Try.prog 55 #[.int .i64 (k : Int)] W fun e w' => e = .returned (p3V (shpP 6 n k)) ∧ Ext W w' := by
  go_enter Try.func55, Try.ntmps55
  go_wp2
  have hB := Blk.new W #[.int .i64 (0), .int .i64 ((k : Int) + 1), .int .i64 ((k : Int) + 2)] 57
  have r0 : (W.alloc (.cells #[.int .i64 (0), .int .i64 ((k : Int) + 1), .int .i64 ((k : Int) + 2)] 57)).cell? ⟨W.heap.size, 0, none⟩ = some (.int .i64 (0)) := hB.cell rfl
  have r1 : (W.alloc (.cells #[.int .i64 (0), .int .i64 ((k : Int) + 1), .int .i64 ((k : Int) + 2)] 57)).cell? ⟨W.heap.size, 1, none⟩ = some (.int .i64 ((k : Int) + 1)) := hB.cell rfl
  have r2 : (W.alloc (.cells #[.int .i64 (0), .int .i64 ((k : Int) + 1), .int .i64 ((k : Int) + 2)] 57)).cell? ⟨W.heap.size, 2, none⟩ = some (.int .i64 ((k : Int) + 2)) := hB.cell rfl
  refine bodyPost_ret (v := .agg #[.int .i64 (0), .int .i64 ((k : Int) + 1), .int .i64 ((k : Int) + 2)]) (by simp [results, Try.results55, go_sem, r0, r1, r2]) rfl ⟨?_, (Ext.refl W).alloc _⟩
  rfl
theorem place_2 (n k bx : Nat) (W : World) (hk : k ≤ 1000) (hn : n ≤ 1000) (h2 : 2 ≤ n) (hB : Blk W bx #[.int .i64 (n : Int)] 3) : Calls Try.prog 51 #[.int .i64 (k : Int), .pointer (some ⟨bx, 0, none⟩)] W fun e w' => e = .returned (p3V (shpP 2 n k)) ∧ Ext W w' := by
  have c0 : ∀ o, (W.alloc o).cell? ⟨bx, 0, none⟩ = some (.int .i64 (n : Int)) := fun o => (hB.alloc o).cell rfl
  have hn0 : ((n : Int) == 0) = false := by simp; omega
  have h2' : (2 : Int) ≤ (n : Int) := by omega
  clear hB
  go_enter Try.func51, Try.ntmps51
  go_wp2
  have hB := Blk.new W #[.int .i64 ((k : Int)), .int .i64 (((k : Int) + 1) % (n : Int)), .int .i64 (0)] 57
  have r0 : (W.alloc (.cells #[.int .i64 ((k : Int)), .int .i64 (((k : Int) + 1) % (n : Int)), .int .i64 (0)] 57)).cell? ⟨W.heap.size, 0, none⟩ = some (.int .i64 ((k : Int))) := hB.cell rfl
  have r1 : (W.alloc (.cells #[.int .i64 ((k : Int)), .int .i64 (((k : Int) + 1) % (n : Int)), .int .i64 (0)] 57)).cell? ⟨W.heap.size, 1, none⟩ = some (.int .i64 (((k : Int) + 1) % (n : Int))) := hB.cell rfl
  have r2 : (W.alloc (.cells #[.int .i64 ((k : Int)), .int .i64 (((k : Int) + 1) % (n : Int)), .int .i64 (0)] 57)).cell? ⟨W.heap.size, 2, none⟩ = some (.int .i64 (0)) := hB.cell rfl
  refine bodyPost_ret (v := .agg #[.int .i64 ((k : Int)), .int .i64 (((k : Int) + 1) % (n : Int)), .int .i64 (0)]) (by simp [results, Try.results51, go_sem, r0, r1, r2]) rfl ⟨?_, (Ext.refl W).alloc _⟩
  rfl
theorem place_5 (n k : Nat) (W : World) (hk : k ≤ 1000) : Calls Try.prog 54 #[.int .i64 (k : Int)] W fun e w' => e = .returned (p3V (shpP 5 n k)) ∧ Ext W w' := by
  by_cases h : k % 2 = 0
  · have d : ((k : Int) % 2 == 0) = true := by simp; omega
    go_enter Try.func54, Try.ntmps54
    go_wp2
    have hB := Blk.new W #[.int .i64 ((k : Int)), .int .i64 ((k : Int) + 1), .int .i64 ((k : Int) + 2)] 57
    have r0 : (W.alloc (.cells #[.int .i64 ((k : Int)), .int .i64 ((k : Int) + 1), .int .i64 ((k : Int) + 2)] 57)).cell? ⟨W.heap.size, 0, none⟩ = some (.int .i64 ((k : Int))) := hB.cell rfl
    have r1 : (W.alloc (.cells #[.int .i64 ((k : Int)), .int .i64 ((k : Int) + 1), .int .i64 ((k : Int) + 2)] 57)).cell? ⟨W.heap.size, 1, none⟩ = some (.int .i64 ((k : Int) + 1)) := hB.cell rfl
    have r2 : (W.alloc (.cells #[.int .i64 ((k : Int)), .int .i64 ((k : Int) + 1), .int .i64 ((k : Int) + 2)] 57)).cell? ⟨W.heap.size, 2, none⟩ = some (.int .i64 ((k : Int) + 2)) := hB.cell rfl
    refine bodyPost_ret (v := .agg #[.int .i64 ((k : Int)), .int .i64 ((k : Int) + 1), .int .i64 ((k : Int) + 2)]) (by simp [results, Try.results54, go_sem, r0, r1, r2]) rfl ⟨?_, (Ext.refl W).alloc _⟩
    have e : shpP 5 n k = fun j => if j = 0 then (k : Int) else if j = 1 then (k : Int) + 1 else (k : Int) + 2 := by
      show (if k % 2 = 0 then _ else _) = _
      rw [if_pos h]
    rw [e]
    rfl
  · have d : ((k : Int) % 2 == 0) = false := by simp; omega
    go_enter Try.func54, Try.ntmps54
    go_wp2
    have hB := Blk.new W #[.int .i64 ((k : Int) + 1), .int .i64 ((k : Int)), .int .i64 ((k : Int) + 2)] 57
    have r0 : (W.alloc (.cells #[.int .i64 ((k : Int) + 1), .int .i64 ((k : Int)), .int .i64 ((k : Int) + 2)] 57)).cell? ⟨W.heap.size, 0, none⟩ = some (.int .i64 ((k : Int) + 1)) := hB.cell rfl
    have r1 : (W.alloc (.cells #[.int .i64 ((k : Int) + 1), .int .i64 ((k : Int)), .int .i64 ((k : Int) + 2)] 57)).cell? ⟨W.heap.size, 1, none⟩ = some (.int .i64 ((k : Int))) := hB.cell rfl
    have r2 : (W.alloc (.cells #[.int .i64 ((k : Int) + 1), .int .i64 ((k : Int)), .int .i64 ((k : Int) + 2)] 57)).cell? ⟨W.heap.size, 2, none⟩ = some (.int .i64 ((k : Int) + 2)) := hB.cell rfl
    refine bodyPost_ret (v := .agg #[.int .i64 ((k : Int) + 1), .int .i64 ((k : Int)), .int .i64 ((k : Int) + 2)]) (by simp [results, Try.results54, go_sem, r0, r1, r2]) rfl ⟨?_, (Ext.refl W).alloc _⟩
    have e : shpP 5 n k = fun j => if j = 0 then (k : Int) + 1 else if j = 1 then (k : Int) else (k : Int) + 2 := by
      show (if k % 2 = 0 then _ else _) = _
      rw [if_neg h]
    rw [e]
    rfl

/-- What shapeOf answers. -/
def ShQ (w : World) (m : Int) (n : Nat) (e : Ending) (w' : World) : Prop :=
  ∃ fv, e = .returned (.tuple #[.agg #[.int .i64 (shpC m n : Int), .int .i64 (shpN m n), fv], .bool true]) ∧ (fv = .nilFunc ∨ ∃ g lb, fv = .func (.func g) #[] lb) ∧ PlQ w' fv m n ∧ Ext w w'
theorem plq_of {w : World} {m : Int} {n : Nat} {g : FuncId} (eg : ∀ args w, (callFunc g args).run Try.prog w = .ok (.enter g args) w) (hn : shpN m n ≤ 1000)
    (h : ∀ (k : Nat) (W : World), k ≤ 1000 → Calls Try.prog g #[.int .i64 (k : Int)] W fun e w' => e = .returned (p3V (shpP m n k)) ∧ Ext W w') : PlQ w (.func (.func g) #[] #[]) m n :=
  .inr ⟨g, #[], rfl, eg, fun W k _ hk => h k W (by omega)⟩
set_option maxHeartbeats 1000000 in
theorem shapeOf_any (m : Int) (n : Nat) (w : World) (hm : modB m = true) (hn : n ≤ 257) :
    Calls Try.prog 29 #[.int .i64 m, .int .i64 (n : Int)] w (ShQ w m n) := by
  rcases mod_cases hm with rfl | rfl | rfl | rfl | rfl | rfl | rfl
  · go_enter Try.func29, Try.ntmps29
    go_wp2
    have hB : Blk ((w.alloc (.cells #[.int .i64 (n : Int)] 3)).alloc (.cells #[.int .i64 1, .int .i64 ((n : Int)), .func (.func 49) #[] #[]] 74)) (w.heap.size + 1) #[.int .i64 1, .int .i64 ((n : Int)), .func (.func 49) #[] #[]] 74 := Blk.at (by simp)
    have r0 : ((w.alloc (.cells #[.int .i64 (n : Int)] 3)).alloc (.cells #[.int .i64 1, .int .i64 ((n : Int)), .func (.func 49) #[] #[]] 74)).cell? ⟨w.heap.size + 1, 0, none⟩ = some (.int .i64 1) := hB.cell rfl
    have r1 : ((w.alloc (.cells #[.int .i64 (n : Int)] 3)).alloc (.cells #[.int .i64 1, .int .i64 ((n : Int)), .func (.func 49) #[] #[]] 74)).cell? ⟨w.heap.size + 1, 1, none⟩ = some (.int .i64 ((n : Int))) := hB.cell rfl
    have r2 : ((w.alloc (.cells #[.int .i64 (n : Int)] 3)).alloc (.cells #[.int .i64 1, .int .i64 ((n : Int)), .func (.func 49) #[] #[]] 74)).cell? ⟨w.heap.size + 1, 2, none⟩ = some (.func (.func 49) #[] #[]) := hB.cell rfl
    refine bodyPost_ret (v := .tuple #[.agg #[.int .i64 1, .int .i64 ((n : Int)), .func (.func 49) #[] #[]], .bool true]) (by simp [results, Try.results29, go_sem, r0, r1, r2]) rfl ⟨_, rfl, ?_, ?_, ((Ext.refl w).alloc _).alloc _⟩
    · exact .inr ⟨_, _, rfl⟩
    · exact plq_of (enters_of Try.func49 (by kernel_rfl) rfl) (by show (n : Int) ≤ 1000; omega) (fun k W hk => place_0 n k W hk)
  · go_enter Try.func29, Try.ntmps29
    go_wp2
    have hB : Blk ((w.alloc (.cells #[.int .i64 (n : Int)] 3)).alloc (.cells #[.int .i64 2, .int .i64 ((n : Int) / 2), .func (.func 50) #[] #[]] 74)) (w.heap.size + 1) #[.int .i64 2, .int .i64 ((n : Int) / 2), .func (.func 50) #[] #[]] 74 := Blk.at (by simp)
    have r0 : ((w.alloc (.cells #[.int .i64 (n : Int)] 3)).alloc (.cells #[.int .i64 2, .int .i64 ((n : Int) / 2), .func (.func 50) #[] #[]] 74)).cell? ⟨w.heap.size + 1, 0, none⟩ = some (.int .i64 2) := hB.cell rfl
    have r1 : ((w.alloc (.cells #[.int .i64 (n : Int)] 3)).alloc (.cells #[.int .i64 2, .int .i64 ((n : Int) / 2), .func (.func 50) #[] #[]] 74)).cell? ⟨w.heap.size + 1, 1, none⟩ = some (.int .i64 ((n : Int) / 2)) := hB.cell rfl
    have r2 : ((w.alloc (.cells #[.int .i64 (n : Int)] 3)).alloc (.cells #[.int .i64 2, .int .i64 ((n : Int) / 2), .func (.func 50) #[] #[]] 74)).cell? ⟨w.heap.size + 1, 2, none⟩ = some (.func (.func 50) #[] #[]) := hB.cell rfl
    refine bodyPost_ret (v := .tuple #[.agg #[.int .i64 2, .int .i64 ((n : Int) / 2), .func (.func 50) #[] #[]], .bool true]) (by simp [results, Try.results29, go_sem, r0, r1, r2]) rfl ⟨_, rfl, ?_, ?_, ((Ext.refl w).alloc _).alloc _⟩
    · exact .inr ⟨_, _, rfl⟩
    · exact plq_of (enters_of Try.func50 (by kernel_rfl) rfl) (by show (n : Int) / 2 ≤ 1000; omega) (fun k W hk => place_1 n k W hk)
  · by_cases h2 : n < 2
    · have h2' : (n : Int) < 2 := by omega
      have e1 : shpC 2 n = 0 := by show (if n < 2 then 0 else 2) = 0; rw [if_pos h2]
      have e2 : shpN 2 n = 0 := by show (if n < 2 then (0 : Int) else n) = 0; rw [if_pos h2]
      unfold ShQ
      rw [e1, e2]
      go_enter Try.func29, Try.ntmps29
      go_wp2
      have hB : Blk ((w.alloc (.cells #[.int .i64 (n : Int)] 3)).alloc (.cells #[.int .i64 ((0 : Nat) : Int), .int .i64 (0), .nilFunc] 74)) (w.heap.size + 1) #[.int .i64 ((0 : Nat) : Int), .int .i64 (0), .nilFunc] 74 := Blk.at (by simp)
      have r0 : ((w.alloc (.cells #[.int .i64 (n : Int)] 3)).alloc (.cells #[.int .i64 ((0 : Nat) : Int), .int .i64 (0), .nilFunc] 74)).cell? ⟨w.heap.size + 1, 0, none⟩ = some (.int .i64 ((0 : Nat) : Int)) := hB.cell rfl
      have r1 : ((w.alloc (.cells #[.int .i64 (n : Int)] 3)).alloc (.cells #[.int .i64 ((0 : Nat) : Int), .int .i64 (0), .nilFunc] 74)).cell? ⟨w.heap.size + 1, 1, none⟩ = some (.int .i64 (0)) := hB.cell rfl
      have r2 : ((w.alloc (.cells #[.int .i64 (n : Int)] 3)).alloc (.cells #[.int .i64 ((0 : Nat) : Int), .int .i64 (0), .nilFunc] 74)).cell? ⟨w.heap.size + 1, 2, none⟩ = some (.nilFunc) := hB.cell rfl
      refine bodyPost_ret (v := .tuple #[.agg #[.int .i64 ((0 : Nat) : Int), .int .i64 (0), .nilFunc], .bool true]) (by simp [results, Try.results29, go_sem, r0, r1, r2]) rfl ⟨_, rfl, ?_, ?_, ((Ext.refl w).alloc _).alloc _⟩
      · exact .inl rfl
      · exact .inl ⟨rfl, e2⟩
    · have h2' : ¬ (n : Int) < 2 := by omega
      have e1 : shpC 2 n = 2 := by show (if n < 2 then 0 else 2) = 2; rw [if_neg h2]
      have e2 : shpN 2 n = n := by show (if n < 2 then (0 : Int) else n) = n; rw [if_neg h2]
      unfold ShQ
      rw [e1, e2]
      go_enter Try.func29, Try.ntmps29
      go_wp2
      have hB : Blk ((w.alloc (.cells #[.int .i64 (n : Int)] 3)).alloc (.cells #[.int .i64 ((2 : Nat) : Int), .int .i64 ((n : Int)), .func (.func 51) #[] #[.pointer (some ⟨w.heap.size, 0, none⟩)]] 74)) (w.heap.size + 1) #[.int .i64 ((2 : Nat) : Int), .int .i64 ((n : Int)), .func (.func 51) #[] #[.pointer (some ⟨w.heap.size, 0, none⟩)]] 74 := Blk.at (by simp)
      have r0 : ((w.alloc (.cells #[.int .i64 (n : Int)] 3)).alloc (.cells #[.int .i64 ((2 : Nat) : Int), .int .i64 ((n : Int)), .func (.func 51) #[] #[.pointer (some ⟨w.heap.size, 0, none⟩)]] 74)).cell? ⟨w.heap.size + 1, 0, none⟩ = some (.int .i64 ((2 : Nat) : Int)) := hB.cell rfl
      have r1 : ((w.alloc (.cells #[.int .i64 (n : Int)] 3)).alloc (.cells #[.int .i64 ((2 : Nat) : Int), .int .i64 ((n : Int)), .func (.func 51) #[] #[.pointer (some ⟨w.heap.size, 0, none⟩)]] 74)).cell? ⟨w.heap.size + 1, 1, none⟩ = some (.int .i64 ((n : Int))) := hB.cell rfl
      have r2 : ((w.alloc (.cells #[.int .i64 (n : Int)] 3)).alloc (.cells #[.int .i64 ((2 : Nat) : Int), .int .i64 ((n : Int)), .func (.func 51) #[] #[.pointer (some ⟨w.heap.size, 0, none⟩)]] 74)).cell? ⟨w.heap.size + 1, 2, none⟩ = some (.func (.func 51) #[] #[.pointer (some ⟨w.heap.size, 0, none⟩)]) := hB.cell rfl
      refine bodyPost_ret (v := .tuple #[.agg #[.int .i64 ((2 : Nat) : Int), .int .i64 ((n : Int)), .func (.func 51) #[] #[.pointer (some ⟨w.heap.size, 0, none⟩)]], .bool true]) (by simp [results, Try.results29, go_sem, r0, r1, r2]) rfl ⟨_, rfl, ?_, ?_, ((Ext.refl w).alloc _).alloc _⟩
      · exact .inr ⟨_, _, rfl⟩
      · refine .inr ⟨_, _, rfl, enters_of Try.func51 (by kernel_rfl) rfl, fun W k hag hk => ?_⟩
        rw [e2] at hk
        exact place_2 n k w.heap.size W (by omega) (by omega) (by omega) (hag.blk ((Blk.new w _ _).alloc _))
  · go_enter Try.func29, Try.ntmps29
    go_wp2
    have hB : Blk ((w.alloc (.cells #[.int .i64 (n : Int)] 3)).alloc (.cells #[.int .i64 2, .int .i64 ((n : Int) - 1), .func (.func 52) #[] #[]] 74)) (w.heap.size + 1) #[.int .i64 2, .int .i64 ((n : Int) - 1), .func (.func 52) #[] #[]] 74 := Blk.at (by simp)
    have r0 : ((w.alloc (.cells #[.int .i64 (n : Int)] 3)).alloc (.cells #[.int .i64 2, .int .i64 ((n : Int) - 1), .func (.func 52) #[] #[]] 74)).cell? ⟨w.heap.size + 1, 0, none⟩ = some (.int .i64 2) := hB.cell rfl
    have r1 : ((w.alloc (.cells #[.int .i64 (n : Int)] 3)).alloc (.cells #[.int .i64 2, .int .i64 ((n : Int) - 1), .func (.func 52) #[] #[]] 74)).cell? ⟨w.heap.size + 1, 1, none⟩ = some (.int .i64 ((n : Int) - 1)) := hB.cell rfl
    have r2 : ((w.alloc (.cells #[.int .i64 (n : Int)] 3)).alloc (.cells #[.int .i64 2, .int .i64 ((n : Int) - 1), .func (.func 52) #[] #[]] 74)).cell? ⟨w.heap.size + 1, 2, none⟩ = some (.func (.func 52) #[] #[]) := hB.cell rfl
    refine bodyPost_ret (v := .tuple #[.agg #[.int .i64 2, .int .i64 ((n : Int) - 1), .func (.func 52) #[] #[]], .bool true]) (by simp [results, Try.results29, go_sem, r0, r1, r2]) rfl ⟨_, rfl, ?_, ?_, ((Ext.refl w).alloc _).alloc _⟩
    · exact .inr ⟨_, _, rfl⟩
    · exact plq_of (enters_of Try.func52 (by kernel_rfl) rfl) (by show (n : Int) - 1 ≤ 1000; omega) (fun k W hk => place_3 n k W hk)
  · go_enter Try.func29, Try.ntmps29
    go_wp2
    have hB : Blk ((w.alloc (.cells #[.int .i64 (n : Int)] 3)).alloc (.cells #[.int .i64 3, .int .i64 ((n : Int) / 3), .func (.func 53) #[] #[]] 74)) (w.heap.size + 1) #[.int .i64 3, .int .i64 ((n : Int) / 3), .func (.func 53) #[] #[]] 74 := Blk.at (by simp)
    have r0 : ((w.alloc (.cells #[.int .i64 (n : Int)] 3)).alloc (.cells #[.int .i64 3, .int .i64 ((n : Int) / 3), .func (.func 53) #[] #[]] 74)).cell? ⟨w.heap.size + 1, 0, none⟩ = some (.int .i64 3) := hB.cell rfl
    have r1 : ((w.alloc (.cells #[.int .i64 (n : Int)] 3)).alloc (.cells #[.int .i64 3, .int .i64 ((n : Int) / 3), .func (.func 53) #[] #[]] 74)).cell? ⟨w.heap.size + 1, 1, none⟩ = some (.int .i64 ((n : Int) / 3)) := hB.cell rfl
    have r2 : ((w.alloc (.cells #[.int .i64 (n : Int)] 3)).alloc (.cells #[.int .i64 3, .int .i64 ((n : Int) / 3), .func (.func 53) #[] #[]] 74)).cell? ⟨w.heap.size + 1, 2, none⟩ = some (.func (.func 53) #[] #[]) := hB.cell rfl
    refine bodyPost_ret (v := .tuple #[.agg #[.int .i64 3, .int .i64 ((n : Int) / 3), .func (.func 53) #[] #[]], .bool true]) (by simp [results, Try.results29, go_sem, r0, r1, r2]) rfl ⟨_, rfl, ?_, ?_, ((Ext.refl w).alloc _).alloc _⟩
    · exact .inr ⟨_, _, rfl⟩
    · exact plq_of (enters_of Try.func53 (by kernel_rfl) rfl) (by show (n : Int) / 3 ≤ 1000; omega) (fun k W hk => place_4 n k W hk)
  · go_enter Try.func29, Try.ntmps29
    go_wp2
    have hB : Blk ((w.alloc (.cells #[.int .i64 (n : Int)] 3)).alloc (.cells #[.int .i64 3, .int .i64 ((n : Int) - 2), .func (.func 54) #[] #[]] 74)) (w.heap.size + 1) #[.int .i64 3, .int .i64 ((n : Int) - 2), .func (.func 54) #[] #[]] 74 := Blk.at (by simp)
    have r0 : ((w.alloc (.cells #[.int .i64 (n : Int)] 3)).alloc (.cells #[.int .i64 3, .int .i64 ((n : Int) - 2), .func (.func 54) #[] #[]] 74)).cell? ⟨w.heap.size + 1, 0, none⟩ = some (.int .i64 3) := hB.cell rfl
    have r1 : ((w.alloc (.cells #[.int .i64 (n : Int)] 3)).alloc (.cells #[.int .i64 3, .int .i64 ((n : Int) - 2), .func (.func 54) #[] #[]] 74)).cell? ⟨w.heap.size + 1, 1, none⟩ = some (.int .i64 ((n : Int) - 2)) := hB.cell rfl
    have r2 : ((w.alloc (.cells #[.int .i64 (n : Int)] 3)).alloc (.cells #[.int .i64 3, .int .i64 ((n : Int) - 2), .func (.func 54) #[] #[]] 74)).cell? ⟨w.heap.size + 1, 2, none⟩ = some (.func (.func 54) #[] #[]) := hB.cell rfl
    refine bodyPost_ret (v := .tuple #[.agg #[.int .i64 3, .int .i64 ((n : Int) - 2), .func (.func 54) #[] #[]], .bool true]) (by simp [results, Try.results29, go_sem, r0, r1, r2]) rfl ⟨_, rfl, ?_, ?_, ((Ext.refl w).alloc _).alloc _⟩
    · exact .inr ⟨_, _, rfl⟩
    · exact plq_of (enters_of Try.func54 (by kernel_rfl) rfl) (by show (n : Int) - 2 ≤ 1000; omega) (fun k W hk => place_5 n k W hk)
  · go_enter Try.func29, Try.ntmps29
    go_wp2
    have hB : Blk ((w.alloc (.cells #[.int .i64 (n : Int)] 3)).alloc (.cells #[.int .i64 3, .int .i64 ((n : Int) - 2), .func (.func 55) #[] #[]] 74)) (w.heap.size + 1) #[.int .i64 3, .int .i64 ((n : Int) - 2), .func (.func 55) #[] #[]] 74 := Blk.at (by simp)
    have r0 : ((w.alloc (.cells #[.int .i64 (n : Int)] 3)).alloc (.cells #[.int .i64 3, .int .i64 ((n : Int) - 2), .func (.func 55) #[] #[]] 74)).cell? ⟨w.heap.size + 1, 0, none⟩ = some (.int .i64 3) := hB.cell rfl
    have r1 : ((w.alloc (.cells #[.int .i64 (n : Int)] 3)).alloc (.cells #[.int .i64 3, .int .i64 ((n : Int) - 2), .func (.func 55) #[] #[]] 74)).cell? ⟨w.heap.size + 1, 1, none⟩ = some (.int .i64 ((n : Int) - 2)) := hB.cell rfl
    have r2 : ((w.alloc (.cells #[.int .i64 (n : Int)] 3)).alloc (.cells #[.int .i64 3, .int .i64 ((n : Int) - 2), .func (.func 55) #[] #[]] 74)).cell? ⟨w.heap.size + 1, 2, none⟩ = some (.func (.func 55) #[] #[]) := hB.cell rfl
    refine bodyPost_ret (v := .tuple #[.agg #[.int .i64 3, .int .i64 ((n : Int) - 2), .func (.func 55) #[] #[]], .bool true]) (by simp [results, Try.results29, go_sem, r0, r1, r2]) rfl ⟨_, rfl, ?_, ?_, ((Ext.refl w).alloc _).alloc _⟩
    · exact .inr ⟨_, _, rfl⟩
    · exact plq_of (enters_of Try.func55 (by kernel_rfl) rfl) (by show (n : Int) - 2 ≤ 1000; omega) (fun k W hk => place_6 n k W hk)
theorem shapeOf_no (m : Int) (n : Nat) (w : World) (hm : modB m = false) (hn : n ≤ 257) :
    Calls Try.prog 29 #[.int .i64 m, .int .i64 (n : Int)] w fun e w' => e = .returned (.tuple #[.agg #[.int .i64 0, .int .i64 0, .nilFunc], .bool false]) ∧ Ext w w' := by
  have h := of_decide_eq_false hm
  have d0 : (m == 0) = false := by simp; omega
  have d1 : (m == 1) = false := by simp; omega
  have d2 : (m == 2) = false := by simp; omega
  have d3 : (m == 3) = false := by simp; omega
  have d4 : (m == 4) = false := by simp; omega
  have d5 : (m == 5) = false := by simp; omega
  have d6 : (m == 6) = false := by simp; omega
  clear hm h
  go_enter Try.func29, Try.ntmps29
  go_wp2
  have hB : Blk ((w.alloc (.cells #[.int .i64 (n : Int)] 3)).alloc (.cells #[.int .i64 0, .int .i64 0, .nilFunc] 74)) (w.heap.size + 1) #[.int .i64 0, .int .i64 0, .nilFunc] 74 := Blk.at (by simp)
  have r0 : ((w.alloc (.cells #[.int .i64 (n : Int)] 3)).alloc (.cells #[.int .i64 0, .int .i64 0, .nilFunc] 74)).cell? ⟨w.heap.size + 1, 0, none⟩ = some (.int .i64 0) := hB.cell rfl
  have r1 : ((w.alloc (.cells #[.int .i64 (n : Int)] 3)).alloc (.cells #[.int .i64 0, .int .i64 0, .nilFunc] 74)).cell? ⟨w.heap.size + 1, 1, none⟩ = some (.int .i64 0) := hB.cell rfl
  have r2 : ((w.alloc (.cells #[.int .i64 (n : Int)] 3)).alloc (.cells #[.int .i64 0, .int .i64 0, .nilFunc] 74)).cell? ⟨w.heap.size + 1, 2, none⟩ = some (.nilFunc) := hB.cell rfl
  refine bodyPost_ret (v := .tuple #[.agg #[.int .i64 0, .int .i64 0, .nilFunc], .bool false]) (by simp [results, Try.results29, go_sem, r0, r1, r2]) rfl ⟨rfl, ((Ext.refl w).alloc _).alloc _⟩
theorem shall_any (c n : Int) (fv : Value) (w : World) (hf : fv = .nilFunc ∨ ∃ g lb, fv = .func (.func g) #[] lb) :
    Calls Try.prog 30 #[.agg #[.int .i64 c, .int .i64 n, fv]] w fun e w' => e = .returned (.func (.func 56) #[] #[.pointer (some ⟨w.heap.size, 0, none⟩)]) ∧ w' = w.alloc (.cells #[.int .i64 c, .int .i64 n, fv] 74) := by
  go_enter Try.func30, Try.ntmps30
  go_wp2
  go_ret
  exact ⟨rfl, rfl⟩
end Go.Proofs.Ytmigakbccmkjoaa
