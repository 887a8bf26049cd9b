/-
  Vectors: 'each', for whatever function value it is handed: it answers the numbers that the function gives for the places 0 to n - 1, then 0; or ErrArg where n is not from 1 to 4.
-/
import Derived.Test.YtbhdloanlagddaaVH
import Derived.Test.YtbhdloanlagddaaFxB
import Derived.Test.YtbhdloanlagddaaBlk
import Derived.BigQuiet
import Derived.Deep.RegionHeld3
import Derived.Shelf.Abstract
import Derived.Laws.EntriesVeiled
namespace Go.Proofs.Ytbhdloanlagddaa
open Go.RowKit

/-- The first n numbers of f, then 0. -/
def cut (n : Int) (f : Nat → Int) : Nat → Int := fun i => if (i : Int) < n then f i else 0

theorem cut_set (f : Nat → Int) (k : Nat) (hk : k < 4) : (#[.int .i32 (cut k f 0), .int .i32 (cut k f 1), .int .i32 (cut k f 2), .int .i32 (cut k f 3)] : Array Value).setIfInBounds k (.int .i32 (f k)) = #[.int .i32 (cut ((k : Int) + 1) f 0), .int .i32 (cut ((k : Int) + 1) f 1), .int .i32 (cut ((k : Int) + 1) f 2), .int .i32 (cut ((k : Int) + 1) f 3)] := by
  rcases (by omega : k = 0 ∨ k = 1 ∨ k = 2 ∨ k = 3) with rfl | rfl | rfl | rfl <;> simp [cut]
theorem cut_zero (f : Nat → Int) (i : Nat) : cut (0 : Nat) f i = 0 := by simp [cut]; omega
theorem cut_i32 {f : Nat → Int} {n : Int} (h : ∀ i, I32 (f i)) (i : Nat) : I32 (cut n f i) := by
  unfold cut
  split
  · exact h i
  · unfold I32; omega
theorem cut_congr {f g : Nat → Int} {n : Int} (h : ∀ i : Nat, (i : Int) < n → f i = g i) : cut n f = cut n g := by
  funext i
  unfold cut
  split
  · exact h i (by assumption)
  · rfl
theorem vec_at (f : Nat → Int) (k : Nat) (hk : k < 4) : (#[.int .i32 (f 0), .int .i32 (f 1), .int .i32 (f 2), .int .i32 (f 3)] : Array Value)[k]? = some (.int .i32 (f k)) := by
  rcases (by omega : k = 0 ∨ k = 1 ∨ k = 2 ∨ k = 3) with rfl | rfl | rfl | rfl <;> rfl



theorem Blk.free4 {w : World} {b : Nat} {cs : Array Value} {t : TypeId} (h : Blk w b cs t) : w.frozen? ⟨b, 0, none⟩ = false ∧ w.frozen? ⟨b, 1, none⟩ = false ∧ w.frozen? ⟨b, 2, none⟩ = false ∧ w.frozen? ⟨b, 3, none⟩ = false :=
  ⟨h.free 0, h.free 1, h.free 2, h.free 3⟩
theorem ext_set4 {w w1 : World} {b : Nat} {x0 x1 x2 x3 : Value} (h : Ext w w1) (hb : w.heap.size ≤ b) : Ext w ((((w1.setCell ⟨b, 0, none⟩ x0).setCell ⟨b, 1, none⟩ x1).setCell ⟨b, 2, none⟩ x2).setCell ⟨b, 3, none⟩ x3) :=
  ext_set (ext_set (ext_set (ext_set h hb) hb) hb) hb

/-- Four numbers laid into block b: what its cells hold, store by store. -/
theorem lay4 {w : World} {b : Nat} {a : Nat → Int} {t : TypeId} (h : Blk w b #[.int .i32 (a 0), .int .i32 (a 1), .int .i32 (a 2), .int .i32 (a 3)] t) (x0 x1 x2 x3 : Value) :
    (w.setCell ⟨b, 0, none⟩ x0).cell? ⟨b, 0, none⟩ = some x0 ∧ ((w.setCell ⟨b, 0, none⟩ x0).setCell ⟨b, 1, none⟩ x1).cell? ⟨b, 1, none⟩ = some x1 ∧
    (((w.setCell ⟨b, 0, none⟩ x0).setCell ⟨b, 1, none⟩ x1).setCell ⟨b, 2, none⟩ x2).cell? ⟨b, 2, none⟩ = some x2 ∧
    ((((w.setCell ⟨b, 0, none⟩ x0).setCell ⟨b, 1, none⟩ x1).setCell ⟨b, 2, none⟩ x2).setCell ⟨b, 3, none⟩ x3).cell? ⟨b, 3, none⟩ = some x3 :=
  ⟨(h.set 0 x0).cell rfl, ((h.set 0 x0).set 1 x1).cell rfl, (((h.set 0 x0).set 1 x1).set 2 x2).cell rfl, ((((h.set 0 x0).set 1 x1).set 2 x2).set 3 x3).cell rfl⟩

set_option maxHeartbeats 1000000 in
theorem each_any (n : Int) (g : FuncId) (lb : Array Value) (f : Nat → Int) (w : World) (h1 : 1 ≤ n) (h4 : n ≤ 4)
    (eg : ∀ args w, (callFunc g args).run Try.prog w = .ok (.enter g args) w)
    (hf : ∀ (i : Nat) (W : World), i < 4 → (i : Int) < n → Ext w W → Calls Try.prog g (#[.int .i64 i] ++ lb) W fun e w' => e = .returned (.int .i32 (f i)) ∧ Ext W w') :
    Calls Try.prog 68 #[.int .i64 n, .func (.func g) #[] lb] w fun e w' => e = .returned (.tuple #[.agg #[.int .i32 (cut n f 0), .int .i32 (cut n f 1), .int .i32 (cut n f 2), .int .i32 (cut n f 3)], .int .i64 0]) ∧ Ext w w' := by
  have HF := hide hf
  clear hf
  have B0 : Hid (Blk ((w.alloc (.cells #[.int .i32 0, .int .i32 0, .int .i32 0, .int .i32 0] 26)).alloc (.cells #[.int .i32 0, .int .i32 0, .int .i32 0, .int .i32 0] 26)) w.heap.size #[.int .i32 (nul 0), .int .i32 (nul 1), .int .i32 (nul 2), .int .i32 (nul 3)] 26) := (Blk.new w _ _).alloc _
  have B1 : Hid (Blk ((w.alloc (.cells #[.int .i32 0, .int .i32 0, .int .i32 0, .int .i32 0] 26)).alloc (.cells #[.int .i32 0, .int .i32 0, .int .i32 0, .int .i32 0] 26)) (w.heap.size + 1) #[.int .i32 (nul 0), .int .i32 (nul 1), .int .i32 (nul 2), .int .i32 (nul 3)] 26) := by
    have := Blk.new (w.alloc (.cells #[.int .i32 0, .int .i32 0, .int .i32 0, .int .i32 0] 26)) #[.int .i32 0, .int .i32 0, .int .i32 0, .int .i32 0] 26
    rwa [show (w.alloc (.cells #[.int .i32 0, .int .i32 0, .int .i32 0, .int .i32 0] 26)).heap.size = w.heap.size + 1 by simp] at this
  have d1 : decide (n < 1) = false := by simp; omega
  have d4 : decide (4 < n) = false := by simp; omega
  go_enter Try.func68, Try.ntmps68
  go_wp2
  go_loopw [16] (fun i wr => ∃ k : Nat, (k : Int) ≤ n ∧ i = .int .i64 k ∧ Blk wr w.heap.size #[.int .i32 (nul 0), .int .i32 (nul 1), .int .i32 (nul 2), .int .i32 (nul 3)] 26 ∧ Blk wr (w.heap.size + 1) #[.int .i32 (cut k f 0), .int .i32 (cut k f 1), .int .i32 (cut k f 2), .int .i32 (cut k f 3)] 26 ∧ Ext w wr) (fun i _ => n.toNat - (intOf i).toNat)
  case atStart => exact ⟨0, by omega, rfl, unhide B0, by simp only [cut_zero]; exact unhide B1, ((Ext.refl w).alloc _).alloc _⟩
  case round =>
    obtain ⟨k, hk, rfl, hb0, hb1, hx⟩ := hrel
    clear B0 B1
    have D := hide (And.intro hb0 (And.intro hb1 hx))
    clear hb0 hb1 hx
    by_cases hlt : (k : Int) < n
    · have hk4 : k < 4 := by omega
      go_wp2_with (go_at_fn g; refine (unhide HF k _ hk4 hlt (unhide D).2.2).mono ?_; rintro e w1 ⟨rfl, hx1⟩; have D1 := hide (And.intro ((unhide D).1.ext hx1) (And.intro ((unhide D).2.1.ext hx1) ((unhide D).2.2.trans hx1))); have c1 := (unhide D1).2.1.vec k hk4; have f1 := (unhide D1).2.1.free k; clear D hx1)
      go_roundw
      case rel =>
        refine ⟨k + 1, by omega, by go_num, (unhide D1).1.other k _ (by omega), ?_, ext_set (unhide D1).2.2 (by omega)⟩
        have := (unhide D1).2.1.set k (.int .i32 (f k))
        rw [cut_set f k hk4] at this
        exact this
      case measure => simp [intOf]; omega
    · have hkn : (k : Int) = n := by omega
      rw [hkn] at D
      have c0 := (unhide D).2.1.vec 0 (by omega)
      have c1 := (unhide D).2.1.vec 1 (by omega)
      have c2 := (unhide D).2.1.vec 2 (by omega)
      have c3 := (unhide D).2.1.vec 3 (by omega)
      have r0 := (unhide D).1.vec 0 (by omega)
      have r1 := (unhide D).1.vec 1 (by omega)
      have r2 := (unhide D).1.vec 2 (by omega)
      have r3 := (unhide D).1.vec 3 (by omega)
      have f0 := (unhide D).1.free 0
      have f1 := (unhide D).1.free 1
      have f2 := (unhide D).1.free 2
      have f3 := (unhide D).1.free 3
      clear hkn
      go_wp2
      obtain ⟨q0, q1, q2, q3⟩ := lay4 (unhide D).1 (.int .i32 (cut n f 0)) (.int .i32 (cut n f 1)) (.int .i32 (cut n f 2)) (.int .i32 (cut n f 3))
      refine bodyPost_ret (v := .tuple #[.agg #[.int .i32 (cut n f 0), .int .i32 (cut n f 1), .int .i32 (cut n f 2), .int .i32 (cut n f 3)], .int .i64 0]) (by simp [results, Try.results68, go_sem, q0, q1, q2, q3]) rfl ⟨rfl, ?_⟩
      exact ext_set (ext_set (ext_set (ext_set (unhide D).2.2 (Nat.le_refl _)) (Nat.le_refl _)) (Nat.le_refl _)) (Nat.le_refl _)

theorem each_bad (n : Int) (fv : Value) (w : World) (h : n < 1 ∨ 4 < n) :
    Calls Try.prog 68 #[.int .i64 n, fv] w fun e w' => e = .returned (.tuple #[.agg #[.int .i32 0, .int .i32 0, .int .i32 0, .int .i32 0], .int .i64 2]) ∧ Ext w w' := by
  go_enter Try.func68, Try.ntmps68
  by_cases h1 : n < 1
  · have d1 : decide (n < 1) = true := by simp; omega
    go_wp2
    refine bodyPost_ret (v := .tuple #[.agg #[.int .i32 0, .int .i32 0, .int .i32 0, .int .i32 0], .int .i64 2]) (by simp [results, Try.results68, go_sem]) rfl ⟨rfl, ?_⟩
    exact (Ext.refl w).alloc _
  · have d1 : decide (n < 1) = false := by simp; omega
    have d4 : decide (4 < n) = true := by simp; omega
    go_wp2
    refine bodyPost_ret (v := .tuple #[.agg #[.int .i32 0, .int .i32 0, .int .i32 0, .int .i32 0], .int .i64 2]) (by simp [results, Try.results68, go_sem]) rfl ⟨rfl, ?_⟩
    exact (Ext.refl w).alloc _
end Go.Proofs.Ytbhdloanlagddaa
