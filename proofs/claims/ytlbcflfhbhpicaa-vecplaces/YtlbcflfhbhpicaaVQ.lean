/-
  Vectors: Pick, Put.
-/
import Derived.Test.YtlbcflfhbhpicaaVP
namespace Go.Proofs.Ytlbcflfhbhpicaa
open Go.RowKit
set_option linter.unusedVariables false

theorem pick1_any (i : Nat) (a : Nat → Int) (ao : Option Addr) (cap : Nat) (ps : List Int) (ba bp : Nat) (w : World) (hrow : Row .i64 w (.slice ao ps.length cap) ps) (hg : Good ps) (hi : i < ps.length)
    (hp : w.cell? ⟨bp, 0, none⟩ = some (.slice ao ps.length cap)) (ha : Blk w ba #[.int .i32 (a 0), .int .i32 (a 1), .int .i32 (a 2), .int .i32 (a 3)] 24) :
    Calls Try.prog 46 #[.int .i64 i, .pointer (some ⟨ba, 0, none⟩), .pointer (some ⟨bp, 0, none⟩)] w fun e w' => e = .returned (.int .i32 (a (pl ps i))) ∧ Ext w w' := by
  obtain ⟨b, off, rfl, hc⟩ := hrow.at i hi
  have hck := hc i hi
  have hq := hg.at i hi
  rw [hq.1] at hck
  have hq4 := hq.2
  have ca := ha.vec _ hq4
  have hqi : (pl ps i : Int) < 4 := by omega
  generalize pl ps i = q at *
  clear hc hq hrow hg ha
  go_enter Try.func46, Try.ntmps46
  go_wp2
  go_ret
  exact ⟨rfl, Ext.refl w⟩

theorem pick1_enters : ∀ args w, (callFunc 46 args).run Try.prog w = .ok (.enter 46 args) w := enters_of Try.func46 (by kernel_rfl) rfl

set_option maxHeartbeats 1000000 in
theorem pick_any (a : Nat → Int) (ao : Option Addr) (cap : Nat) (ps : List Int) (w : World) (hrow : Row .i64 w (.slice ao ps.length cap) ps) (hg : Good ps) :
    Calls Try.prog 23 #[.agg #[.int .i32 (a 0), .int .i32 (a 1), .int .i32 (a 2), .int .i32 (a 3)], .slice ao ps.length cap] w fun e w' => e = .returned (.tuple #[.agg #[.int .i32 (cut ps.length (fun i => a (pl ps i)) 0), .int .i32 (cut ps.length (fun i => a (pl ps i)) 1), .int .i32 (cut ps.length (fun i => a (pl ps i)) 2), .int .i32 (cut ps.length (fun i => a (pl ps i)) 3)], .int .i64 0]) ∧ Ext w w' := by
  have HR := hide hrow
  have HG := hide hg
  have hl1 := hg.1
  have hl4 := hg.2.1
  have h1 : 1 ≤ (ps.length : Int) := by omega
  have h4 : (ps.length : Int) ≤ 4 := by omega
  clear hrow hg
  go_enter Try.func23, Try.ntmps23
  go_wp2_with fail
  refine (within_any ao cap ps true _ ((unhide HR).ext ((((Ext.refl w).alloc _).alloc _).alloc _)) ⟨fun _ => unhide HG, fun _ => rfl⟩).mono ?_
  rintro e w1 ⟨rfl, rfl⟩
  go_wp2_with fail
  refine (each_any ps.length 46 _ (fun i => a (pl ps i)) _ h1 h4 pick1_enters (by
    intro i W hi hin hx
    exact pick1_any i a ao cap ps _ _ W ((unhide HR).ext (((((Ext.refl w).alloc _).alloc _).alloc _).trans hx)) (unhide HG) (by omega) ((((Blk.at (by simp)).alloc _).ext hx).cell rfl) ((((Blk.at rfl).alloc _).alloc _).ext hx))).mono ?_
  rintro e w1 ⟨rfl, hx⟩
  have R := hide (And.intro ((Blk.at (b := w.heap.size + 1 + 1) (by simp)).ext hx) (((((Ext.refl w).alloc _).alloc _).alloc _).trans hx))
  clear hx
  obtain ⟨r0, r1, r2, r3⟩ := Blk.vec4 (a := nul) (unhide R).1
  obtain ⟨f0, f1, f2, f3⟩ := (unhide R).1.free4
  go_wp2
  obtain ⟨q0, q1, q2, q3⟩ := lay4 (a := nul) (unhide R).1 (.int .i32 (cut ps.length (fun i => a (pl ps i)) 0)) (.int .i32 (cut ps.length (fun i => a (pl ps i)) 1)) (.int .i32 (cut ps.length (fun i => a (pl ps i)) 2)) (.int .i32 (cut ps.length (fun i => a (pl ps i)) 3))
  refine bodyPost_ret (v := .tuple #[.agg #[.int .i32 (cut ps.length (fun i => a (pl ps i)) 0), .int .i32 (cut ps.length (fun i => a (pl ps i)) 1), .int .i32 (cut ps.length (fun i => a (pl ps i)) 2), .int .i32 (cut ps.length (fun i => a (pl ps i)) 3)], .int .i64 0]) (by simp [results, Try.results23, go_sem, q0, q1, q2, q3]) rfl ⟨rfl, ?_⟩
  exact ext_set4 (unhide R).2 (by omega)

theorem pick_bad (a : Nat → Int) (ao : Option Addr) (cap : Nat) (ps : List Int) (w : World) (hrow : Row .i64 w (.slice ao ps.length cap) ps) (hg : ¬ Good ps) :
    Calls Try.prog 23 #[.agg #[.int .i32 (a 0), .int .i32 (a 1), .int .i32 (a 2), .int .i32 (a 3)], .slice ao ps.length cap] w fun e w' => e = .returned (.tuple #[.agg #[.int .i32 0, .int .i32 0, .int .i32 0, .int .i32 0], .int .i64 2]) ∧ Ext w w' := by
  have HR := hide hrow
  clear hrow
  go_enter Try.func23, Try.ntmps23
  go_wp2_with fail
  refine (within_any ao cap ps false _ ((unhide HR).ext ((((Ext.refl w).alloc _).alloc _).alloc _)) ⟨fun h => (by cases h), fun h => absurd h hg⟩).mono ?_
  rintro e w1 ⟨rfl, rfl⟩
  go_wp2
  refine bodyPost_ret (v := .tuple #[.agg #[.int .i32 0, .int .i32 0, .int .i32 0, .int .i32 0], .int .i64 2]) (by simp [results, Try.results23, go_sem]) rfl ⟨rfl, ?_⟩
  exact (((Ext.refl w).alloc _).alloc _).alloc _

theorem twice1_any (i : Nat) (hi : i < 4) (w : World) :
    Calls Try.prog 69 #[.int .i64 i] w fun e w' => e = .returned (.int .i32 ((i : Int) + 1)) ∧ Ext w w' := by
  go_enter Try.func69, Try.ntmps69
  have h : (i : Int) < 4 := by omega
  go_wp2
  go_ret
  exact ⟨rfl, Ext.refl w⟩

theorem twice1_enters : ∀ args w, (callFunc 69 args).run Try.prog w = .ok (.enter 69 args) w := enters_of Try.func69 (by kernel_rfl) rfl

theorem cut_in_marks {n : Int} {f : Nat → Int} {i : Nat} (h : (i : Int) < n) : cut n f i = f i := by unfold cut; rw [if_pos h]

/-- The marks, and what is taken of them back. -/
def marks (ps : List Int) : Nat → Int := cut ps.length (fun i => (i : Int) + 1)
def marksBack (ps : List Int) : Nat → Int := cut ps.length (fun i => layK nul (marks ps) ps ps.length (pl ps i))

theorem back_same {ps : List Int} (hg : Good ps) (hn : ¬ Dup ps) : marksBack ps = marks ps := by
  refine cut_congr fun i hi => ?_
  have hil : i < ps.length := by omega
  obtain ⟨j, h1, h2, h3, h4, _⟩ := layK_last nul (marks ps) ps i ps.length hil
  rw [h4]
  by_cases e : i = j
  · subst e
    unfold marks
    exact cut_in_marks hi
  · exact absurd ⟨i, j, hil, h2, by omega, ((hg.pl_inj hil h2).1 h3.symm)⟩ hn

theorem back_other {ps : List Int} (hg : Good ps) (hd : Dup ps) : ∃ i, i < 4 ∧ marksBack ps i ≠ marks ps i := by
  obtain ⟨i, j, hi, hj, hij, he⟩ := hd
  have hl := hg.2.1
  refine ⟨i, by omega, ?_⟩
  obtain ⟨m, h1, h2, h3, h4, h5⟩ := layK_last nul (marks ps) ps i ps.length hi
  have hm := h5 j hj ((hg.pl_inj hj hi).2 he.symm)
  unfold marksBack
  rw [cut_in_marks (by omega), h4]
  unfold marks
  rw [cut_in_marks (by omega), cut_in_marks (by omega)]
  omega

theorem back_test {ps : List Int} (hg : Good ps) (r : Bool) (hr : r = true ↔ Dup ps) :
    (!(marksBack ps 0 == marks ps 0) || (!(marksBack ps 1 == marks ps 1) || (!(marksBack ps 2 == marks ps 2) || !(marksBack ps 3 == marks ps 3)))) = r := by
  cases r with
  | true =>
    obtain ⟨i, hi, hne⟩ := back_other hg (hr.1 rfl)
    rcases (by omega : i = 0 ∨ i = 1 ∨ i = 2 ∨ i = 3) with rfl | rfl | rfl | rfl <;> simp [hne]
  | false =>
    rw [back_same hg (fun h => by have := hr.2 h; cases this)]
    simp

set_option maxHeartbeats 1000000 in
theorem twice_any (ao : Option Addr) (cap : Nat) (ps : List Int) (r : Bool) (w : World) (hrow : Row .i64 w (.slice ao ps.length cap) ps) (hg : Good ps) (hr : r = true ↔ Dup ps) :
    Calls Try.prog 47 #[.slice ao ps.length cap] w fun e w' => e = .returned (.bool r) ∧ Ext w w' := by
  have hE := eqV
  have HR := hide hrow
  have HG := hide hg
  have HT := hide (back_test hg r hr)
  have hl1 := hg.1
  have hl4 := hg.2.1
  have h1 : 1 ≤ (ps.length : Int) := by omega
  have h4 : (ps.length : Int) ≤ 4 := by omega
  clear hrow hg hr
  go_enter Try.func47, Try.ntmps47
  go_wp2_with fail
  refine (each_any ps.length 69 _ (fun i => (i : Int) + 1) _ h1 h4 twice1_enters (by
    intro i W hi hin hx
    exact twice1_any i hi W)).mono ?_
  rintro e w1 ⟨rfl, hx⟩
  rw [show cut (ps.length : Int) (fun i => (i : Int) + 1) = marks ps from rfl]
  have M := hide (Blk.at (w := w1) (cs := #[.int .i32 (marks ps 0), .int .i32 (marks ps 1), .int .i32 (marks ps 2), .int .i32 (marks ps 3)]) (t := 24) rfl)
  have X := hide (hx.alloc (.cells #[.int .i32 (marks ps 0), .int .i32 (marks ps 1), .int .i32 (marks ps 2), .int .i32 (marks ps 3)] 24))
  clear hx
  go_wp2_with fail
  refine (lay_any nul (marks ps) ao cap ps _ ((unhide HR).ext (unhide X)) (unhide HG)).mono ?_
  rintro e w2 ⟨rfl, hx⟩
  have M2 := hide ((unhide M).ext hx)
  have X2 := hide ((unhide X).trans hx)
  clear hx M X
  go_wp2_with fail
  refine (pick_any (layK nul (marks ps) ps ps.length) ao cap ps _ ((unhide HR).ext (unhide X2)) (unhide HG)).mono ?_
  rintro e w3 ⟨rfl, hx⟩
  rw [show cut (ps.length : Int) (fun i => layK nul (marks ps) ps ps.length (pl ps i)) = marksBack ps from rfl]
  have M3 := hide (((unhide M2).ext hx).alloc (.cells #[.int .i32 (marksBack ps 0), .int .i32 (marksBack ps 1), .int .i32 (marksBack ps 2), .int .i32 (marksBack ps 3)] 24))
  have X3 := hide (((unhide X2).trans hx).alloc (.cells #[.int .i32 (marksBack ps 0), .int .i32 (marksBack ps 1), .int .i32 (marksBack ps 2), .int .i32 (marksBack ps 3)] 24))
  clear hx M2 X2
  obtain ⟨c0, c1, c2, c3⟩ := (unhide M3).vec4
  go_wp2
  go_ret
  exact ⟨by rw [← unhide HT]; rfl, unhide X3⟩

set_option maxHeartbeats 1000000 in
theorem put_any (a f : Nat → Int) (ao : Option Addr) (cap : Nat) (ps : List Int) (w : World) (hrow : Row .i64 w (.slice ao ps.length cap) ps) (hg : Good ps) (hn : ¬ Dup ps) :
    Calls Try.prog 26 #[.agg #[.int .i32 (a 0), .int .i32 (a 1), .int .i32 (a 2), .int .i32 (a 3)], .agg #[.int .i32 (f 0), .int .i32 (f 1), .int .i32 (f 2), .int .i32 (f 3)], .slice ao ps.length cap] w fun e w' => e = .returned (.tuple #[.agg #[.int .i32 (layK a f ps ps.length 0), .int .i32 (layK a f ps ps.length 1), .int .i32 (layK a f ps ps.length 2), .int .i32 (layK a f ps ps.length 3)], .int .i64 0]) ∧ Ext w w' := by
  have HR := hide hrow
  have HG := hide hg
  clear hrow hg
  have W0 : Hid (Ext w (((w.alloc (.cells #[.int .i32 (a 0), .int .i32 (a 1), .int .i32 (a 2), .int .i32 (a 3)] 24)).alloc (.cells #[.int .i32 (f 0), .int .i32 (f 1), .int .i32 (f 2), .int .i32 (f 3)] 24)).alloc (.cells #[.int .i32 0, .int .i32 0, .int .i32 0, .int .i32 0] 24))) := (((Ext.refl w).alloc _).alloc _).alloc _
  go_enter Try.func26, Try.ntmps26
  go_wp2_with fail
  refine (within_any ao cap ps true _ ((unhide HR).ext (unhide W0)) ⟨fun _ => unhide HG, fun _ => rfl⟩).mono ?_
  rintro e w1 ⟨rfl, rfl⟩
  go_wp2_with fail
  refine (twice_any ao cap ps false _ ((unhide HR).ext (unhide W0)) (unhide HG) ⟨fun h => (by cases h), fun h => absurd h hn⟩).mono ?_
  rintro e w1 ⟨rfl, hx⟩
  have B0 := hide ((((Blk.at (b := w.heap.size) (cs := #[.int .i32 (a 0), .int .i32 (a 1), .int .i32 (a 2), .int .i32 (a 3)]) (t := 24) rfl).alloc _).alloc _).ext hx)
  have B1 := hide (((Blk.at (b := w.heap.size + 1) (cs := #[.int .i32 (f 0), .int .i32 (f 1), .int .i32 (f 2), .int .i32 (f 3)]) (t := 24) (by simp)).alloc _).ext hx)
  have B2 := hide ((Blk.at (b := w.heap.size + 1 + 1) (cs := #[.int .i32 (nul 0), .int .i32 (nul 1), .int .i32 (nul 2), .int .i32 (nul 3)]) (t := 24) (by simp)).ext hx)
  have X := hide ((unhide W0).trans hx)
  clear hx W0
  obtain ⟨c0, c1, c2, c3⟩ := (unhide B0).vec4
  obtain ⟨e0, e1, e2, e3⟩ := (unhide B1).vec4
  go_wp2_with fail
  refine (lay_any a f ao cap ps _ ((unhide HR).ext (unhide X)) (unhide HG)).mono ?_
  rintro e w2 ⟨rfl, hx⟩
  have R := hide (And.intro ((unhide B2).ext hx) ((unhide X).trans hx))
  clear hx c0 c1 c2 c3 e0 e1 e2 e3
  obtain ⟨r0, r1, r2, r3⟩ := Blk.vec4 (a := nul) (unhide R).1
  obtain ⟨f0, f1, f2, f3⟩ := (unhide R).1.free4
  go_wp2
  obtain ⟨q0, q1, q2, q3⟩ := lay4 (a := nul) (unhide R).1 (.int .i32 (layK a f ps ps.length 0)) (.int .i32 (layK a f ps ps.length 1)) (.int .i32 (layK a f ps ps.length 2)) (.int .i32 (layK a f ps ps.length 3))
  refine bodyPost_ret (v := .tuple #[.agg #[.int .i32 (layK a f ps ps.length 0), .int .i32 (layK a f ps ps.length 1), .int .i32 (layK a f ps ps.length 2), .int .i32 (layK a f ps ps.length 3)], .int .i64 0]) (by simp [results, Try.results26, go_sem, q0, q1, q2, q3]) rfl ⟨rfl, ?_⟩
  exact ext_set4 (unhide R).2 (by omega)

set_option maxHeartbeats 1000000 in
theorem put_bad (a f : Nat → Int) (ao : Option Addr) (cap : Nat) (ps : List Int) (w : World) (hrow : Row .i64 w (.slice ao ps.length cap) ps) (hg : ¬ (Good ps ∧ ¬ Dup ps)) :
    Calls Try.prog 26 #[.agg #[.int .i32 (a 0), .int .i32 (a 1), .int .i32 (a 2), .int .i32 (a 3)], .agg #[.int .i32 (f 0), .int .i32 (f 1), .int .i32 (f 2), .int .i32 (f 3)], .slice ao ps.length cap] w fun e w' => e = .returned (.tuple #[.agg #[.int .i32 0, .int .i32 0, .int .i32 0, .int .i32 0], .int .i64 2]) ∧ Ext w w' := by
  have HR := hide hrow
  clear hrow
  have W0 : Hid (Ext w (((w.alloc (.cells #[.int .i32 (a 0), .int .i32 (a 1), .int .i32 (a 2), .int .i32 (a 3)] 24)).alloc (.cells #[.int .i32 (f 0), .int .i32 (f 1), .int .i32 (f 2), .int .i32 (f 3)] 24)).alloc (.cells #[.int .i32 0, .int .i32 0, .int .i32 0, .int .i32 0] 24))) := (((Ext.refl w).alloc _).alloc _).alloc _
  go_enter Try.func26, Try.ntmps26
  by_cases h : Good ps
  · have hd : Dup ps := Classical.byContradiction fun hn => hg ⟨h, hn⟩
    go_wp2_with fail
    refine (within_any ao cap ps true _ ((unhide HR).ext (unhide W0)) ⟨fun _ => h, fun _ => rfl⟩).mono ?_
    rintro e w1 ⟨rfl, rfl⟩
    go_wp2_with fail
    refine (twice_any ao cap ps true _ ((unhide HR).ext (unhide W0)) h ⟨fun _ => hd, fun _ => rfl⟩).mono ?_
    rintro e w1 ⟨rfl, hx⟩
    have B2 := hide ((Blk.at (b := w.heap.size + 1 + 1) (cs := #[.int .i32 (nul 0), .int .i32 (nul 1), .int .i32 (nul 2), .int .i32 (nul 3)]) (t := 24) (by simp)).ext hx)
    have X := hide ((unhide W0).trans hx)
    clear hx W0
    obtain ⟨r0, r1, r2, r3⟩ := Blk.vec4 (a := nul) (unhide B2)
    obtain ⟨f0, f1, f2, f3⟩ := (unhide B2).free4
    go_wp2
    obtain ⟨q0, q1, q2, q3⟩ := lay4 (a := nul) (unhide B2) (.int .i32 0) (.int .i32 0) (.int .i32 0) (.int .i32 0)
    refine bodyPost_ret (v := .tuple #[.agg #[.int .i32 0, .int .i32 0, .int .i32 0, .int .i32 0], .int .i64 2]) (by simp [results, Try.results26, go_sem, q0, q1, q2, q3]) rfl ⟨rfl, ?_⟩
    exact ext_set4 (unhide X) (by omega)
  · go_wp2_with fail
    refine (within_any ao cap ps false _ ((unhide HR).ext (unhide W0)) ⟨fun h => (by cases h), fun x => absurd x h⟩).mono ?_
    rintro e w1 ⟨rfl, rfl⟩
    go_wp2
    refine bodyPost_ret (v := .tuple #[.agg #[.int .i32 0, .int .i32 0, .int .i32 0, .int .i32 0], .int .i64 2]) (by simp [results, Try.results26, go_sem]) rfl ⟨rfl, ?_⟩
    exact unhide W0

end Go.Proofs.Ytlbcflfhbhpicaa
