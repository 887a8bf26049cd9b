/- Several texts in one. -/
import Derived.Test.YtgmahpkhdnabjaaGreatSGJ
import Derived.Test.YtgmahpkhdnabjaaGreatVMCJ
/-
  Vectors: Pick, Put.
-/
namespace Go.Proofs.YtgmahpkhdnabjaaGreat
open Go.RowKit
set_option linter.unusedVariables false

theorem pick1_any (i : Nat) (a : Nat → Int) (ao : Option Addr) (cap : Nat) (ps : List Int) (ba bp : Nat) (w : World) (hrow : Row .i64 w (.slice ao ps.length cap) ps) (hg : Good ps) (hi : i < ps.length)
    (hp : w.cell? ⟨bp, 0, none⟩ = some (.slice ao ps.length cap)) (ha : Blk w ba #[.int .i32 (a 0), .int .i32 (a 1), .int .i32 (a 2), .int .i32 (a 3)] 28) :
    Calls Tryz.prog 125 #[.int .i64 i, .pointer (some ⟨ba, 0, none⟩), .pointer (some ⟨bp, 0, none⟩)] w fun e w' => e = .returned (.int .i32 (a (pl ps i))) ∧ Ext w w' := by
  obtain ⟨b, off, rfl, hc⟩ := hrow.at i hi
  have hck := hc i hi
  have hq := hg.at i hi
  rw [hq.1] at hck
  have hq4 := hq.2
  have ca := ha.vec _ hq4
  have hqi : (pl ps i : Int) < 4 := by omega
  generalize pl ps i = q at *
  clear hc hq hrow hg ha
  go_enter Tryz.func125, Tryz.ntmps125
  go_wp2
  go_ret
  exact ⟨rfl, Ext.refl w⟩

theorem pick1_enters : ∀ args w, (callFunc 125 args).run Tryz.prog w = .ok (.enter 125 args) w := enters_of Tryz.func125 (by kernel_rfl) rfl

set_option maxHeartbeats 1000000 in
theorem pick_any (a : Nat → Int) (ao : Option Addr) (cap : Nat) (ps : List Int) (w : World) (hrow : Row .i64 w (.slice ao ps.length cap) ps) (hg : Good ps) :
    Calls Tryz.prog 78 #[.agg #[.int .i32 (a 0), .int .i32 (a 1), .int .i32 (a 2), .int .i32 (a 3)], .slice ao ps.length cap] w fun e w' => e = .returned (.tuple #[.agg #[.int .i32 (cut ps.length (fun i => a (pl ps i)) 0), .int .i32 (cut ps.length (fun i => a (pl ps i)) 1), .int .i32 (cut ps.length (fun i => a (pl ps i)) 2), .int .i32 (cut ps.length (fun i => a (pl ps i)) 3)], .int .i64 0]) ∧ Ext w w' := by
  have HR := hide hrow
  have HG := hide hg
  have hl1 := hg.1
  have hl4 := hg.2.1
  have h1 : 1 ≤ (ps.length : Int) := by omega
  have h4 : (ps.length : Int) ≤ 4 := by omega
  clear hrow hg
  go_enter Tryz.func78, Tryz.ntmps78
  go_wp2_with fail
  refine (withinV_any ao cap ps true _ ((unhide HR).ext ((((Ext.refl w).alloc _).alloc _).alloc _)) ⟨fun _ => unhide HG, fun _ => rfl⟩).mono ?_
  rintro e w1 ⟨rfl, rfl⟩
  go_wp2_with fail
  refine (each_any ps.length 125 _ (fun i => a (pl ps i)) _ h1 h4 pick1_enters (by
    intro i W hi hin hx
    exact pick1_any i a ao cap ps _ _ W ((unhide HR).ext (((((Ext.refl w).alloc _).alloc _).alloc _).trans hx)) (unhide HG) (by omega) ((((Blk.at (by simp)).alloc _).ext hx).cell rfl) ((((Blk.at rfl).alloc _).alloc _).ext hx))).mono ?_
  rintro e w1 ⟨rfl, hx⟩
  have R := hide (And.intro ((Blk.at (b := w.heap.size + 1 + 1) (by simp)).ext hx) (((((Ext.refl w).alloc _).alloc _).alloc _).trans hx))
  clear hx
  obtain ⟨r0, r1, r2, r3⟩ := Blk.vec4 (a := nul) (unhide R).1
  obtain ⟨f0, f1, f2, f3⟩ := (unhide R).1.free4
  go_wp2
  obtain ⟨q0, q1, q2, q3⟩ := lay4 (a := nul) (unhide R).1 (.int .i32 (cut ps.length (fun i => a (pl ps i)) 0)) (.int .i32 (cut ps.length (fun i => a (pl ps i)) 1)) (.int .i32 (cut ps.length (fun i => a (pl ps i)) 2)) (.int .i32 (cut ps.length (fun i => a (pl ps i)) 3))
  refine bodyPost_ret (v := .tuple #[.agg #[.int .i32 (cut ps.length (fun i => a (pl ps i)) 0), .int .i32 (cut ps.length (fun i => a (pl ps i)) 1), .int .i32 (cut ps.length (fun i => a (pl ps i)) 2), .int .i32 (cut ps.length (fun i => a (pl ps i)) 3)], .int .i64 0]) (by simp [results, Tryz.results78, go_sem, q0, q1, q2, q3]) rfl ⟨rfl, ?_⟩
  exact ext_set4 (unhide R).2 (by omega)

theorem pick_bad (a : Nat → Int) (ao : Option Addr) (cap : Nat) (ps : List Int) (w : World) (hrow : Row .i64 w (.slice ao ps.length cap) ps) (hg : ¬ Good ps) :
    Calls Tryz.prog 78 #[.agg #[.int .i32 (a 0), .int .i32 (a 1), .int .i32 (a 2), .int .i32 (a 3)], .slice ao ps.length cap] w fun e w' => e = .returned (.tuple #[.agg #[.int .i32 0, .int .i32 0, .int .i32 0, .int .i32 0], .int .i64 2]) ∧ Ext w w' := by
  have HR := hide hrow
  clear hrow
  go_enter Tryz.func78, Tryz.ntmps78
  go_wp2_with fail
  refine (withinV_any ao cap ps false _ ((unhide HR).ext ((((Ext.refl w).alloc _).alloc _).alloc _)) ⟨fun h => (by cases h), fun h => absurd h hg⟩).mono ?_
  rintro e w1 ⟨rfl, rfl⟩
  go_wp2
  refine bodyPost_ret (v := .tuple #[.agg #[.int .i32 0, .int .i32 0, .int .i32 0, .int .i32 0], .int .i64 2]) (by simp [results, Tryz.results78, go_sem]) rfl ⟨rfl, ?_⟩
  exact (((Ext.refl w).alloc _).alloc _).alloc _

theorem twice1_any (i : Nat) (hi : i < 4) (w : World) :
    Calls Tryz.prog 167 #[.int .i64 i] w fun e w' => e = .returned (.int .i32 ((i : Int) + 1)) ∧ Ext w w' := by
  go_enter Tryz.func167, Tryz.ntmps167
  have h : (i : Int) < 4 := by omega
  go_wp2
  go_ret
  exact ⟨rfl, Ext.refl w⟩

theorem twice1_enters : ∀ args w, (callFunc 167 args).run Tryz.prog w = .ok (.enter 167 args) w := enters_of Tryz.func167 (by kernel_rfl) rfl

theorem cut_in_marks {n : Int} {f : Nat → Int} {i : Nat} (h : (i : Int) < n) : cut n f i = f i := by unfold cut; rw [if_pos h]

/-- The marks, and what is taken of them back. -/
def marks (ps : List Int) : Nat → Int := cut ps.length (fun i => (i : Int) + 1)
def marksBack (ps : List Int) : Nat → Int := cut ps.length (fun i => layK nul (marks ps) ps ps.length (pl ps i))

theorem back_same {ps : List Int} (hg : Good ps) (hn : ¬ Dup ps) : marksBack ps = marks ps := by
  refine cut_congr fun i hi => ?_
  have hil : i < ps.length := by omega
  obtain ⟨j, h1, h2, h3, h4, _⟩ := layK_last nul (marks ps) ps i ps.length hil
  rw [h4]
  by_cases e : i = j
  · subst e
    unfold marks
    exact cut_in_marks hi
  · exact absurd ⟨i, j, hil, h2, by omega, ((hg.pl_inj hil h2).1 h3.symm)⟩ hn

theorem back_other {ps : List Int} (hg : Good ps) (hd : Dup ps) : ∃ i, i < 4 ∧ marksBack ps i ≠ marks ps i := by
  obtain ⟨i, j, hi, hj, hij, he⟩ := hd
  have hl := hg.2.1
  refine ⟨i, by omega, ?_⟩
  obtain ⟨m, h1, h2, h3, h4, h5⟩ := layK_last nul (marks ps) ps i ps.length hi
  have hm := h5 j hj ((hg.pl_inj hj hi).2 he.symm)
  unfold marksBack
  rw [cut_in_marks (by omega), h4]
  unfold marks
  rw [cut_in_marks (by omega), cut_in_marks (by omega)]
  omega

theorem back_test {ps : List Int} (hg : Good ps) (r : Bool) (hr : r = true ↔ Dup ps) :
    (!(marksBack ps 0 == marks ps 0) || (!(marksBack ps 1 == marks ps 1) || (!(marksBack ps 2 == marks ps 2) || !(marksBack ps 3 == marks ps 3)))) = r := by
  cases r with
  | true =>
    obtain ⟨i, hi, hne⟩ := back_other hg (hr.1 rfl)
    rcases (by omega : i = 0 ∨ i = 1 ∨ i = 2 ∨ i = 3) with rfl | rfl | rfl | rfl <;> simp [hne]
  | false =>
    rw [back_same hg (fun h => by have := hr.2 h; cases this)]
    simp

set_option maxHeartbeats 1000000 in
theorem twiceV_any (ao : Option Addr) (cap : Nat) (ps : List Int) (r : Bool) (w : World) (hrow : Row .i64 w (.slice ao ps.length cap) ps) (hg : Good ps) (hr : r = true ↔ Dup ps) :
    Calls Tryz.prog 126 #[.slice ao ps.length cap] w fun e w' => e = .returned (.bool r) ∧ Ext w w' := by
  have hE := eqV
  have HR := hide hrow
  have HG := hide hg
  have HT := hide (back_test hg r hr)
  have hl1 := hg.1
  have hl4 := hg.2.1
  have h1 : 1 ≤ (ps.length : Int) := by omega
  have h4 : (ps.length : Int) ≤ 4 := by omega
  clear hrow hg hr
  go_enter Tryz.func126, Tryz.ntmps126
  go_wp2_with fail
  refine (each_any ps.length 167 _ (fun i => (i : Int) + 1) _ h1 h4 twice1_enters (by
    intro i W hi hin hx
    exact twice1_any i hi W)).mono ?_
  rintro e w1 ⟨rfl, hx⟩
  rw [show cut (ps.length : Int) (fun i => (i : Int) + 1) = marks ps from rfl]
  have M := hide (Blk.at (w := w1) (cs := #[.int .i32 (marks ps 0), .int .i32 (marks ps 1), .int .i32 (marks ps 2), .int .i32 (marks ps 3)]) (t := 28) rfl)
  have X := hide (hx.alloc (.cells #[.int .i32 (marks ps 0), .int .i32 (marks ps 1), .int .i32 (marks ps 2), .int .i32 (marks ps 3)] 28))
  clear hx
  go_wp2_with fail
  refine (layV_any nul (marks ps) ao cap ps _ ((unhide HR).ext (unhide X)) (unhide HG)).mono ?_
  rintro e w2 ⟨rfl, hx⟩
  have M2 := hide ((unhide M).ext hx)
  have X2 := hide ((unhide X).trans hx)
  clear hx M X
  go_wp2_with fail
  refine (pick_any (layK nul (marks ps) ps ps.length) ao cap ps _ ((unhide HR).ext (unhide X2)) (unhide HG)).mono ?_
  rintro e w3 ⟨rfl, hx⟩
  rw [show cut (ps.length : Int) (fun i => layK nul (marks ps) ps ps.length (pl ps i)) = marksBack ps from rfl]
  have M3 := hide (((unhide M2).ext hx).alloc (.cells #[.int .i32 (marksBack ps 0), .int .i32 (marksBack ps 1), .int .i32 (marksBack ps 2), .int .i32 (marksBack ps 3)] 28))
  have X3 := hide (((unhide X2).trans hx).alloc (.cells #[.int .i32 (marksBack ps 0), .int .i32 (marksBack ps 1), .int .i32 (marksBack ps 2), .int .i32 (marksBack ps 3)] 28))
  clear hx M2 X2
  obtain ⟨c0, c1, c2, c3⟩ := (unhide M3).vec4
  go_wp2
  go_ret
  exact ⟨by rw [← unhide HT]; rfl, unhide X3⟩

set_option maxHeartbeats 1000000 in
theorem putV_any (a f : Nat → Int) (ao : Option Addr) (cap : Nat) (ps : List Int) (w : World) (hrow : Row .i64 w (.slice ao ps.length cap) ps) (hg : Good ps) (hn : ¬ Dup ps) :
    Calls Tryz.prog 79 #[.agg #[.int .i32 (a 0), .int .i32 (a 1), .int .i32 (a 2), .int .i32 (a 3)], .agg #[.int .i32 (f 0), .int .i32 (f 1), .int .i32 (f 2), .int .i32 (f 3)], .slice ao ps.length cap] w fun e w' => e = .returned (.tuple #[.agg #[.int .i32 (layK a f ps ps.length 0), .int .i32 (layK a f ps ps.length 1), .int .i32 (layK a f ps ps.length 2), .int .i32 (layK a f ps ps.length 3)], .int .i64 0]) ∧ Ext w w' := by
  have HR := hide hrow
  have HG := hide hg
  clear hrow hg
  have W0 : Hid (Ext w (((w.alloc (.cells #[.int .i32 (a 0), .int .i32 (a 1), .int .i32 (a 2), .int .i32 (a 3)] 28)).alloc (.cells #[.int .i32 (f 0), .int .i32 (f 1), .int .i32 (f 2), .int .i32 (f 3)] 28)).alloc (.cells #[.int .i32 0, .int .i32 0, .int .i32 0, .int .i32 0] 28))) := (((Ext.refl w).alloc _).alloc _).alloc _
  go_enter Tryz.func79, Tryz.ntmps79
  go_wp2_with fail
  refine (withinV_any ao cap ps true _ ((unhide HR).ext (unhide W0)) ⟨fun _ => unhide HG, fun _ => rfl⟩).mono ?_
  rintro e w1 ⟨rfl, rfl⟩
  go_wp2_with fail
  refine (twiceV_any ao cap ps false _ ((unhide HR).ext (unhide W0)) (unhide HG) ⟨fun h => (by cases h), fun h => absurd h hn⟩).mono ?_
  rintro e w1 ⟨rfl, hx⟩
  have B0 := hide ((((Blk.at (b := w.heap.size) (cs := #[.int .i32 (a 0), .int .i32 (a 1), .int .i32 (a 2), .int .i32 (a 3)]) (t := 28) rfl).alloc _).alloc _).ext hx)
  have B1 := hide (((Blk.at (b := w.heap.size + 1) (cs := #[.int .i32 (f 0), .int .i32 (f 1), .int .i32 (f 2), .int .i32 (f 3)]) (t := 28) (by simp)).alloc _).ext hx)
  have B2 := hide ((Blk.at (b := w.heap.size + 1 + 1) (cs := #[.int .i32 (nul 0), .int .i32 (nul 1), .int .i32 (nul 2), .int .i32 (nul 3)]) (t := 28) (by simp)).ext hx)
  have X := hide ((unhide W0).trans hx)
  clear hx W0
  obtain ⟨c0, c1, c2, c3⟩ := (unhide B0).vec4
  obtain ⟨e0, e1, e2, e3⟩ := (unhide B1).vec4
  go_wp2_with fail
  refine (layV_any a f ao cap ps _ ((unhide HR).ext (unhide X)) (unhide HG)).mono ?_
  rintro e w2 ⟨rfl, hx⟩
  have R := hide (And.intro ((unhide B2).ext hx) ((unhide X).trans hx))
  clear hx c0 c1 c2 c3 e0 e1 e2 e3
  obtain ⟨r0, r1, r2, r3⟩ := Blk.vec4 (a := nul) (unhide R).1
  obtain ⟨f0, f1, f2, f3⟩ := (unhide R).1.free4
  go_wp2
  obtain ⟨q0, q1, q2, q3⟩ := lay4 (a := nul) (unhide R).1 (.int .i32 (layK a f ps ps.length 0)) (.int .i32 (layK a f ps ps.length 1)) (.int .i32 (layK a f ps ps.length 2)) (.int .i32 (layK a f ps ps.length 3))
  refine bodyPost_ret (v := .tuple #[.agg #[.int .i32 (layK a f ps ps.length 0), .int .i32 (layK a f ps ps.length 1), .int .i32 (layK a f ps ps.length 2), .int .i32 (layK a f ps ps.length 3)], .int .i64 0]) (by simp [results, Tryz.results79, go_sem, q0, q1, q2, q3]) rfl ⟨rfl, ?_⟩
  exact ext_set4 (unhide R).2 (by omega)

set_option maxHeartbeats 1000000 in
theorem putV_bad (a f : Nat → Int) (ao : Option Addr) (cap : Nat) (ps : List Int) (w : World) (hrow : Row .i64 w (.slice ao ps.length cap) ps) (hg : ¬ (Good ps ∧ ¬ Dup ps)) :
    Calls Tryz.prog 79 #[.agg #[.int .i32 (a 0), .int .i32 (a 1), .int .i32 (a 2), .int .i32 (a 3)], .agg #[.int .i32 (f 0), .int .i32 (f 1), .int .i32 (f 2), .int .i32 (f 3)], .slice ao ps.length cap] w fun e w' => e = .returned (.tuple #[.agg #[.int .i32 0, .int .i32 0, .int .i32 0, .int .i32 0], .int .i64 2]) ∧ Ext w w' := by
  have HR := hide hrow
  clear hrow
  have W0 : Hid (Ext w (((w.alloc (.cells #[.int .i32 (a 0), .int .i32 (a 1), .int .i32 (a 2), .int .i32 (a 3)] 28)).alloc (.cells #[.int .i32 (f 0), .int .i32 (f 1), .int .i32 (f 2), .int .i32 (f 3)] 28)).alloc (.cells #[.int .i32 0, .int .i32 0, .int .i32 0, .int .i32 0] 28))) := (((Ext.refl w).alloc _).alloc _).alloc _
  go_enter Tryz.func79, Tryz.ntmps79
  by_cases h : Good ps
  · have hd : Dup ps := Classical.byContradiction fun hn => hg ⟨h, hn⟩
    go_wp2_with fail
    refine (withinV_any ao cap ps true _ ((unhide HR).ext (unhide W0)) ⟨fun _ => h, fun _ => rfl⟩).mono ?_
    rintro e w1 ⟨rfl, rfl⟩
    go_wp2_with fail
    refine (twiceV_any ao cap ps true _ ((unhide HR).ext (unhide W0)) h ⟨fun _ => hd, fun _ => rfl⟩).mono ?_
    rintro e w1 ⟨rfl, hx⟩
    have B2 := hide ((Blk.at (b := w.heap.size + 1 + 1) (cs := #[.int .i32 (nul 0), .int .i32 (nul 1), .int .i32 (nul 2), .int .i32 (nul 3)]) (t := 28) (by simp)).ext hx)
    have X := hide ((unhide W0).trans hx)
    clear hx W0
    obtain ⟨r0, r1, r2, r3⟩ := Blk.vec4 (a := nul) (unhide B2)
    obtain ⟨f0, f1, f2, f3⟩ := (unhide B2).free4
    go_wp2
    obtain ⟨q0, q1, q2, q3⟩ := lay4 (a := nul) (unhide B2) (.int .i32 0) (.int .i32 0) (.int .i32 0) (.int .i32 0)
    refine bodyPost_ret (v := .tuple #[.agg #[.int .i32 0, .int .i32 0, .int .i32 0, .int .i32 0], .int .i64 2]) (by simp [results, Tryz.results79, go_sem, q0, q1, q2, q3]) rfl ⟨rfl, ?_⟩
    exact ext_set4 (unhide X) (by omega)
  · go_wp2_with fail
    refine (withinV_any ao cap ps false _ ((unhide HR).ext (unhide W0)) ⟨fun h => (by cases h), fun x => absurd x h⟩).mono ?_
    rintro e w1 ⟨rfl, rfl⟩
    go_wp2
    refine bodyPost_ret (v := .tuple #[.agg #[.int .i32 0, .int .i32 0, .int .i32 0, .int .i32 0], .int .i64 2]) (by simp [results, Tryz.results79, go_sem]) rfl ⟨rfl, ?_⟩
    exact unhide W0

end Go.Proofs.YtgmahpkhdnabjaaGreat

/-
  The machine of registers: what its rows of registers hold; which places an instruction has.
-/
namespace Go.Proofs.YtgmahpkhdnabjaaGreat
open Go.RowKit
set_option linter.unusedVariables false
set_option linter.unusedSimpArgs false

/-- A row of vectors that has some. -/
theorem VRow.slc {w : World} {v : Value} {L : List (Nat → Int)} (h : VRow w v L) (hne : 0 < L.length) :
    ∃ b off cap, v = .slice (some ⟨b, off, none⟩) L.length cap ∧ b < w.heap.size ∧ ∀ x : Int, 0 ≤ x → x < (L.length : Int) → ∃ k : Nat, x = (k : Int) ∧ (k : Int) < (L.length : Int) ∧ w.cell? ⟨b, off + k * 4, none⟩ = some (.int .i32 (Go.Proofs.YtgmahpkhdnabjaaGreat.reg L x 0)) ∧ w.cell? ⟨b, off + k * 4 + 1, none⟩ = some (.int .i32 (Go.Proofs.YtgmahpkhdnabjaaGreat.reg L x 1)) ∧ w.cell? ⟨b, off + k * 4 + 2, none⟩ = some (.int .i32 (Go.Proofs.YtgmahpkhdnabjaaGreat.reg L x 2)) ∧ w.cell? ⟨b, off + k * 4 + 3, none⟩ = some (.int .i32 (Go.Proofs.YtgmahpkhdnabjaaGreat.reg L x 3)) := by
  rcases h with ⟨rfl, _⟩ | ⟨_, b, off, cap, rfl, hc⟩
  · simp at hne
  · refine ⟨b, off, cap, rfl, World.block_lt_of_cell? w _ (hc 0 0 hne (by omega)), fun x h0 h1 => ?_⟩
    obtain ⟨k, rfl⟩ : ∃ k : Nat, x = (k : Int) := ⟨x.toNat, by omega⟩
    have hk : k < L.length := by omega
    have e : Go.Proofs.YtgmahpkhdnabjaaGreat.reg L (k : Int) = L.getD k nul := by unfold Go.Proofs.YtgmahpkhdnabjaaGreat.reg; rw [Int.toNat_natCast]
    rw [e]
    exact ⟨k, rfl, h1, hc k 0 hk (by omega), hc k 1 hk (by omega), hc k 2 hk (by omega), hc k 3 hk (by omega)⟩
/-- The places that count. -/
def pcs (I : Nat → Int) : List Int := (plcs I).take (I 3).toNat
theorem pcs_len {I : Nat → Int} (h : 1 ≤ I 3 ∧ I 3 ≤ 4) : (pcs I).length = (I 3).toNat := by
  unfold pcs plcs
  simp
  omega
theorem pcs_get (I : Nat → Int) (i : Nat) (hi : i < (I 3).toNat) (h : i < 4) : (pcs I)[i]? = some (I (12 + i)) := by
  unfold pcs
  rw [List.getElem?_take_of_lt hi]
  rcases (by omega : i = 0 ∨ i = 1 ∨ i = 2 ∨ i = 3) with rfl | rfl | rfl | rfl <;> rfl
theorem pcs_row {w : World} {b : Nat} {I : Nat → Int} (h : Blk w b (insA I) 64) (hn : 1 ≤ I 3 ∧ I 3 ≤ 4) : Row .i64 w (.slice (some ⟨b, 12, none⟩) (pcs I).length 4) (pcs I) := by
  have hl := pcs_len hn
  refine .inr ⟨fun e => by rw [e] at hl; simp at hl; omega, b, 12, 4, rfl, by omega, by unfold maxLen; decide, fun i hi => ?_⟩
  have h4 : i < 4 := by omega
  have e : (pcs I).getD i 0 = I (12 + i) := by
    rw [List.getD_eq_getElem?_getD, pcs_get I i (by omega) h4]
    rfl
  rw [e]
  refine h.cell ?_
  rcases (by omega : i = 0 ∨ i = 1 ∨ i = 2 ∨ i = 3) with rfl | rfl | rfl | rfl <;> rfl
theorem inB4 {x : Int} (h : inB x 4 = true) : 0 ≤ x ∧ x < 4 := by
  unfold inB at h
  simp at h
  exact h
theorem pcs_good {I : Nat → Int} (hn : 1 ≤ I 3 ∧ I 3 ≤ 4) (h : plcB I = true) : Good (pcs I) := by
  have hl := pcs_len hn
  refine ⟨by omega, by omega, fun i hi => ?_⟩
  have h4 : i < 4 := by omega
  have e : (pcs I)[i] = I (12 + i) := (List.getElem?_eq_some_iff.1 (pcs_get I i (by omega) h4)).2
  rw [e]
  unfold plcB at h
  simp only [Bool.and_eq_true] at h
  obtain ⟨h0, h1, h2, h3⟩ := h
  rcases (by omega : i = 0 ∨ i = 1 ∨ i = 2 ∨ i = 3) with rfl | rfl | rfl | rfl
  · exact inB4 h0
  · exact inB4 h1
  · exact inB4 h2
  · exact inB4 h3
theorem tw_dup : ∀ (l : List Int), twB l = false → ∀ i j, ∀ (hi : i < l.length) (hj : j < l.length), i < j → l[i] ≠ l[j]
  | [], _, i, j, hi, _, _ => by simp at hi
  | x :: r, h, i, j, hi, hj, hlt => by
    unfold twB at h
    simp only [Bool.or_eq_false_iff] at h
    match i, j, hi, hj, hlt with
    | 0, j + 1, _, hj, _ =>
      intro e
      have hj' : j < r.length := by simpa using hj
      have : x ∈ r := by
        have e2 : x = r[j] := by simpa using e
        rw [e2]
        exact List.getElem_mem hj'
      rw [List.contains_iff_mem.2 this] at h
      exact absurd h.1 (by decide)
    | i + 1, j + 1, hi, hj, hlt =>
      have := tw_dup r h.2 i j (by simpa using hi) (by simpa using hj) (by omega)
      simpa using this
theorem pcs_once {I : Nat → Int} (h : twB (pcs I) = false) : ¬ Dup (pcs I) := fun ⟨i, j, hi, hj, hlt, e⟩ => tw_dup _ h i j hi hj hlt e
theorem cell_grown {w w' : World} {r b i : Nat} {v : Value} (hg : w.grownBy w' (some r)) (h : w.cell? ⟨b, i, none⟩ = some v) (hne : b ≠ r) : w'.cell? ⟨b, i, none⟩ = some v := by
  rw [World.cell?_of_block (w := w) (hg.block b (World.block_lt_of_cell? w _ h) (by simpa using hne))]
  exact h
theorem grown_ofExt {w w1 : World} (r : Nat) (hx : Ext w w1) : w.grownBy w1 (some r) := ⟨hx.os, hx.tape, hx.output, hx.size, fun i hi _ => hx.block i hi⟩
theorem grown_set4 {w w1 : World} {r i0 i1 i2 i3 : Nat} {a0 a1 a2 a3 : Value} (hx : Ext w w1) : w.grownBy ((((w1.setCell ⟨r, i0, none⟩ a0).setCell ⟨r, i1, none⟩ a1).setCell ⟨r, i2, none⟩ a2).setCell ⟨r, i3, none⟩ a3) (some r) :=
  ((((grown_ofExt r hx).trans (grownBy_set w1 r i0 _)).trans (grownBy_set _ r i1 _)).trans (grownBy_set _ r i2 _)).trans (grownBy_set _ r i3 _)
end Go.Proofs.YtgmahpkhdnabjaaGreat

/-
  Codes that may be: what follows for their registers and instructions, plainly.
-/
namespace Go.Proofs.YtgmahpkhdnabjaaGreat
open Go.RowKit
set_option linter.unusedVariables false
set_option linter.unusedSimpArgs false

def OkI (I : Nat → Int) : Prop := (∀ k, k < 8 → -9223372036854775808 ≤ I k ∧ I k ≤ 9223372036854775807) ∧ (∀ k, k < 4 → -2147483648 ≤ I (8 + k) ∧ I (8 + k) ≤ 2147483647) ∧ (∀ k, k < 4 → -9223372036854775808 ≤ I (12 + k) ∧ I (12 + k) ≤ 9223372036854775807)
theorem inB_iff (x n : Int) : inB x n = true ↔ 0 ≤ x ∧ x < n := by simp [inB]
theorem may_regs {C : Cod} (h : mayP C = true) : C.ins.length ≤ 4096 ∧ 0 ≤ C.regs ∧ C.regs ≤ 1024 := by
  simp only [mayP, Bool.and_eq_true, decide_eq_true_eq] at h
  refine ⟨h.2.1, ?_⟩
  have h1 := h.1
  unfold headB at h1
  split at h1
  · simp only [Bool.and_eq_true, inB_iff] at h1
    omega
  · split at h1
    · simp only [Bool.and_eq_true, inB_iff] at h1
      omega
    · cases h1
theorem may_ins {C : Cod} (h : mayP C = true) (k : Nat) (hk : k < C.ins.length) : (∀ r ∈ readsP C.ins[k], 0 ≤ r ∧ r < C.regs) ∧ (wrB (C.ins[k] 0) = true → 0 ≤ writI C.ins[k] ∧ writI C.ins[k] < C.regs) ∧ ((C.ins[k] 0 = 10 ∨ C.ins[k] 0 = 11) → (k : Int) < C.ins[k] 5 ∧ C.ins[k] 5 ≤ (C.ins.length : Int)) := by
  simp only [mayP, Bool.and_eq_true] at h
  have h2 := mayTo_at h.2.2 hk
  rw [show C.ins.getD k zI = C.ins[k] by simp [hk]] at h2
  generalize C.ins[k] = I at *
  simp only [insB, Bool.and_eq_true] at h2
  obtain ⟨h3, h4, h5⟩ := h2
  simp only [rgsB, Bool.and_eq_true, List.all_eq_true, Bool.or_eq_true] at h4
  refine ⟨fun r hr => (inB_iff _ _).1 (h4.1 r hr), fun hw => ?_, fun hj => ?_⟩
  · rcases h4.2 with h6 | h6
    · rw [hw] at h6; cases h6
    · exact (inB_iff _ _).1 h6
  · unfold fldB at h5
    rw [if_neg (by omega), if_neg (by omega), if_neg (by omega), if_neg (by omega), if_neg (by omega), if_neg (by omega), if_neg (by omega), if_pos hj] at h5
    simpa using h5
end Go.Proofs.YtgmahpkhdnabjaaGreat
