/-
  The parser's small functions: the token ahead, whether it is one of these, tokens that are taken.
-/
import Derived.Test.YtjfhhhabcbkahaaGreatTC
import Derived.Deep.QuietTactic
import Derived.BigQuiet
namespace Go.Proofs.YtjfhhhabcbkahaaGreat
open Go.RowKit
set_option linter.unusedVariables false
set_option linter.unusedSimpArgs false

section
variable {w : World} {pb : Nat} {L : List Tok} {tv lv : Value} {i : Nat}
theorem tk_get (k : Nat) (h : k < L.length) : tk L k = L[k] := by unfold tk; simp [h]
theorem tk_none (k : Nat) (h : ¬ k < L.length) : tk L k = noTok := by unfold tk; rw [List.getD_eq_getElem?_getD, List.getElem?_eq_none (by omega)]; rfl
theorem wrapId {x : Int} (h0 : 0 ≤ x) (h1 : x < 9223372036854775808) : IntKind.i64.wrap x = x := by simp [IntKind.wrap, IntKind.bits, IntKind.signed]; omega

set_option maxHeartbeats 2000000 in
set_option maxRecDepth 100000 in
theorem ahead_any (n : Nat) (h : PE w pb L tv lv i) (hi : i + n ≤ 4000000000) (hL : L.length ≤ 1000000000) :
    Calls Tryz.prog 60 #[.pointer (some ⟨pb, 0, none⟩), .int .i64 n] w fun e w' => e = .returned (.agg #[.int .i64 (tk L (i + n)).kind, .string ⟨(tk L (i + n)).text.toArray⟩, .int .i32 (tk L (i + n)).num, .int .i64 (tk L (i + n)).place, .int .i64 (tk L (i + n)).line]) ∧ Ext w w' := by
  have HP := hide h
  clear h
  obtain ⟨ao, cap, rfl, t1, t2, t3, t4⟩ := (unhide HP).toks.1
  obtain ⟨w1, hw1⟩ : ∃ w1, w1 = w.alloc (.cells #[.int .i64 0, .string ⟨#[]⟩, .int .i32 0, .int .i64 0, .int .i64 0] 44) := ⟨_, rfl⟩
  have X1 : Hid (Ext w w1) := by rw [hw1]; exact (Ext.refl w).alloc _
  have HB1 : Hid (Blk w1 w.heap.size #[.int .i64 0, .string ⟨#[]⟩, .int .i32 0, .int .i64 0, .int .i64 0] 44) := by rw [hw1]; exact Blk.new _ _ _
  obtain ⟨nb, hnb⟩ : ∃ nb, nb = w.heap.size := ⟨_, rfl⟩
  have HN := hide hnb
  rw [← hnb] at HB1
  have c0 := ((unhide HP).ext (unhide X1)).blk.cell (i := 0) (v := .slice ao L.length cap) rfl
  have c1 := ((unhide HP).ext (unhide X1)).blk.cell (i := 1) (v := .int .i64 i) rfl
  have q1 : IntKind.i64.wrap ((i : Int) + (n : Int)) = (i : Int) + (n : Int) := wrapId (by omega) (by omega)
  have z0 := (unhide HB1).cell (i := 0) (v := .int .i64 0) rfl
  have z1 := (unhide HB1).cell (i := 1) (v := .string ⟨#[]⟩) rfl
  have z2 := (unhide HB1).cell (i := 2) (v := .int .i32 0) rfl
  have z3 := (unhide HB1).cell (i := 3) (v := .int .i64 0) rfl
  have z4 := (unhide HB1).cell (i := 4) (v := .int .i64 0) rfl
  have fz := fun j => (unhide HB1).free j
  by_cases hlt : i + n < L.length
  · have d1 : decide ((i : Int) + (n : Int) < (L.length : Int)) = true := decide_eq_true (by omega)
    obtain ⟨b, off, rfl, tc⟩ := (((unhide HP).toks.1.ext (unhide X1))).at (i + n) hlt
    rw [tk_get _ hlt]
    have k0 := tc.kind; have k1 := tc.text; have k2 := tc.num; have k3 := tc.place; have k4 := tc.line
    clear tc t4
    generalize L[i + n] = t at *
    have i0 : (0 : Int) ≤ (i : Int) + (n : Int) ∧ (i : Int) + (n : Int) < (L.length : Int) := ⟨by omega, by omega⟩
    have i1 : ((i : Int) + (n : Int)).toNat = i + n := by omega
    go_enter Tryz.func60, Tryz.ntmps60
    go_wp2
    rw [show (w.alloc (.cells #[.int .i64 0, .string ⟨#[]⟩, .int .i32 0, .int .i64 0, .int .i64 0] 44)) = w1 from hw1.symm, show w.heap.size = nb from hnb.symm]
    clear hw1 hnb
    go_quiet (fail)
    go_wp2
    go_region
    go_wp2
    have B2 := ((((((unhide HB1).drewN (nq + 1)).set 0 (.int .i64 t.kind)).set 1 (.string ⟨t.text.toArray⟩)).set 2 (.int .i32 t.num)).set 3 (.int .i64 t.place)).set 4 (.int .i64 t.line)
    have r0 := B2.cell (i := 0) (v := .int .i64 t.kind) rfl
    have r1 := B2.cell (i := 1) (v := .string ⟨t.text.toArray⟩) rfl
    have r2 := B2.cell (i := 2) (v := .int .i32 t.num) rfl
    have r3 := B2.cell (i := 3) (v := .int .i64 t.place) rfl
    have r4 := B2.cell (i := 4) (v := .int .i64 t.line) rfl
    have hle : w.heap.size ≤ nb := Nat.le_of_eq (unhide HN).symm
    exact bodyPost_ret (v := .agg #[.int .i64 (t).kind, .string ⟨(t).text.toArray⟩, .int .i32 (t).num, .int .i64 (t).place, .int .i64 (t).line]) (by simp [results, Tryz.results60, go_sem, r0, r1, r2, r3, r4]) rfl ⟨rfl, setX (setX (setX (setX (setX ((unhide X1).drewN (nq + 1)) hle) hle) hle) hle) hle⟩
  · have d1 : decide ((i : Int) + (n : Int) < (L.length : Int)) = false := decide_eq_false (by omega)
    rw [tk_none _ hlt]
    simp only [noTok]
    go_enter Tryz.func60, Tryz.ntmps60
    go_wp2
    rw [show (w.alloc (.cells #[.int .i64 0, .string ⟨#[]⟩, .int .i32 0, .int .i64 0, .int .i64 0] 44)) = w1 from hw1.symm, show w.heap.size = nb from hnb.symm]
    clear hw1 hnb
    go_quiet (fail)
    go_wp2
    have B2 := ((((((unhide HB1).drewN nq).set 0 (.int .i64 0)).set 1 (.string ⟨#[]⟩)).set 2 (.int .i32 0)).set 3 (.int .i64 0)).set 4 (.int .i64 0)
    have r0 := B2.cell (i := 0) (v := .int .i64 0) rfl
    have r1 := B2.cell (i := 1) (v := .string ⟨#[]⟩) rfl
    have r2 := B2.cell (i := 2) (v := .int .i32 0) rfl
    have r3 := B2.cell (i := 3) (v := .int .i64 0) rfl
    have r4 := B2.cell (i := 4) (v := .int .i64 0) rfl
    have hle : w.heap.size ≤ nb := Nat.le_of_eq (unhide HN).symm
    exact bodyPost_ret (v := .agg #[.int .i64 0, .string ⟨#[]⟩, .int .i32 0, .int .i64 0, .int .i64 0]) (by simp [results, Tryz.results60, go_sem, r0, r1, r2, r3, r4]) rfl ⟨rfl, setX (setX (setX (setX (setX ((unhide X1).drewN nq) hle) hle) hle) hle) hle⟩
end
theorem index_any {T : Nat → Prop} {w : World} {ao : Option Addr} {n cap : Nat} {ts : List Byts8} (t : Byts8) (h : SF T w (.slice ao n cap) ts) :
    Calls Tryz.prog 99 #[.slice ao n cap, .string ⟨t.toArray⟩] w fun e w' => ∃ k : Int, e = .returned (.int .i64 k) ∧ decide (0 ≤ k) = ts.contains t ∧ w' = w := by
  obtain ⟨ao', cap', e, h1, h2, h3⟩ := h
  cases e
  have hbig : ts.length ≤ 9223372036854775807 := by unfold maxLen at h2; omega
  have H3 := hide h3
  clear h3 h1 h2
  obtain ⟨R, hR⟩ : ∃ R, ts.contains t = R := ⟨_, rfl⟩
  rw [hR]
  have HR := hide hR
  clear hR
  go_enter Tryz.func99, Tryz.ntmps99
  go_wp2
  go_loop [8] (fun iv => ∃ k : Nat, k ≤ ts.length ∧ iv = .int .i64 k ∧ (ts.drop k).contains t = R) (fun iv => ts.length - (intOf iv).toNat)
  case atStart => exact ⟨0, by omega, rfl, unhide HR⟩
  case round =>
    obtain ⟨k, hk, rfl, hc⟩ := hrel
    clear HR
    by_cases hlt : k < ts.length
    · obtain ⟨b, off, rfl, _, c⟩ := unhide H3 k hlt
      rw [List.drop_eq_getElem_cons hlt, List.contains_cons] at hc
      obtain ⟨x, hx⟩ : ∃ x, x = ts[k] := ⟨_, rfl⟩
      rw [← hx] at c hc
      have HC := hide hc
      clear hc hx
      by_cases he : t = x
      · have q : (t == x) = true := by rw [he]; simp
        rw [q] at HC
        have hr : R = true := (unhide HC).symm
        subst he hr
        clear HC
        have q2 : (t == t) = true := by simp
        go_wp2
        go_ret
        exact ⟨k, rfl, by first | omega | simp, rfl⟩
      · have q : (t == x) = false := beq_eq_false_iff_ne.2 he
        rw [q, Bool.false_or] at HC
        clear he
        go_wp2
        refine ⟨⟨k + 1, by omega, rfl, unhide HC⟩, ?_⟩
        simp [intOf]
        omega
    · have hr : R = false := by rw [← hc, List.drop_of_length_le (by omega)]; rfl
      subst hr
      clear hc
      go_wp2
      go_ret
      exact ⟨-1, rfl, by first | omega | simp, rfl⟩
theorem contains_any {T : Nat → Prop} {w : World} {ao : Option Addr} {n cap : Nat} {ts : List Byts8} (t : Byts8) (h : SF T w (.slice ao n cap) ts) :
    Calls Tryz.prog 92 #[.slice ao n cap, .string ⟨t.toArray⟩] w fun e w' => e = .returned (.bool (ts.contains t)) ∧ w' = w := by
  have H := hide (index_any t h)
  clear h
  obtain ⟨R, hR⟩ : ∃ R, ts.contains t = R := ⟨_, rfl⟩
  rw [hR] at H ⊢
  clear hR
  go_enter Tryz.func92, Tryz.ntmps92
  go_wp2_with fail
  refine (unhide H).mono ?_
  rintro e w1 ⟨k, rfl, hk, rfl⟩
  go_wp2
  go_ret
  exact ⟨rfl, rfl⟩
theorem refuse_any (v : Value) (w : World) : Calls Tryz.prog 95 #[v] w fun e w' => e = .panicked [{ v := .iface 29 (.int .i64 220), recovered := false }] ∧ w' = w := by
  go_enter Tryz.func95, Tryz.ntmps95
  go_wp2
  exact ⟨rfl, rfl, rfl⟩
end Go.Proofs.YtjfhhhabcbkahaaGreat
