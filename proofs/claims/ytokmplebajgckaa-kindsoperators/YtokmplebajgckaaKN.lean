/-
  Built-in functions: rows of arguments, whether two rows are the same, and what comes.
-/
import Derived.Test.YtokmplebajgckaaKM
import Derived.Test.YtokmplebajgckaaKD
namespace Go.Proofs.Ytokmplebajgckaa
open Go.RowKit
set_option linter.unusedVariables false
set_option linter.unusedSimpArgs false

theorem floats_any (n : Int) (w : World) : Calls Try.prog 43 #[.int .i64 n] w fun e w' => e = .returned (.agg #[.int .i64 (fltT n).1, .int .i64 (fltT n).2]) ∧ Ext w w' := by
  have X := hide ((Ext.refl w).alloc (.cells #[.int .i64 1, .int .i64 n] 23))
  have B := hide (Blk.new w #[.int .i64 1, .int .i64 n] 23)
  go_enter Try.func43, Try.ntmps43
  go_wp2
  obtain ⟨s0, s1⟩ := (unhide B).two
  exact bodyPost_ret (v := .agg #[.int .i64 (fltT n).1, .int .i64 (fltT n).2]) (by simp [results, Try.results43, go_sem, s0, s1, fltT]) rfl ⟨rfl, unhide X⟩
def smpT : Ty := ⟨4, 1⟩
theorem sampler_any (w : World) : Calls Try.prog 51 #[] w fun e w' => e = .returned (.agg #[.int .i64 (smpT).1, .int .i64 (smpT).2]) ∧ Ext w w' := by
  have X := hide ((Ext.refl w).alloc (.cells #[.int .i64 4, .int .i64 1] 23))
  have B := hide (Blk.new w #[.int .i64 4, .int .i64 1] 23)
  go_enter Try.func51, Try.ntmps51
  go_wp2
  obtain ⟨s0, s1⟩ := (unhide B).two
  exact bodyPost_ret (v := .agg #[.int .i64 (smpT).1, .int .i64 (smpT).2]) (by simp [results, Try.results51, go_sem, s0, s1, smpT]) rfl ⟨rfl, unhide X⟩
/-- Rows of types. -/
def TyRR (w : World) (v : Value) (M : List (List Ty)) : Prop :=
  ∃ ao cap, v = .slice ao M.length cap ∧ M.length ≤ 1000 ∧ ∀ i (h : i < M.length), ∃ b off u, ao = some ⟨b, off, none⟩ ∧ w.cell? ⟨b, off + i, none⟩ = some u ∧ TyR w u M[i]
theorem TyRR.ext {w w' : World} {v : Value} {M : List (List Ty)} (h : TyRR w v M) (hx : Ext w w') : TyRR w' v M := by
  obtain ⟨ao, cap, rfl, hl, hc⟩ := h
  refine ⟨ao, cap, rfl, hl, fun i hi => ?_⟩
  obtain ⟨b, off, u, rfl, h0, h1⟩ := hc i hi
  exact ⟨b, off, u, rfl, cell_ext hx h0, h1.ext hx⟩
theorem TyRR.one {w : World} {b : Nat} (hb : w.heap.size = b) {u : Value} {L : List Ty} (h : TyR w u L) (t : TypeId) : TyRR (w.alloc (.cells #[u] t)) (.slice (some ⟨b, 0, none⟩) 1 1) [L] := by
  subst hb
  refine ⟨_, _, rfl, by simp, fun i hi => ⟨w.heap.size, 0, u, rfl, ?_⟩⟩
  have h2 := Blk.new w #[u] t
  obtain rfl : i = 0 := by simpa using hi
  exact ⟨h2.cell rfl, h.ext ((Ext.refl w).alloc _)⟩
theorem TyRR.two {w : World} {b : Nat} (hb : w.heap.size = b) {u v : Value} {L M : List Ty} (h : TyR w u L) (g : TyR w v M) (t : TypeId) : TyRR (w.alloc (.cells #[u, v] t)) (.slice (some ⟨b, 0, none⟩) 2 2) [L, M] := by
  subst hb
  have h2 := Blk.new w #[u, v] t
  refine ⟨_, _, rfl, by simp, fun i hi => ?_⟩
  match i, (by simpa using hi : i < 2) with
  | 0, _ => exact ⟨w.heap.size, 0, u, rfl, h2.cell rfl, h.ext ((Ext.refl w).alloc _)⟩
  | 1, _ => exact ⟨w.heap.size, 0, v, rfl, h2.cell rfl, g.ext ((Ext.refl w).alloc _)⟩
theorem TyRR.none (w : World) : TyRR w (.slice Option.none 0 0) [] := ⟨_, _, rfl, by simp, fun i hi => absurd hi (by simp)⟩
/-- The rows of arguments, if g is G. -/
def takesP (o : Int) (g : Ty) : List (List Ty) :=
  if o = 1 then [[g]]
  else if o = 2 then [[g, g]]
  else if o = 3 then [[g, g], [g, fltT 1]]
  else if o = 4 then [[g, g], [fltT 1, g]]
  else if o = 5 then [[g, g, g], [g, g, fltT 1]]
  else if o = 6 then [[g, g, g], [g, fltT 1, fltT 1]]
  else if o = 7 then [[fltT 3, fltT 3]]
  else if o = 8 then [[smpT, fltT 2]]
  else []
def givesP (n : Int) (g : Ty) : Ty :=
  if n = 19 ∨ n = 20 then fltT 1 else if n = 21 then fltT 3 else if n = 22 then fltT 4 else g

set_option maxHeartbeats 4000000 in
theorem equal_any (u v : Value) (L M : List Ty) (w : World) (h : TyR w u L) (g : TyR w v M) :
    Calls Try.prog 45 #[u, v] w fun e w' => e = .returned (.bool (decide (L = M))) ∧ Ext w w' := by
  have H1 := hide h
  have H2 := hide g
  obtain ⟨ao, cap, rfl, hlen, -⟩ := h
  obtain ⟨bo, cbp, rfl, hlen2, -⟩ := g
  obtain ⟨R, hR⟩ : ∃ R, decide (L = M) = R := ⟨_, rfl⟩
  rw [hR]
  by_cases hll : L.length = M.length
  · have ql : ((L.length : Int) != (M.length : Int)) = false := by simp [hll]
    have HR : Hid (decide (L.drop 0 = M.drop 0) = R) := hR
    clear hR
    go_enter Try.func45, Try.ntmps45
    go_wp2
    go_loopw [13] (fun i wr => ∃ k : Nat, k ≤ L.length ∧ i = .int .i64 k ∧ Hid (decide (L.drop k = M.drop k) = R) ∧ Hid (Ext w wr)) (fun i _ => L.length - (intOf i).toNat)
    case atStart => exact ⟨0, by omega, rfl, HR, Ext.refl w⟩
    case round =>
      obtain ⟨k, hk, rfl, hc, hx⟩ := hrel
      by_cases hlt : k < L.length
      · have hlt2 : k < M.length := by omega
        obtain ⟨_, _, e, _, hat⟩ := (unhide H1).ext (unhide hx)
        obtain ⟨b, off, he, c0, c1⟩ := hat k hlt
        obtain ⟨_, _, e', _, hat'⟩ := (unhide H2).ext (unhide hx)
        obtain ⟨b', off', he', d0, d1⟩ := hat' k hlt2
        have e2 := (Value.slice.inj e).1
        have e3 := (Value.slice.inj e').1
        subst e2 e3
        clear hat e hat' e'
        subst he he'
        have hc2 := unhide hc
        rw [List.drop_eq_getElem_cons hlt, List.drop_eq_getElem_cons hlt2] at hc2
        obtain ⟨p, hp⟩ : ∃ p, p = L[k] := ⟨_, rfl⟩
        obtain ⟨q, hq⟩ : ∃ q, q = M[k] := ⟨_, rfl⟩
        rw [← hp] at c0 c1 hc2
        rw [← hq] at d0 d1 hc2
        clear hp hq hc
        have HX := hide (fun n => (unhide hx).drewN n)
        cases hpq : eqT p q with
        | true =>
          have epq := eqT_iff.1 hpq
          subst epq
          have HC : Hid (decide (L.drop (k + 1) = M.drop (k + 1)) = R) := by
            show decide (L.drop (k + 1) = M.drop (k + 1)) = R
            rw [← hc2]
            simp
          clear hc2 hpq
          go_wp2
          go_quiet (fail)
          go_wp2
          go_roundw
          case rel => exact ⟨k + 1, by omega, by go_num, HC, unhide HX _⟩
          case measure => simp [intOf]; omega
        | false =>
          have hr : R = false := by
            rw [← hc2, decide_eq_false_iff_not]
            intro he
            have := (List.cons.inj he).1
            rw [this] at hpq
            exact absurd (eqT_iff.2 rfl) (by rw [hpq]; decide)
          subst hr
          clear hc2
          rcases eqT_cases hpq with q1 | ⟨q1, q2⟩ <;>
          · clear hpq
            go_wp2
            go_quiet (fail)
            go_wp2
            go_ret
            exact ⟨rfl, unhide HX _⟩
      · have hr : R = true := by
          rw [← unhide hc, List.drop_of_length_le (by omega), List.drop_of_length_le (by omega)]
          rfl
        subst hr
        clear hc
        go_wp2
        go_ret
        exact ⟨rfl, unhide hx⟩
  · have ql : ((L.length : Int) != (M.length : Int)) = true := by simp; omega
    have hr : R = false := by
      rw [← hR, decide_eq_false_iff_not]
      intro e
      exact hll (by rw [e])
    subst hr
    clear hR
    have X := hide (Ext.refl w)
    go_enter Try.func45, Try.ntmps45
    go_wp2
    go_ret
    exact ⟨rfl, unhide X⟩
end Go.Proofs.Ytokmplebajgckaa
