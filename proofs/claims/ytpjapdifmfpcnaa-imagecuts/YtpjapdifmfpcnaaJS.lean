/-
  Images: the program's Cost.
-/
import Derived.Test.YtpjapdifmfpcnaaIX
namespace Go.Proofs.Ytpjapdifmfpcnaa
open Go.RowKit
set_option linter.unusedVariables false
set_option linter.unusedSimpArgs false

/-- How many bytes levels have. -/
def sumB (A : List Lev) : Nat := (A.map fun l => l.2.2.length).sum
def costI (I : Img) : Int := if okB (sizI I.f) I = true then (sumB I.L : Int) else 0
theorem sumB_take (L : List Ent) (k : Nat) (h : k < L.length) : sumB (absL (L.take (k + 1))) = sumB (absL (L.take k)) + L[k].2.2.2.length := by
  rw [List.take_succ_eq_append_getElem h, absL_append]
  unfold sumB
  rw [List.map_append, List.sum_append]
  simp [absL, absE]
theorem sumB_le {L : List Ent} (hb : ∀ p ∈ L, p.2.2.2.length ≤ 20000) (k : Nat) : sumB (absL (L.take k)) ≤ 20000 * k := by
  induction k with
  | zero => simp [sumB, absL]
  | succ k ih =>
    by_cases h : k < L.length
    · rw [sumB_take L k h]
      have := hb _ (List.getElem_mem h)
      omega
    · have e : L.take (k + 1) = L.take k := by rw [List.take_of_length_le (by omega), List.take_of_length_le (by omega)]
      rw [e]
      omega

set_option maxRecDepth 10000 in
set_option maxHeartbeats 2000000 in
theorem cost_any {w : World} {v : Value} {L : List Ent} {I : Img} (h : LR w v L) (hL : L.length ≤ 1000) (hA : I.L = absL L) (hb : ∀ p ∈ L, p.2.2.2.length ≤ 20000) :
    Calls Try.prog 19 #[.agg #[.int .i64 I.f, v, .int .i64 I.ws, .int .i64 I.wt, .int .i64 I.mn, .int .i64 I.mg]] w fun e w' => e = .returned (.int .i64 (costI I)) ∧ Ext w w' := by
  obtain ⟨ao, cap, rfl, hao, hlc, hcm, _⟩ := h.shape
  have hcm2 : cap ≤ 9223372036854775807 := by unfold maxLen at hcm; omega
  have H1 := hide (And.intro ((Ext.refl w).alloc (.cells #[.int .i64 I.f, .slice ao L.length cap, .int .i64 I.ws, .int .i64 I.wt, .int .i64 I.mn, .int .i64 I.mg] 24)) (Blk.new w #[.int .i64 I.f, .slice ao L.length cap, .int .i64 I.ws, .int .i64 I.wt, .int .i64 I.mn, .int .i64 I.mg] 24))
  have HA := hide hA
  have HH := hide h
  have HB := hide hb
  have HSUM := hide (fun k hk => sumB_take L k hk)
  have HLE := hide (sumB_le hb)
  clear h hA hao hcm hb
  go_enter Try.func19, Try.ntmps19
  go_wp2_with fail
  generalize w.alloc (.cells #[.int .i64 I.f, .slice ao L.length cap, .int .i64 I.ws, .int .i64 I.wt, .int .i64 I.mn, .int .i64 I.mg] 24) = w1 at H1 ⊢
  refine (check_any (I := I) ((unhide HH).ext (unhide H1).1) (by omega) (unhide HA)).mono ?_
  rintro e w2 ⟨rfl, hx2⟩
  have H2 := hide (And.intro ((unhide H1).1.trans hx2) ((unhide H1).2.ext hx2))
  clear H1 hx2
  cases hok : okB (sizI I.f) I with
  | false =>
    have E : Hid (costI I = 0) := by show _ = _; unfold costI; rw [hok]; simp
    have c1 := chkE_no (I := I) (by rw [hok]; simp)
    rw [c1]
    clear hok
    go_wp2
    go_ret
    rw [unhide E]
    exact ⟨rfl, (unhide H2).1⟩
  | true =>
    have E : Hid (costI I = (sumB (absL L) : Int)) := by show _ = _; unfold costI; rw [hok, ← unhide HA]; simp
    have c1 := chkE_yes (I := I) hok
    rw [c1]
    clear hok
    have q1 := (unhide H2).2.six.2.1
    go_wp2_with fail
    go_loopw [3, 12] (fun sv iv wr => ∃ k : Nat, k ≤ L.length ∧ iv = .int .i64 (k : Int) ∧ sv = .int .i64 (sumB (absL (L.take k)) : Int) ∧ Ext w2 wr) (fun _ iv _ => L.length - (intOf iv).toNat)
    case atStart => exact ⟨0, Nat.zero_le _, rfl, by simp [sumB, absL], Ext.refl _⟩
    case round =>
      clear q1
      obtain ⟨k, hk, rfl, rfl, hx⟩ := hrel
      have hle := unhide HLE k
      by_cases hlt : k < L.length
      · have hkn : (k : Int) < (L.length : Int) := by omega
        obtain ⟨b, off, bo, bcap, e1, eb, c0, c1, c2, hr⟩ := ((unhide HH).ext ((unhide H2).1.trans hx)).at k hlt
        subst e1
        have HS := hide (unhide HSUM k hlt)
        have hb9 := unhide HB _ (List.getElem_mem hlt)
        have HX := hide (hx.alloc (.cells #[.int .i64 L[k].1, .int .i64 L[k].2.1, .slice bo L[k].2.2.2.length bcap] 48))
        generalize L[k].1 = W at *
        generalize L[k].2.1 = H at *
        generalize L[k].2.2.2.length = bn at *
        generalize sumB (absL (L.take k)) = sm at *
        clear eb hr hx
        go_wp2
        go_roundw
        case rel => exact ⟨k + 1, by omega, by go_num, by rw [unhide HS]; first | rfl | go_num, unhide HX⟩
        case measure => simp [intOf]; omega
      · obtain rfl : k = L.length := by omega
        have hnl : ¬ (L.length : Int) < (L.length : Int) := by omega
        rw [List.take_length] at *
        have HX := hide ((unhide H2).1.trans hx)
        clear hx
        go_wp2
        go_ret
        rw [unhide E]
        exact ⟨rfl, unhide HX⟩
end Go.Proofs.Ytpjapdifmfpcnaa
