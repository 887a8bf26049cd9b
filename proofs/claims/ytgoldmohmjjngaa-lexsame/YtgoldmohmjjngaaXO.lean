/-
  The document's Same.
-/
import Derived.Test.YtgoldmohmjjngaaXG
import Derived.Deep.QuietTactic
import Derived.BigQuiet
namespace Go.Proofs.Ytgoldmohmjjngaa
open Go.RowKit
set_option linter.unusedSimpArgs false
set_option linter.unusedVariables false

set_option maxHeartbeats 2000000 in
set_option maxRecDepth 100000 in
theorem refSame_any (A B : List Tok) (ao bo : Option Addr) (ca cb : Nat) (w : World) (hA : TR w (.slice ao A.length ca) A) (hB : TR w (.slice bo B.length cb) B) :
    Calls Try.prog 20 #[.slice ao A.length ca, .slice bo B.length cb] w fun e w' => e = .returned (.bool (sameK A B)) ∧ Ext w w' := by
  have HA := hide hA
  have HB := hide hB
  have hbig : B.length ≤ 9223372036854775807 := by
    obtain ⟨_, _, _, _, h1, h2, _⟩ := hB
    unfold maxLen at h2
    omega
  clear hA hB
  by_cases hlen : A.length = B.length
  · have hl' : (!((A.length : Int) == (B.length : Int))) = false := by rw [hlen]; simp
    go_enter Try.func20, Try.ntmps20
    rw [hlen]
    go_wp2
    go_loopw [13] (fun iv wr => ∃ k : Nat, k ≤ B.length ∧ iv = .int .i64 k ∧ keys (A.take k) = keys (B.take k) ∧ Ext w wr) (fun iv _ => B.length - (intOf iv).toNat)
    case atStart => exact ⟨0, by omega, rfl, by simp, Ext.refl _⟩
    case round =>
      obtain ⟨k, hk, rfl, hkeys, hx⟩ := hrel
      have HK := hide hkeys
      have X := hide hx
      clear hkeys hx
      by_cases hlt : k < B.length
      · have hlA : k < A.length := by omega
        obtain ⟨b1, o1, rfl, h1⟩ := ((unhide HA).ext (unhide X)).at k hlA
        obtain ⟨b2, o2, rfl, h2⟩ := ((unhide HB).ext (unhide X)).at k hlt
        have c0 := h1.kind; have c1 := h1.text; have c2 := h1.num
        have d0 := h2.kind; have d1 := h2.text; have d2 := h2.num
        clear h1 h2
        have HS := hide (keys_step A B k hlA hlt (unhide HK))
        have HT := hide (tokEq_iff A[k] B[k])
        have HTQ := hide (show tokEq A[k] B[k] = decide (key A[k] = key B[k]) from rfl)
        have hne : tokEq A[k] B[k] = false → sameK A B = false := fun h => by
          unfold sameK
          refine decide_eq_false fun e => ?_
          have := (unhide HS).1 (keys_take A B (k + 1) e)
          exact of_decide_eq_false ((unhide HTQ).symm.trans h) this
        have HNE := hide hne
        clear hne
        generalize A[k] = x at *
        generalize B[k] = y at *
        have q1 : IntKind.i64.wrap (k : Int) = k := by simp [IntKind.wrap, IntKind.bits, IntKind.signed] <;> omega
        by_cases e0 : x.kind = y.kind
        · have f0 : (x.kind == y.kind) = true := by rw [e0]; simp
          by_cases e1 : x.text = y.text
          · have f1 : (x.text == y.text) = true := by rw [e1]; simp
            by_cases e2 : x.num = y.num
            · have f2 : (x.num == y.num) = true := by rw [e2]; simp
              have HG : Hid (key x = key y) := by show key x = key y; unfold key; rw [e0, e1, e2]
              rw [e0] at c0
              rw [e1] at c1
              rw [e2] at c2
              clear e0 e1 e2 f0 f1 f2
              go_wp2
              go_quiet (fail)
              go_wp2
              refine ⟨⟨k + 1, by omega, rfl, (unhide HS).2 (unhide HG), (unhide X).drewN _⟩, ?_⟩
              simp [intOf]
              omega
            · have f2 : (x.num == y.num) = false := beq_eq_false_iff_ne.2 e2
              have hs : sameK A B = false := unhide HNE (by rw [unhide HT]; simp [f2])
              rw [e0] at c0
              rw [e1] at c1
              clear e0 e1 e2 f0 f1
              go_wp2
              go_quiet (fail)
              go_wp2
              go_ret
              exact ⟨by rw [hs]; rfl, (unhide X).drewN _⟩
          · have f1 : (x.text == y.text) = false := beq_eq_false_iff_ne.2 e1
            have hs : sameK A B = false := unhide HNE (by rw [unhide HT]; simp [f1])
            rw [e0] at c0
            clear e0 e1 f0
            go_wp2
            go_quiet (fail)
            go_wp2
            go_ret
            exact ⟨by rw [hs]; rfl, (unhide X).drewN _⟩
        · have f0 : (x.kind == y.kind) = false := beq_eq_false_iff_ne.2 e0
          have f0' : (x.kind != y.kind) = true := by simp [bne, f0]
          have hs : sameK A B = false := unhide HNE (by rw [unhide HT]; simp [f0])
          clear e0
          go_wp2
          go_quiet (fail)
          go_wp2
          go_ret
          exact ⟨by rw [hs]; rfl, (unhide X).drewN _⟩
      · have hke : k = B.length := by omega
        have hs : sameK A B = true := by
          unfold sameK
          refine decide_eq_true ?_
          have := unhide HK
          rw [hke, List.take_length, ← hlen, List.take_length] at this
          exact this
        go_wp2
        go_ret
        exact ⟨by rw [hs]; rfl, unhide X⟩
  · have hl' : ((A.length : Int) == (B.length : Int)) = false := beq_eq_false_iff_ne.2 (by omega)
    have hs : sameK A B = false := by
      unfold sameK
      refine decide_eq_false fun e => hlen ?_
      rw [← keys_len, e, keys_len]
    rw [hs]
    go_enter Try.func20, Try.ntmps20
    go_wp2
    go_ret
    exact ⟨rfl, Ext.refl _⟩
end Go.Proofs.Ytgoldmohmjjngaa
