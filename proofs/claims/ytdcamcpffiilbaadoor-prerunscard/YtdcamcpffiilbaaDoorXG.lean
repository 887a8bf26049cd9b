/-
  Which lists of tokens are the same: alike, slices.EqualFunc, Same.
-/
import Derived.Test.YtdcamcpffiilbaaDoorXW
import Derived.Test.YtdcamcpffiilbaaDoorXR
namespace Go.Proofs.YtdcamcpffiilbaaDoor
open Go.RowKit
set_option linter.unusedSimpArgs false
set_option linter.unusedVariables false

/-- A token as a value. -/
def tokV (t : Tok) : Value := .agg #[.int .i64 t.kind, .string ⟨t.text.toArray⟩, .int .i32 t.num, .int .i64 t.place, .int .i64 t.line]
def tokEq (a b : Tok) : Bool := decide (key a = key b)
theorem tokEq_iff (a b : Tok) : tokEq a b = (a.kind == b.kind && (a.text == b.text && a.num == b.num)) := by
  unfold tokEq key
  rw [Bool.eq_iff_iff]
  simp [Prod.mk.injEq]
set_option maxHeartbeats 1000000 in
theorem alike_any (a b : Tok) (w : World) : Calls Tryd.prog 71 #[.agg #[.int .i64 a.kind, .string ⟨a.text.toArray⟩, .int .i32 a.num, .int .i64 a.place, .int .i64 a.line], .agg #[.int .i64 b.kind, .string ⟨b.text.toArray⟩, .int .i32 b.num, .int .i64 b.place, .int .i64 b.line]] w fun e w' => e = .returned (.bool (tokEq a b)) ∧ Ext w w' := by
  rw [tokEq_iff]
  obtain ⟨k1, t1, n1, p1, l1⟩ := a
  obtain ⟨k2, t2, n2, p2, l2⟩ := b
  simp only
  go_enter Tryd.func71, Tryd.ntmps71
  by_cases hk : k1 = k2
  · subst hk
    by_cases ht : t1 = t2
    · subst ht
      go_wp2
      go_ret
      exact ⟨by simp, ((Ext.refl w).alloc _).alloc _⟩
    · have ht' : (t1 == t2) = false := beq_eq_false_iff_ne.2 ht
      go_wp2
      go_ret
      exact ⟨by simp [ht'], ((Ext.refl w).alloc _).alloc _⟩
  · have hk' : (k1 == k2) = false := beq_eq_false_iff_ne.2 hk
    go_wp2
    go_ret
    exact ⟨by simp [hk'], ((Ext.refl w).alloc _).alloc _⟩

/-- Whether tokens are the same, wherever they stand. -/
def sameK (A B : List Tok) : Bool := decide (keys A = keys B)
theorem keys_len (A : List Tok) : (keys A).length = A.length := by simp [keys]
theorem keys_step (A B : List Tok) (k : Nat) (hA : k < A.length) (hB : k < B.length) (h : keys (A.take k) = keys (B.take k)) : keys (A.take (k + 1)) = keys (B.take (k + 1)) ↔ key A[k] = key B[k] := by
  rw [List.take_succ_eq_append_getElem hA, List.take_succ_eq_append_getElem hB]
  unfold keys at *
  rw [List.map_append, List.map_append, h]
  simp
theorem keys_take (A B : List Tok) (k : Nat) (h : keys A = keys B) : keys (A.take k) = keys (B.take k) := by
  unfold keys at *
  rw [List.map_take, List.map_take, h]

set_option maxHeartbeats 1000000 in
set_option maxRecDepth 100000 in
theorem equal_any (A B : List Tok) (ao bo : Option Addr) (ca cb : Nat) (w : World) (hA : TR w (.slice ao A.length ca) A) (hB : TR w (.slice bo B.length cb) B) (eg : ∀ args w, (callFunc 71 args).run Tryd.prog w = .ok (.enter 71 args) w) :
    Calls Tryd.prog 70 #[.slice ao A.length ca, .slice bo B.length cb, .func (.func 71) #[] #[]] w fun e w' => e = .returned (.bool (sameK A B)) ∧ Ext w w' := by
  have HA := hide hA
  have HB := hide hB
  have hbig : B.length ≤ 9223372036854775807 := by
    obtain ⟨_, _, _, _, h1, h2, _⟩ := hB
    unfold maxLen at h2
    omega
  clear hA hB
  by_cases hlen : A.length = B.length
  · have hl' : (!((A.length : Int) == (B.length : Int))) = false := by rw [hlen]; simp
    go_enter Tryd.func70, Tryd.ntmps70
    rw [hlen]
    go_wp2
    go_loopw [17] (fun iv wr => ∃ k : Nat, k ≤ B.length ∧ iv = .int .i64 k ∧ keys (A.take k) = keys (B.take k) ∧ Ext w wr) (fun iv _ => B.length - (intOf iv).toNat)
    case atStart => exact ⟨0, by omega, rfl, by simp, Ext.refl _⟩
    case round =>
      obtain ⟨k, hk, rfl, hkeys, hx⟩ := hrel
      have HK := hide hkeys
      have X := hide hx
      clear hkeys hx
      by_cases hlt : k < B.length
      · have hlA : k < A.length := by omega
        obtain ⟨b1, o1, rfl, h1⟩ := ((unhide HA).ext (unhide X)).at k hlA
        obtain ⟨b2, o2, rfl, h2⟩ := ((unhide HB).ext (unhide X)).at k hlt
        have hc : ∀ b (o : Obj) j u, wr.cell? ⟨b, j, none⟩ = some u → (wr.alloc o).cell? ⟨b, j, none⟩ = some u := fun b o j u hu => by
          rw [((Ext.refl wr).alloc o).cell (p := ⟨b, j, none⟩) (World.block_lt_of_cell? wr _ hu)]
          exact hu
        have c0 := h1.kind; have c1 := h1.text; have c2 := h1.num; have c3 := h1.place; have c4 := h1.line
        have d0 := fun o => hc _ o _ _ h2.kind
        have d1 := fun o => hc _ o _ _ h2.text
        have d2 := fun o => hc _ o _ _ h2.num
        have d3 := fun o => hc _ o _ _ h2.place
        have d4 := fun o => hc _ o _ _ h2.line
        clear h1 h2 hc
        have HS := hide (keys_step A B k hlA hlt (unhide HK))
        have HQ := hide (fun W => alike_any A[k] B[k] W)
        have HTQ := hide (show tokEq A[k] B[k] = decide (key A[k] = key B[k]) from rfl)
        generalize tokEq A[k] B[k] = te at *
        generalize A[k] = x at *
        generalize B[k] = y at *
        cases te with
        | true =>
          go_wp2_with fail
          refine (unhide HQ _).mono ?_
          rintro e w2 ⟨rfl, hx2⟩
          have X2 := hide ((((unhide X).alloc _).alloc _).trans hx2)
          clear hx2
          go_wp2
          refine ⟨⟨k + 1, by omega, rfl, (unhide HS).2 (of_decide_eq_true (unhide HTQ).symm), unhide X2⟩, ?_⟩
          simp [intOf]
          omega
        | false =>
          go_wp2_with fail
          refine (unhide HQ _).mono ?_
          rintro e w2 ⟨rfl, hx2⟩
          have X2 := hide ((((unhide X).alloc _).alloc _).trans hx2)
          clear hx2
          go_wp2
          go_ret
          refine ⟨?_, unhide X2⟩
          have hne : sameK A B = false := by
            unfold sameK
            refine decide_eq_false fun e => ?_
            have := (unhide HS).1 (keys_take A B (k + 1) e)
            exact of_decide_eq_false (unhide HTQ).symm this
          rw [hne]
          rfl
      · have hke : k = B.length := by omega
        have hs : sameK A B = true := by
          unfold sameK
          refine decide_eq_true ?_
          have := unhide HK
          rw [hke, List.take_length, ← hlen, List.take_length] at this
          exact this
        go_wp2
        go_ret
        exact ⟨by rw [hs]; rfl, unhide X⟩
  · have hl' : ((A.length : Int) == (B.length : Int)) = false := beq_eq_false_iff_ne.2 (by omega)
    have hs : sameK A B = false := by
      unfold sameK
      refine decide_eq_false fun e => hlen ?_
      rw [← keys_len, e, keys_len]
    rw [hs]
    go_enter Tryd.func70, Tryd.ntmps70
    go_wp2
    go_ret
    exact ⟨rfl, Ext.refl _⟩
theorem eAlike : ∀ args w, (callFunc 71 args).run Tryd.prog w = .ok (.enter 71 args) w := enters_of Tryd.func71 (by kernel_rfl) rfl
theorem same_any (A B : List Tok) (ao bo : Option Addr) (ca cb : Nat) (w : World) (hA : TR w (.slice ao A.length ca) A) (hB : TR w (.slice bo B.length cb) B) :
    Calls Tryd.prog 50 #[.slice ao A.length ca, .slice bo B.length cb] w fun e w' => e = .returned (.bool (sameK A B)) ∧ Ext w w' := by
  have HQ := hide (equal_any A B ao bo ca cb w hA hB eAlike)
  clear hA hB
  go_enter Tryd.func50, Tryd.ntmps50
  go_wp2_with fail
  refine (unhide HQ).mono ?_
  rintro e w2 ⟨rfl, hx2⟩
  go_wp2
  go_ret
  exact ⟨rfl, hx2⟩
end Go.Proofs.YtdcamcpffiilbaaDoor
