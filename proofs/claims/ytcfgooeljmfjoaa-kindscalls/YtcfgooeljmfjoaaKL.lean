/-
  The document's built-in functions: their numbers; whether all are floats.
-/
import Derived.Test.YtcfgooeljmfjoaaKQ
import Derived.Deep.WholeRow
import Derived.Great.BuildSlice
namespace Go.Proofs.Ytcfgooeljmfjoaa
open Go.RowKit
set_option linter.unusedVariables false
set_option linter.unusedSimpArgs false

def strL (l : List Byts8) : Array Value := (l.map (fun t => Value.string ⟨t.toArray⟩)).toArray
theorem strL_at {w : World} {b : Nat} {t : TypeId} {l : List Byts8} (h : Blk w b (strL l) t) (k : Nat) (hk : k < l.length) : w.cell? ⟨b, k, none⟩ = some (.string ⟨l[k].toArray⟩) := by
  refine h.cell ?_
  unfold strL
  rw [List.getElem?_toArray, List.getElem?_map, List.getElem?_eq_getElem hk]
  rfl
def fnN : List Byts8 := fns.map (·.1)
/-- The number of a name in a row of names, from k on. -/
def numF (n : Byts8) : Nat → List Byts8 → Int
  | _, [] => 0
  | k, x :: l => if x == n then (k : Int) + 1 else numF n (k + 1) l
def numT (n : Byts8) : Int := match fnP n with | some f => f.1 | none => 0
theorem numF_no (n : Byts8) : ∀ (k : Nat) (l : List Byts8), n ∉ l → numF n k l = 0
  | _, [], _ => rfl
  | k, x :: l, h => by
    simp only [List.mem_cons, not_or] at h
    unfold numF
    rw [if_neg (by simpa using Ne.symm h.1)]
    exact numF_no n (k + 1) l h.2
theorem numF_eq (n : Byts8) : numF n 0 fnN = numT n := by
  by_cases h : n ∈ fnN
  · have hall : ∀ n ∈ fnN, numF n 0 fnN = numT n := by decide
    exact hall n h
  · rw [numF_no n 0 fnN h]
    unfold numT fnP
    rw [gL_mem fns n h]
theorem infoS : ∃ i, Try.prog.info? 9 = some i ∧ i.zero = some (.string ⟨#[]⟩) ∧ i.size = 1 := by
  have h : (Try.prog.info? 9).map (fun i => (i.zero, i.size)) = some (some (.string ⟨#[]⟩), 1) := by kernel_rfl
  cases hq : Try.prog.info? 9 with
  | none => rw [hq] at h; cases h
  | some i =>
    rw [hq] at h
    simp only [Option.map_some, Option.some.injEq, Prod.mk.injEq] at h
    exact ⟨i, rfl, h.1, h.2⟩
set_option maxHeartbeats 4000000 in
set_option maxRecDepth 100000 in
theorem refNumber13_any (n : Byts8) (w : World) : Calls Try.prog 8 #[.string ⟨n.toArray⟩] w fun e w' => e = .returned (.int .i64 (numT n)) ∧ Ext w w' := by
  obtain ⟨R, hR⟩ : ∃ R, numT n = R := ⟨_, rfl⟩
  rw [hR]
  rw [← numF_eq] at hR
  have HR : Hid (numF n 0 (fnN.drop 0) = R) := hR
  clear hR
  have HL : Hid (fnN.length = 22) := rfl
  obtain ⟨i0, hi, hz, hs⟩ := infoS
  have S0 := hide (Blk.new w (strL fnN) 9)
  have X0 := hide ((Ext.refl w).alloc (.cells (strL fnN) 9))
  go_enter Try.func8, Try.ntmps8
  go_wp2_with (refine Go.wpList_buildSlice rfl 46 9 22 _ rfl (strL fnN) i0 (.string ⟨#[]⟩) Try.underlying46 hi hz (by rw [hs]; decide) (by rw [hs]; decide) (by rw [hs]; kernel_rfl) ?_)
  generalize w.alloc (.cells (strL fnN) 9) = w1 at S0 X0 ⊢
  generalize w.heap.size = g at *
  generalize fnN = L at *
  go_loop [4] (fun i => ∃ k : Nat, k ≤ 22 ∧ i = .int .i64 (k : Int) ∧ Hid (numF n k (L.drop k) = R)) (fun i => 22 - (intOf i).toNat)
  case atStart => exact ⟨0, by omega, rfl, HR⟩
  case round =>
    obtain ⟨k, hk, rfl, hc⟩ := hrel
    clear HR
    by_cases hlt : k < 22
    · have hk2 : k < L.length := by rw [unhide HL]; exact hlt
      have cs := strL_at (unhide S0) k hk2
      have hc2 := unhide hc
      rw [List.drop_eq_getElem_cons hk2] at hc2
      unfold numF at hc2
      obtain ⟨x, hx⟩ : ∃ x, x = L[k] := ⟨_, rfl⟩
      rw [← hx] at cs hc2
      clear hx hc
      have hk22 : (k : Int) < 22 := by omega
      by_cases he : x = n
      · subst he
        rw [if_pos (by simp)] at hc2
        subst hc2
        have q2 : (x == x) = true := by simp
        go_wp2
        go_ret
        exact ⟨rfl, unhide X0⟩
      · have q : (x == n) = false := beq_eq_false_iff_ne.2 he
        rw [if_neg (by simp [he])] at hc2
        have HC := hide hc2
        clear he hc2
        go_wp2
        refine ⟨⟨k + 1, by omega, rfl, HC⟩, ?_⟩
        simp [intOf]
        omega
    · have hc2 := unhide hc
      rw [List.drop_of_length_le (by rw [unhide HL]; omega)] at hc2
      have hr : R = 0 := hc2.symm
      subst hr
      clear hc hc2
      go_wp2
      go_ret
      exact ⟨rfl, unhide X0⟩

/-- Are all float types of so many? -/
def fltB (A : List Ty) (n : Int) : Bool := A.all (fun a => eqT a (fltT n))
set_option maxHeartbeats 4000000 in
theorem refFloats_any (v : Value) (A : List Ty) (n : Int) (w : World) (h : TyR w v A) :
    Calls Try.prog 18 #[v, .int .i64 n] w fun e w' => e = .returned (.bool (fltB A n)) ∧ w' = w := by
  have HTR := hide h
  obtain ⟨ao, cap, rfl, hlen, -⟩ := h
  obtain ⟨R, hR⟩ : ∃ R, fltB A n = R := ⟨_, rfl⟩
  rw [hR]
  have HR : Hid ((A.drop 0).all (fun a => eqT a (fltT n)) = R) := hR
  clear hR
  go_enter Try.func18, Try.ntmps18
  go_wp2
  go_loop [5] (fun i => ∃ k : Nat, k ≤ A.length ∧ i = .int .i64 k ∧ Hid ((A.drop k).all (fun a => eqT a (fltT n)) = R)) (fun i => A.length - (intOf i).toNat)
  case atStart => exact ⟨0, by omega, rfl, HR⟩
  case round =>
    obtain ⟨k, hk, rfl, hc⟩ := hrel
    clear HR
    by_cases hlt : k < A.length
    · obtain ⟨_, _, e, _, hat⟩ := unhide HTR
      obtain ⟨b, off, he, c0, c1⟩ := hat k hlt
      have e2 := (Value.slice.inj e).1
      subst e2
      clear hat e
      subst he
      have hc2 := unhide hc
      rw [List.drop_eq_getElem_cons hlt, List.all_cons] at hc2
      obtain ⟨p, hp⟩ : ∃ p, p = A[k] := ⟨_, rfl⟩
      rw [← hp] at c0 c1 hc2
      clear hp hc
      have hkl : (k : Int) < (A.length : Int) := by omega
      cases q1 : (p.1 == 1) with
      | false =>
        have hr : R = false := by
          rw [← hc2]
          unfold eqT fltT
          rw [q1]
          rfl
        subst hr
        clear hc2
        have q1' : (p.1 != 1) = true := by simp [bne, q1]
        go_wp2
        go_ret
        exact ⟨rfl, rfl⟩
      | true =>
        have q1' : (p.1 != 1) = false := by simp [bne, q1]
        cases q2 : (p.2 == n) with
        | false =>
          have hr : R = false := by
            rw [← hc2]
            unfold eqT fltT
            rw [q1, q2]
            rfl
          subst hr
          clear hc2
          have q2' : (p.2 != n) = true := by simp [bne, q2]
          go_wp2
          go_ret
          exact ⟨rfl, rfl⟩
        | true =>
          have q2' : (p.2 != n) = false := by simp [bne, q2]
          have HC : Hid ((A.drop (k + 1)).all (fun a => eqT a (fltT n)) = R) := by
            show _ = _
            rw [← hc2]
            have : eqT p (fltT n) = true := by unfold eqT fltT; rw [q1, q2]; rfl
            rw [this]
            rfl
          clear hc2
          go_wp2
          refine ⟨⟨k + 1, by omega, by simp, HC⟩, ?_⟩
          simp [intOf]
          omega
    · have hc2 := unhide hc
      rw [List.drop_of_length_le (by omega)] at hc2
      have hr : R = true := hc2.symm
      subst hr
      clear hc hc2
      go_wp2
      go_ret
      exact ⟨rfl, rfl⟩
end Go.Proofs.Ytcfgooeljmfjoaa
