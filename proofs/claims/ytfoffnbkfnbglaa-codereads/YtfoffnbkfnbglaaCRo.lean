/-
  The document's num.
-/
import Derived.Test.YtfoffnbkfnbglaaCX
import Derived.Deep.QuietTactic
import Derived.BigQuiet
namespace Go.Proofs.Ytfoffnbkfnbglaa
open Go.RowKit
set_option linter.unusedVariables false
set_option linter.unusedSimpArgs false

theorem numA_four (bs : List Int) (p : Nat) (h : p + 4 ≤ bs.length) : numA bs p = bs[p] + 256 * (bs[p + 1] + 256 * (bs[p + 2] + 256 * bs[p + 3])) := by
  unfold numA
  have e : (bs.drop p).take 4 = [bs[p], bs[p + 1], bs[p + 2], bs[p + 3]] := by
    apply List.ext_getElem?
    intro i
    rcases (by omega : i = 0 ∨ i = 1 ∨ i = 2 ∨ i = 3 ∨ 4 ≤ i) with rfl | rfl | rfl | rfl | hi
    · simp [List.getElem?_take, List.getElem?_drop]
    · simp [List.getElem?_take, List.getElem?_drop]
    · simp [List.getElem?_take, List.getElem?_drop]
    · simp [List.getElem?_take, List.getElem?_drop]
    · rw [List.getElem?_eq_none (by simp; omega), List.getElem?_eq_none (by simp; omega)]
  rw [e]
  simp only [numOf]
  omega

set_option maxRecDepth 10000 in
set_option maxHeartbeats 4000000 in
theorem refNum_any (ao : Option Addr) (cap : Nat) (bs : List Int) (p : Nat) (w : World) (hr : Row .u8 w (.slice ao bs.length cap) bs) (hB : Byt bs) (h : p + 4 ≤ bs.length) :
    Calls Try.prog 15 #[.slice ao bs.length cap, .int .i64 (p : Int)] w fun e w' => e = .returned (.int .i64 (numA bs p)) ∧ Ext w w' := by
  obtain ⟨_, _, esh, hsh, hlc, hcm⟩ := hr.shape
  have esh2 := (Value.slice.inj esh).2.2
  rw [← esh2] at hlc hcm
  clear esh esh2 hsh
  unfold maxLen at hcm
  obtain ⟨b, off, ea, hc⟩ := hr.at p (by omega)
  subst ea
  have EN := hide (numA_four bs p h)
  have h0 := hB bs[p] (List.getElem_mem _)
  have h1 := hB bs[p + 1] (List.getElem_mem _)
  have h2 := hB bs[p + 2] (List.getElem_mem _)
  have h3 := hB bs[p + 3] (List.getElem_mem _)
  have c0 := hc p (by omega)
  have c1 := hc (p + 1) (by omega)
  have c2 := hc (p + 2) (by omega)
  have c3 := hc (p + 3) (by omega)
  generalize numA bs p = y at *
  generalize bs[p] = x0 at *
  generalize bs[p + 1] = x1 at *
  generalize bs[p + 2] = x2 at *
  generalize bs[p + 3] = x3 at *
  clear hc hr hB
  have w1 : IntKind.i64.wrap ((p : Int) + 1) = (p : Int) + 1 := by simp [IntKind.wrap, IntKind.bits, IntKind.signed]; omega
  have w2 : IntKind.i64.wrap ((p : Int) + 2) = (p : Int) + 2 := by simp [IntKind.wrap, IntKind.bits, IntKind.signed]; omega
  have w3 : IntKind.i64.wrap ((p : Int) + 3) = (p : Int) + 3 := by simp [IntKind.wrap, IntKind.bits, IntKind.signed]; omega
  have t0 : (p : Int) < (bs.length : Int) := by omega
  have t1 : (p : Int) + 1 < (bs.length : Int) := by omega
  have t2 : (p : Int) + 2 < (bs.length : Int) := by omega
  have t3 : (p : Int) + 3 < (bs.length : Int) := by omega
  have n1 : ((p : Int) + 1).toNat = p + 1 := by omega
  have n2 : ((p : Int) + 2).toNat = p + 2 := by omega
  have n3 : ((p : Int) + 3).toNat = p + 3 := by omega
  generalize bs.length = n at *
  go_enter Try.func15, Try.ntmps15
  go_upto_region 1 with fail
  go_quiet (fail)
  go_wp2
  go_ret
  have e := unhide EN
  have e2 : x0 + x1 * 256 + x2 * 65536 + x3 * 16777216 = y := by omega
  exact ⟨by rw [← e2]; rfl, (Ext.refl w).drewN _⟩
end Go.Proofs.Ytfoffnbkfnbglaa
