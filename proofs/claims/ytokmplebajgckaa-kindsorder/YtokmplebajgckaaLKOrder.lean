/-
  KindsOrder: + * == != && and two bars do not hang on the order of both; for every two types.
-/
import Derived.Test.YtokmplebajgckaaKV
import Derived.Test.YtokmplebajgckaaKF
import Derived.Test.YtokmplebajgckaaFrK
namespace Go.Proofs.Ytokmplebajgckaa
open Go.ChangeShapes Go.WideShapes Go.ChangeAt Go.RowKit
set_option linter.unusedSimpArgs false
set_option linter.unusedVariables false

def ops6 : List Byts8 := [[43], [42], [61, 61], [33, 61], [38, 38], [124, 124]]
def strC (l : List Byts8) : Array Value := (l.map (fun t => Value.string ⟨t.toArray⟩)).toArray
theorem strC_at {w : World} {b : Nat} {t : TypeId} {l : List Byts8} (h : Blk w b (strC l) t) (k : Nat) (hk : k < l.length) : w.cell? ⟨b, k, none⟩ = some (.string ⟨l[k].toArray⟩) := by
  refine h.cell ?_
  unfold strC
  rw [List.getElem?_toArray, List.getElem?_map, List.getElem?_eq_getElem hk]
  rfl
theorem tog_comm (a c : Ty) : comP (sumT a c) (togB a c) = comP (sumT c a) (togB c a) := by
  by_cases h : a.1 = c.1
  · have e1 : sumT a c = sumT c a := by unfold sumT; rw [h, Int.max_comm]
    have e2 : togB a c = togB c a := by
      have e3 : (a.2 == c.2) = (c.2 == a.2) := by
        rw [Bool.eq_iff_iff, beq_iff_eq, beq_iff_eq]
        exact eq_comm
      unfold togB numP
      rw [h, e3]
      cases (c.2 == a.2) <;> cases (a.2 == 1) <;> cases (c.2 == 1) <;> rfl
    rw [e1, e2]
  · have e1 : togB a c = false := by
      unfold togB
      rw [show (a.1 == c.1) = false from beq_eq_false_iff_ne.2 h]
      simp
    have e2 : togB c a = false := by
      unfold togB
      rw [show (c.1 == a.1) = false from beq_eq_false_iff_ne.2 (Ne.symm h)]
      simp
    rw [e1, e2]
    rfl
theorem eqv_comm (a c : Ty) : (eqT a c && valuP a) = (eqT c a && valuP c) := by
  cases h : eqT a c with
  | true =>
    have := eqT_iff.1 h
    subst this
    rw [h]
  | false => rw [eqT_comm c a, h]; rfl
theorem bin_comm (a c : Ty) : ∀ o ∈ ops6, binP o a c = binP o c a := by
  intro o ho
  have hm : (mayP a && mayP c) = (mayP c && mayP a) := Bool.and_comm _ _
  unfold ops6 at ho
  simp only [List.mem_cons, List.not_mem_nil, or_false] at ho
  unfold binP
  rw [hm]
  rcases ho with rfl | rfl | rfl | rfl | rfl | rfl
  · rw [show op1.contains [43] = true from rfl, if_pos rfl, if_pos rfl, tog_comm]
  · rw [show op1.contains [42] = true from rfl, if_pos rfl, if_pos rfl, tog_comm]
  · rw [show op1.contains [61, 61] = false from rfl, show op2.contains [61, 61] = false from rfl, show op3.contains [61, 61] = true from rfl, eqv_comm]; rfl
  · rw [show op1.contains [33, 61] = false from rfl, show op2.contains [33, 61] = false from rfl, show op3.contains [33, 61] = true from rfl, eqv_comm]; rfl
  · rw [show op1.contains [38, 38] = false from rfl, show op2.contains [38, 38] = false from rfl, show op3.contains [38, 38] = false from rfl, show op4.contains [38, 38] = true from rfl, Bool.and_comm (eqT a truT)]; rfl
  · rw [show op1.contains [124, 124] = false from rfl, show op2.contains [124, 124] = false from rfl, show op3.contains [124, 124] = false from rfl, show op4.contains [124, 124] = true from rfl, Bool.and_comm (eqT a truT)]; rfl

set_option maxHeartbeats 4000000 in
theorem kindsOrder_any (a c : Ty) (w : World) :
    Calls Try.prog 7 #[.agg #[.int .i64 (a).1, .int .i64 (a).2], .agg #[.int .i64 (c).1, .int .i64 (c).2]] w fun e w' => e = .returned (.bool true) ∧ Ext w w' := by
  have HW := hide wakes13_any
  have HBC := hide (bin_comm a c)
  have HB1 := hide (fun o => binary_any o a c)
  have HB2 := hide (fun o => binary_any o c a)
  have HL : Hid (ops6.length = 6) := rfl
  have HCS : Hid (strC ops6 = #[.string ⟨#[43]⟩, .string ⟨#[42]⟩, .string ⟨#[61, 61]⟩, .string ⟨#[33, 61]⟩, .string ⟨#[38, 38]⟩, .string ⟨#[124, 124]⟩]) := rfl
  have A0 : Hid (Blk ((w.alloc (.cells #[.int .i64 (a).1, .int .i64 (a).2] 23)).alloc (.cells #[.int .i64 (c).1, .int .i64 (c).2] 23)) w.heap.size #[.int .i64 (a).1, .int .i64 (a).2] 23) := (Blk.at rfl).alloc _
  have C0 : Hid (Blk ((w.alloc (.cells #[.int .i64 (a).1, .int .i64 (a).2] 23)).alloc (.cells #[.int .i64 (c).1, .int .i64 (c).2] 23)) (w.heap.size + 1) #[.int .i64 (c).1, .int .i64 (c).2] 23) := Blk.at (by simp)
  have X0 := hide (((Ext.refl w).alloc (.cells #[.int .i64 (a).1, .int .i64 (a).2] 23)).alloc (.cells #[.int .i64 (c).1, .int .i64 (c).2] 23))
  go_enter Try.func7, Try.ntmps7
  go_wp2_with fail
  refine (unhide HW _).mono ?_
  rintro e w1 ⟨rfl, hx1⟩
  have A1 := hide (((unhide A0).ext hx1).alloc (.cells (strC ops6) 9))
  have C1 := hide (((unhide C0).ext hx1).alloc (.cells (strC ops6) 9))
  have X1 := hide (((unhide X0).trans hx1).alloc (.cells (strC ops6) 9))
  have S1 := hide (Blk.new w1 (strC ops6) 9)
  clear hx1 A0 C0 X0 HW
  go_wp2
  rw [← unhide HCS]
  clear HCS
  generalize w1.alloc (.cells (strC ops6) 9) = w2 at A1 C1 X1 S1 ⊢
  generalize w1.heap.size = g at *
  generalize ops6 = L at *
  go_loopw [15] (fun i wr => ∃ k : Nat, k ≤ 6 ∧ i = .int .i64 (k : Int) ∧ Hid (Blk wr w.heap.size #[.int .i64 (a).1, .int .i64 (a).2] 23) ∧ Hid (Blk wr (w.heap.size + 1) #[.int .i64 (c).1, .int .i64 (c).2] 23) ∧ Hid (Blk wr g (strC L) 9) ∧ Hid (Ext w wr)) (fun i _ => 6 - (intOf i).toNat)
  case atStart => exact ⟨0, by omega, rfl, A1, C1, S1, X1⟩
  case round =>
    obtain ⟨k, hk, rfl, hA, hC, hS, hx⟩ := hrel
    clear A1 C1 S1 X1
    by_cases hlt : k < 6
    · have hk2 : k < L.length := by rw [unhide HL]; exact hlt
      have cs := strC_at (unhide hS) k hk2
      have hbc := unhide HBC L[k] (List.getElem_mem hk2)
      obtain ⟨o, ho⟩ : ∃ o, o = L[k] := ⟨_, rfl⟩
      rw [← ho] at cs hbc
      clear ho
      have HC1 := hide (unhide HB1 o)
      have HC2 := hide (unhide HB2 o)
      rw [hbc] at HC1
      clear hbc
      generalize binP o c a = U at *
      obtain ⟨a0, a1⟩ := (unhide hA).two
      obtain ⟨c0, c1⟩ := (unhide hC).two
      go_wp2_with fail
      refine (unhide HC1 _).mono ?_
      rintro e w3 ⟨rfl, hx3⟩
      have A3 := hide (((unhide hA).ext hx3).alloc (.cells #[.int .i64 (U.1).1, .int .i64 (U.1).2] 23))
      have C3 := hide (((unhide hC).ext hx3).alloc (.cells #[.int .i64 (U.1).1, .int .i64 (U.1).2] 23))
      have S3 := hide (((unhide hS).ext hx3).alloc (.cells #[.int .i64 (U.1).1, .int .i64 (U.1).2] 23))
      have X3 := hide (((unhide hx).trans hx3).alloc (.cells #[.int .i64 (U.1).1, .int .i64 (U.1).2] 23))
      have U3 := hide (Blk.new w3 #[.int .i64 (U.1).1, .int .i64 (U.1).2] 23)
      clear hx3 a0 a1 c0 c1 hA hC hS hx cs
      go_upto_region 7 with fail
      generalize w3.alloc (.cells #[.int .i64 (U.1).1, .int .i64 (U.1).2] 23) = w4 at A3 C3 S3 X3 U3 ⊢
      generalize w3.heap.size = r at *
      obtain ⟨a0, a1⟩ := (unhide A3).two
      obtain ⟨c0, c1⟩ := (unhide C3).two
      go_wp2_with fail
      refine (unhide HC2 _).mono ?_
      rintro e w5 ⟨rfl, hx5⟩
      have A5 := hide (((unhide A3).ext hx5).alloc (.cells #[.int .i64 (U.1).1, .int .i64 (U.1).2] 23))
      have C5 := hide (((unhide C3).ext hx5).alloc (.cells #[.int .i64 (U.1).1, .int .i64 (U.1).2] 23))
      have S5 := hide (((unhide S3).ext hx5).alloc (.cells #[.int .i64 (U.1).1, .int .i64 (U.1).2] 23))
      have X5 := hide (((unhide X3).trans hx5).alloc (.cells #[.int .i64 (U.1).1, .int .i64 (U.1).2] 23))
      have U5 := hide (((unhide U3).ext hx5).alloc (.cells #[.int .i64 (U.1).1, .int .i64 (U.1).2] 23))
      have V5 := hide (Blk.new w5 #[.int .i64 (U.1).1, .int .i64 (U.1).2] 23)
      clear hx5 a0 a1 c0 c1 A3 C3 S3 X3 U3
      go_upto_region 8 with fail
      generalize w5.alloc (.cells #[.int .i64 (U.1).1, .int .i64 (U.1).2] 23) = w6 at A5 C5 S5 X5 U5 V5 ⊢
      generalize w5.heap.size = r2 at *
      obtain ⟨a0, a1⟩ := (unhide U5).two
      obtain ⟨c0, c1⟩ := (unhide V5).two
      go_wp2
      go_roundw
      case rel => exact ⟨k + 1, by omega, by go_num, A5, C5, S5, X5⟩
      case measure => simp [intOf]; omega
    · go_wp2
      go_ret
      exact ⟨rfl, unhide hx⟩

set_option maxRecDepth 100000 in
theorem kindsOrder_owes (H : Type) (enc : TypeId × Value → H) (W : World) (base : Nat) (args : Array Value) (ds : List (DataW H)) (p : List MemPlace) : Owes H enc Try.prog 7 Try.f7 Rows.kindsOrderSpec W base args ds p := by
  intro hval hA hsz
  rw [Try.params7] at hA hval hsz
  obtain ⟨v0, vs0, d0, ds0, p0, q0, hargs, rfl, rfl, h0, r0⟩ := trodAll_cons hA
  obtain ⟨v1, vs1, d1, ds1, p1, q1, rfl, rfl, rfl, h1, r1⟩ := trodAll_cons r0
  obtain ⟨rfl, rfl, rfl⟩ := trodAll_nil r1
  obtain rfl : args = #[v0, v1] := by cases args; simp_all
  obtain ⟨a, rfl⟩ := open_ty (hval 0 23 v0 rfl rfl) h0
  obtain ⟨c, rfl⟩ := open_ty (hval 1 23 v1 rfl rfl) h1
  exact ⟨⟨rfl, rfl, rfl⟩, kindsOrder_any a c W⟩

set_option maxRecDepth 100000 in
theorem kindsOrder_lifted (os : Os) (started : os.Started) (H : Type) (enc : TypeId × Value → H) :
    ReturnsInHanded {} Try.checked os 7 .any (Rows.kindsOrderSpec.pre6 enc Try.prog Try.f7 [] false) (Rows.kindsOrderSpec.post enc Try.prog Try.f7 false true false false) :=
  lift_law (C := Try.checked) own laidOut started (by kernel_rfl) Try.func7 (T := 4) rfl Try.underlying4 rfl (by kernel_rfl)
    (ChangeSpec.witness6 (enc := enc) (C := Try.checked) false ⟨#[], #[.agg #[.int .i64 0, .int .i64 0], .agg #[.int .i64 0, .int .i64 0]], []⟩ 8 (by kernel_rfl) (by kernel_rfl) (by kernel_rfl) (by kernel_rfl)) (kindsOrder_owes H enc)

theorem kindsOrder_holds : Rows.KindsOrderSaid :=
  OpenClaim.holds_of_wide 7 Try.f7 rfl rfl rfl rfl rfl rfl rfl ⟨rfl, rfl, rfl, rfl, rfl⟩ rfl rfl rfl rfl rfl (by kernel_rfl) Try.func7 (by kernel_rfl)
    (of_decide_eq_true (by kernel_rfl)) (by unfold Func.isWrapper; rw [if_neg (of_decide_eq_false (by kernel_rfl))]; exact ⟨rfl, rfl⟩)
    (fun os started H enc _ => kindsOrder_lifted os started H enc)
#print axioms kindsOrder_holds
end Go.Proofs.Ytokmplebajgckaa
