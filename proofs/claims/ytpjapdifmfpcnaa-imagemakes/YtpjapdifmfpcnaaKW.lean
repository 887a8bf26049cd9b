/-
  Images: wakes.
-/
import Derived.Test.YtpjapdifmfpcnaaJP
namespace Go.Proofs.Ytpjapdifmfpcnaa
open Go.RowKit
set_option linter.unusedVariables false
set_option linter.unusedSimpArgs false

theorem LR.none (w : World) : LR w (.slice none 0 0) [] :=
  ⟨⟨_, _, rfl, fun _ => rfl, Nat.le_refl _, by unfold maxLen; omega, fun i hi => absurd hi (by simp)⟩, fun p hp => by simp at hp⟩
def newI : Img := ⟨0, [], 1, 1, 3, 2⟩
def wkI : Img := ⟨5, [(2, 2, [0, 1, 2, 4])], 1, 1, 3, 2⟩
theorem wk_put : putE newI (0 : Nat) 5 (2 : Nat) (2 : Nat) 4 = 0 := by decide
theorem wk_l : putL [] 0 ((2 : Nat), (2 : Nat), fillB (2 * 2 * 1) [0, 1, 2, 4]) = wkI.L := by decide
theorem wk_gen : genE wkI = 0 := by decide
theorem wk_cmp : cmpB wkI = false := by decide
theorem wk_genL : genL wkI = [(2, 2, [0, 1, 2, 4]), (1, 1, [2])] := by decide
theorem wk_cmp2 : cmpB ⟨5, [(2, 2, [0, 1, 2, 4]), (1, 1, [2])], 1, 1, 3, 2⟩ = true := by decide

set_option maxRecDepth 10000 in
set_option maxHeartbeats 4000000 in
theorem wakes_any (w : World) : Calls Try.prog 6 #[] w fun e w' => e = .returned (.bool true) ∧ Ext w w' := by
  go_enter Try.func6, Try.ntmps6
  go_wp2_with fail
  refine (new_any _).mono ?_
  rintro e w1 ⟨rfl, hx1⟩
  go_wp2_with fail
  have hr3 : Row .u8 (w1.alloc (.cells #[.int .u8 0, .int .u8 1, .int .u8 2, .int .u8 4] 5)) (.slice (some ⟨w1.heap.size, 0, none⟩) ([0, 1, 2, 4] : List Int).length 4) [0, 1, 2, 4] := by
    refine .inr ⟨by simp, w1.heap.size, 0, 4, rfl, by simp, by unfold maxLen; omega, fun i hi => ?_⟩
    have hi' : i < 4 := hi
    rcases (by omega : i = 0 ∨ i = 1 ∨ i = 2 ∨ i = 3) with rfl | rfl | rfl | rfl <;> simp
  refine (put_good (I := newI) (v := .slice Option.none 0 0) (L := []) (LR.none _) (by simp) rfl (by simp) 0 5 2 2 1 _ _ [0, 1, 2, 4] hr3 wk_put (by omega) (by omega) (by omega) rfl (.inr rfl) [] (by decide)).mono ?_
  rintro e w2 ⟨ao2, cap2, L2, rfl, hlo2, hab2, hx2⟩
  rw [wk_l] at hab2
  have hx2' : Ext w w2 := (hx1.alloc _).trans hx2
  obtain ⟨p2, rfl⟩ : ∃ p, L2 = [p] := by
    have hL2 : L2.length = 1 := by rw [← absL_len, hab2]; rfl
    exact List.length_eq_one_iff.1 hL2
  dsimp only [newI, List.length_cons, List.length_nil, Nat.zero_add] at hlo2 ⊢
  have hlr3 := hlo2.lr.ext ((Ext.refl w2).alloc (.cells #[.int .i64 5, .slice ao2 1 cap2, .int .i64 1, .int .i64 1, .int .i64 3, .int .i64 2] 24))
  have hBk := Blk.new w2 #[.int .i64 5, .slice ao2 1 cap2, .int .i64 1, .int .i64 1, .int .i64 3, .int .i64 2] 24
  have H2 := hide (And.intro hlr3 (And.intro hab2.symm (And.intro (hx2'.alloc (.cells #[.int .i64 5, .slice ao2 1 cap2, .int .i64 1, .int .i64 1, .int .i64 3, .int .i64 2] 24)) hBk)))
  clear hr3 hlo2 hab2 hx2 hx2' hx1 hlr3 hBk
  go_wp2_with fail
  refine (complete_any (I := wkI) (unhide H2).1 (by simp) (unhide H2).2.1).mono ?_
  rintro e w3 ⟨rfl, hx3⟩
  rw [wk_cmp]
  have H3 := hide (And.intro ((unhide H2).1.ext hx3) (And.intro (unhide H2).2.1 (And.intro ((unhide H2).2.2.1.trans hx3) ((unhide H2).2.2.2.ext hx3))))
  clear hx3 H2
  obtain ⟨q0, q1, q2, q3, q4, q5⟩ := (unhide H3).2.2.2.six
  go_wp2_with fail
  have hp2 : p2.2.2.2 = [0, 1, 2, 4] := by
    have h9 : [((2 : Int), (2 : Int), ([0, 1, 2, 4] : List Int))] = [absE p2] := (unhide H3).2.1
    have h8 := (List.cons.inj h9).1
    exact (congrArg (fun q => q.2.2) h8).symm
  refine (generate_good (I := wkI) (unhide H3).1 (by simp) (unhide H3).2.1 (by simp [hp2]) (by simp [hp2, Byt]) wk_gen).mono ?_
  rintro e w4 ⟨ao4, cap4, L4, rfl, hlo4, hab4, hx4⟩
  rw [wk_genL] at hab4
  have hx4' := (unhide H3).2.2.1.trans hx4
  obtain ⟨p4, p5, rfl⟩ : ∃ p q, L4 = [p, q] := by
    have hL2 : L4.length = 2 := by rw [← absL_len, hab4]; rfl
    match L4, hL2 with
    | [p, q], _ => exact ⟨p, q, rfl⟩
  have h9 : [absE p4, absE p5] = [((2 : Int), (2 : Int), ([0, 1, 2, 4] : List Int)), (1, 1, [2])] := hab4
  have hp5 : p5.2.2.2 = [2] := by
    have h8 := (List.cons.inj (List.cons.inj h9).2).1
    exact (congrArg (fun q => q.2.2) h8)
  dsimp only [wkI, List.length_cons, List.length_nil, Nat.zero_add, Nat.reduceAdd] at hlo4 ⊢
  have hlr5 := hlo4.lr.ext ((Ext.refl w4).alloc (.cells #[.int .i64 5, .slice ao4 2 cap4, .int .i64 1, .int .i64 1, .int .i64 3, .int .i64 2] 24))
  have hBk := Blk.new w4 #[.int .i64 5, .slice ao4 2 cap4, .int .i64 1, .int .i64 1, .int .i64 3, .int .i64 2] 24
  obtain ⟨b, off, bo, bcap, e1, eb, c0, c1, c2, hr⟩ := hlr5.at 1 (by simp)
  have eb' : p5.2.2.1 = .slice bo 1 bcap := by
    have h7 : p5.2.2.1 = .slice bo p5.2.2.2.length bcap := eb
    rw [h7, hp5]
    rfl
  have c2' : (w4.alloc (.cells #[.int .i64 5, .slice ao4 2 cap4, .int .i64 1, .int .i64 1, .int .i64 3, .int .i64 2] 24)).cell? ⟨b, off + 1 * 3 + 2, none⟩ = some (.slice bo 1 bcap) := by
    have h7 : [p4, p5][1].2.2.2.length = 1 := by
      show p5.2.2.2.length = 1
      rw [hp5]
      rfl
    rw [h7] at c2
    exact c2
  have hr' : Row .u8 (w4.alloc (.cells #[.int .i64 5, .slice ao4 2 cap4, .int .i64 1, .int .i64 1, .int .i64 3, .int .i64 2] 24)) (.slice bo 1 bcap) [2] := by
    have h7 := hr
    have h6 : [p4, p5][1].2.2.2 = [2] := hp5
    rw [h6] at h7
    exact h7
  subst e1
  obtain ⟨b2, off2, e2, hc2⟩ := hr'.at 0 (by simp)
  cases e2
  have d0 := hc2 0 (by simp)
  simp at d0
  obtain ⟨_, _, e9, _, k1, k2⟩ := hlr5.shape
  cases e9
  have k2' : cap4 ≤ 9223372036854775807 := by unfold maxLen at k2; omega
  have hcb : 1 ≤ bcap ∧ bcap ≤ 9223372036854775807 := by
    obtain ⟨_, _, e9, _, k3, k4⟩ := hr'.shape
    cases e9
    unfold maxLen at k4
    exact ⟨k3, by omega⟩
  obtain ⟨hcb1, hcb2⟩ := hcb
  have H4 := hide (And.intro hlr5 (And.intro hab4.symm (And.intro (hx4'.alloc (.cells #[.int .i64 5, .slice (some ⟨b, off, none⟩) 2 cap4, .int .i64 1, .int .i64 1, .int .i64 3, .int .i64 2] 24)) hBk)))
  clear hlr5 hab4 hx4' hBk hlo4 hx4 H3 hr hr' hc2 h9 hp5 eb eb' c2 hp2 k2
  go_wp2_with fail
  refine (complete_any (I := ⟨5, [(2, 2, [0, 1, 2, 4]), (1, 1, [2])], 1, 1, 3, 2⟩) (unhide H4).1 (by simp) (unhide H4).2.1).mono ?_
  rintro e w5 ⟨rfl, hx5⟩
  rw [wk_cmp2]
  have H5 := hide ((unhide H4).2.2.1.trans hx5)
  clear H4 hx5
  go_wp2
  go_ret
  exact ⟨rfl, unhide H5⟩
end Go.Proofs.Ytpjapdifmfpcnaa
