/-
  Names: the walks of leastFree and Gen.
-/
import Derived.Test.YthdjdknhjhkngaaNE
namespace Go.Proofs.Ythdjdknhjhkngaa
open Go.RowKit

theorem info_int : (Try.prog.info? 3).map (fun i => (i.zero, i.size, i.bytes)) = some (some (.int .i64 0), 1, 8) := by kernel_rfl
theorem Own.grown {k : IntKind} {w w' : World} {base B : Nat} {e : TypeId} {v : Value} {xs : List Int} (h : Own k w base e v xs) (hg : w.grownBy w' (some B)) (hB : B < base) : Own k w' base e v xs := by
  refine World.ownsRow.kept h hg (.inr ?_)
  intro he
  have := h.lt _ he
  omega
theorem Own.up {k : IntKind} {w : World} {base base' : Nat} {e : TypeId} {v : Value} {xs : List Int} (h : Own k w base e v xs) (hle : base' ≤ base) : Own k w base' e v xs := by
  refine ⟨h.1, ?_⟩
  rcases h.2 with h | ⟨g, cap, cur, h1, h2, h3⟩
  · exact .inl h
  · exact .inr ⟨g, cap, cur, h1, Nat.le_trans hle h2, h3⟩
theorem ints_snoc (l : List Nat) (x : Nat) : ints (l ++ [x]) = ints l ++ [(x : Int)] := by simp [ints]
theorem grownBy_of_ext {w w' : World} {r : Option Nat} (h : Ext w w') : w.grownBy w' r := ⟨h.os, h.tape, h.output, h.size, fun i hi _ => h.block i hi⟩

set_option maxHeartbeats 2000000 in
theorem least_any (s : Nat → Int) (n : Nat) (w : World) (hn : n ≤ (sel s 0 64).length) :
    Calls Try.prog 28 #[.agg (nst .u8 s), .int .i64 (n : Int)] w fun e w' => ∃ ao cap, e = .returned (.slice ao n cap) ∧ Own .i64 w' w.heap.size 3 (.slice ao n cap) (ints (genL s n)) ∧ Ext w w' := by
  obtain ⟨i0, hi, hz0, hz1, hz2⟩ := info_parts info_int
  have hn64 : n ≤ 64 := Nat.le_trans hn (sel_bound s 0 64)
  go_enter Try.func28, Try.ntmps28
  go_wp2
  go_step3
  go_wp2_with (first | (at_make; refine wpList_make_Own _ rfl _ _ 40 rfl (w.heap.size + 1) 3 i0 (.int .i64 0) .i64 Try.underlying40 hi hz0 hz1 _ _ _ n rfl rfl (by omega) ?b1 ?b2 ?b3 ?_))
  case b1 => rw [hz2]; omega
  case b2 => unfold maxLen; omega
  case b3 => simp
  intro w1 hown hgrow
  have hA : Blk w1 w.heap.size (nst .u8 s) 53 := (hgrow.block _ (by simp) (by simp)).trans (Blk.at rfl)
  have hx : Ext w w1 := ((Ext.refl w).alloc _).grown hgrow (by simp) (fun k e => by cases e)
  have HO := hide (And.intro hown (And.intro hA hx))
  clear hown hA hx hgrow
  go_wp2
  go_step3
  go_wp2
  go_loopw [5, 6] (fun v i wr => ∃ k : Nat, k ≤ 64 ∧ i = .int .i64 ((k : Int) + 1) ∧ (sel s 0 k).length ≤ n ∧ Own .i64 wr (w.heap.size + 1) 3 v (ints (sel s 0 k)) ∧ Blk wr w.heap.size (nst .u8 s) 53 ∧ Ext w wr)
    (fun _ i _ => 65 - (intOf i).toNat)
  case atStart => exact ⟨0, by omega, rfl, Nat.zero_le _, (unhide HO).1, (unhide HO).2.1, (unhide HO).2.2⟩
  case round =>
    obtain ⟨k, hk, rfl, hle, hown, hA, hx⟩ := hrel
    have hsz := hx.size
    have hsz1 := hA.lt
    obtain ⟨ao, cap, rfl⟩ := hown.shape
    rw [ints_length] at hown ⊢
    have HL := hide hle
    have H := hide (And.intro hown (And.intro hA hx))
    have fin : (sel s 0 k).length = n → ∃ ao' cap', Value.slice ao (sel s 0 k).length cap = .slice ao' n cap' ∧ Own .i64 wr w.heap.size 3 (.slice ao' n cap') (ints (genL s n)) ∧ Ext w wr := fun e => by
      obtain ⟨h1, h2, h3⟩ := unhide H
      rw [genL_of hk e]
      rw [e] at h1 ⊢
      exact ⟨ao, cap, rfl, h1.up (by omega), h3⟩
    have FIN := hide fin
    clear fin hown hx hle
    by_cases hlt : k < 64
    · have hk2 : (k : Int) + 1 < 65 := by omega
      by_cases hm : (sel s 0 k).length = n
      · have hd : (((sel s 0 k).length : Int) == (n : Int)) = true := by simp [hm]
        have HM := hide hm
        clear hm hA
        go_wp2
        try rw [Exit.noGoto_ret]
        go_ret
        obtain ⟨ao', cap', h1, h2, h3⟩ := unhide FIN (unhide HM)
        exact ⟨ao', cap', by rw [← h1]; rfl, h2, h3⟩
      · have hd : (((sel s 0 k).length : Int) == (n : Int)) = false := by simp; omega
        have ca := hA.cell (nst_get .u8 s (i := k + 1) (by omega))
        have HM := hide hm
        clear hm hA
        by_cases heq : s (k + 1) = 0
        · have hd2 : (s (k + 1) == 0) = true := by simp [heq]
          have HQ := hide heq
          clear heq
          have HO3 := hide ((unhide H).1.alloc (.cells #[.int .i64 ((k : Int) + 1)] 3))
          go_wp2_with (at_builtin; refine wpList_append_Own rfl (.tmp 23) (.tmp 25) 40 rfl (w.heap.size + 1) 3 i0 .i64 8 Try.underlying40 hi hz0 hz1 hz2 _ _ rfl (unhide HO3) _ [(k : Int) + 1] rfl (Row.one _ _ _ _) ?d1 ?d2 ?d3 ?_)
          case d1 => unfold maxLen; simp [ints_length]; have := sel_bound s 0 k; omega
          case d2 => simp [ints_length]; have := sel_bound s 0 k; omega
          case d3 => simp; omega
          intro v3 w3 hown3 hgrow3
          have hA3 : Blk w3 w.heap.size (nst .u8 s) 53 := (hgrow3.block _ (by simp; omega) (by
            intro e
            have := (unhide HO3).lt _ e.symm
            omega)).trans ((unhide H).2.1.alloc _)
          have hx3 : Ext w w3 := ((unhide H).2.2.alloc _).grown hgrow3 (by simp; omega) (fun g e => by have := (unhide HO3).lt _ e; omega)
          have H3 := hide (And.intro hown3 (And.intro hA3 hx3))
          clear hown3 hgrow3 hA3 hx3 HO3
          go_wp2
          try rw [Exit.noGoto_normal]
          go_roundw
          case rel =>
            obtain ⟨h1, h2, h3⟩ := unhide H3
            have h5 := unhide HM
            have h6 := unhide HL
            refine ⟨k + 1, by omega, by go_num, ?_, ?_, h2, h3⟩
            · rw [sel_yes (unhide HQ)]; simp; omega
            · rw [sel_yes (unhide HQ), ints_snoc]; exact h1
          case measure => simp [intOf]; omega
        · have hd2 : (s (k + 1) == 0) = false := by simp [heq]
          have HQ := hide heq
          clear heq
          go_wp2
          try rw [Exit.noGoto_normal]
          go_roundw
          case rel =>
            obtain ⟨h1, h2, h3⟩ := unhide H
            refine ⟨k + 1, by omega, by go_num, ?_, ?_, h2, h3⟩
            · rw [sel_no (unhide HQ)]; exact unhide HL
            · rw [sel_no (unhide HQ)]; exact h1
          case measure => simp [intOf]; omega
    · obtain rfl : k = 64 := by omega
      clear hA
      go_wp2
      try rw [Exit.noGoto_ret]
      go_ret
      have h6 := unhide HL
      obtain ⟨ao', cap', h1, h2, h3⟩ := unhide FIN (by omega)
      exact ⟨ao', cap', by rw [← h1]; rfl, h2, h3⟩
end Go.Proofs.Ythdjdknhjhkngaa
