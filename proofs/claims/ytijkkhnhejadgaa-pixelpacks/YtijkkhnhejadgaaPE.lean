/-
  Pixels: the walk of number: a colour's channels as one number.
-/
import Derived.Test.YtijkkhnhejadgaaPD
namespace Go.Proofs.Ytijkkhnhejadgaa
open Go.RowKit

/-- The number that the first k channels make. -/
def packK (L : Nat → Nat) (c : Nat → Int) : Nat → Int
  | 0 => 0
  | k + 1 => if 0 < L (4 * k) then bits .or .u32 (packK L c k) (bitsI (c (L (4 * k + 2))) (L (4 * k)) * 2 ^ L (4 * k + 1) % 4294967296) else packK L c k
/-- The numbers of a layout's channels are within what they may be. -/
def LOK (L : Nat → Nat) : Prop := ∀ k, k < 4 → L (4 * k) ≤ 16 ∧ L (4 * k + 1) ≤ 31 ∧ L (4 * k + 2) ≤ 3 ∧ L (4 * k + 3) ≤ 3

theorem chans_range (F S : Nat) (O : Bool) (L : Nat → Nat) (w : World) : (w.alloc (.cells (layA F S O L) 60)).rangeAt w.heap.size 3 [.int .i64 ((L 0 : Nat) : Int), .int .i64 ((L 1 : Nat) : Int), .int .i64 ((L 2 : Nat) : Int), .int .i64 ((L 3 : Nat) : Int), .int .i64 ((L 4 : Nat) : Int), .int .i64 ((L 5 : Nat) : Int), .int .i64 ((L 6 : Nat) : Int), .int .i64 ((L 7 : Nat) : Int), .int .i64 ((L 8 : Nat) : Int), .int .i64 ((L 9 : Nat) : Int), .int .i64 ((L 10 : Nat) : Int), .int .i64 ((L 11 : Nat) : Int), .int .i64 ((L 12 : Nat) : Int), .int .i64 ((L 13 : Nat) : Int), .int .i64 ((L 14 : Nat) : Int), .int .i64 ((L 15 : Nat) : Int)] := by
  intro j v hv
  refine (Blk.at rfl).cell ?_
  have hj : j < 16 := by simpa using (List.getElem?_eq_some_iff.1 hv).1
  have e : (layA F S O L).toList.drop 3 = [.int .i64 ((L 0 : Nat) : Int), .int .i64 ((L 1 : Nat) : Int), .int .i64 ((L 2 : Nat) : Int), .int .i64 ((L 3 : Nat) : Int), .int .i64 ((L 4 : Nat) : Int), .int .i64 ((L 5 : Nat) : Int), .int .i64 ((L 6 : Nat) : Int), .int .i64 ((L 7 : Nat) : Int), .int .i64 ((L 8 : Nat) : Int), .int .i64 ((L 9 : Nat) : Int), .int .i64 ((L 10 : Nat) : Int), .int .i64 ((L 11 : Nat) : Int), .int .i64 ((L 12 : Nat) : Int), .int .i64 ((L 13 : Nat) : Int), .int .i64 ((L 14 : Nat) : Int), .int .i64 ((L 15 : Nat) : Int)] := rfl
  rw [← e, List.getElem?_drop] at hv
  simpa using hv
theorem range_alloc {w : World} {b o : Nat} {cs : List Value} (h : w.rangeAt b o cs) (x : Obj) : (w.alloc x).rangeAt b o cs := by
  intro j v hv
  have := h j v hv
  rw [World.cell?_of_block (w := w) (heap_alloc_old w x (World.block_lt_of_cell? w _ this))]
  exact this
theorem size58 : (Try.prog.info? 58).map (·.size) = some 16 := by kernel_rfl
theorem index58_0 (L : Nat → Nat) (w : World) : (Instr.index 58 (.agg #[.int .i64 ((L 0 : Nat) : Int), .int .i64 ((L 1 : Nat) : Int), .int .i64 ((L 2 : Nat) : Int), .int .i64 ((L 3 : Nat) : Int), .int .i64 ((L 4 : Nat) : Int), .int .i64 ((L 5 : Nat) : Int), .int .i64 ((L 6 : Nat) : Int), .int .i64 ((L 7 : Nat) : Int), .int .i64 ((L 8 : Nat) : Int), .int .i64 ((L 9 : Nat) : Int), .int .i64 ((L 10 : Nat) : Int), .int .i64 ((L 11 : Nat) : Int), .int .i64 ((L 12 : Nat) : Int), .int .i64 ((L 13 : Nat) : Int), .int .i64 ((L 14 : Nat) : Int), .int .i64 ((L 15 : Nat) : Int)]) (.int .i64 0)).run Try.prog w = .ok (.agg #[.int .i64 ((L 0 : Nat) : Int), .int .i64 ((L 1 : Nat) : Int), .int .i64 ((L 2 : Nat) : Int), .int .i64 ((L 3 : Nat) : Int)]) w := by kernel_rfl
theorem index58_1 (L : Nat → Nat) (w : World) : (Instr.index 58 (.agg #[.int .i64 ((L 0 : Nat) : Int), .int .i64 ((L 1 : Nat) : Int), .int .i64 ((L 2 : Nat) : Int), .int .i64 ((L 3 : Nat) : Int), .int .i64 ((L 4 : Nat) : Int), .int .i64 ((L 5 : Nat) : Int), .int .i64 ((L 6 : Nat) : Int), .int .i64 ((L 7 : Nat) : Int), .int .i64 ((L 8 : Nat) : Int), .int .i64 ((L 9 : Nat) : Int), .int .i64 ((L 10 : Nat) : Int), .int .i64 ((L 11 : Nat) : Int), .int .i64 ((L 12 : Nat) : Int), .int .i64 ((L 13 : Nat) : Int), .int .i64 ((L 14 : Nat) : Int), .int .i64 ((L 15 : Nat) : Int)]) (.int .i64 1)).run Try.prog w = .ok (.agg #[.int .i64 ((L 4 : Nat) : Int), .int .i64 ((L 5 : Nat) : Int), .int .i64 ((L 6 : Nat) : Int), .int .i64 ((L 7 : Nat) : Int)]) w := by kernel_rfl
theorem index58_2 (L : Nat → Nat) (w : World) : (Instr.index 58 (.agg #[.int .i64 ((L 0 : Nat) : Int), .int .i64 ((L 1 : Nat) : Int), .int .i64 ((L 2 : Nat) : Int), .int .i64 ((L 3 : Nat) : Int), .int .i64 ((L 4 : Nat) : Int), .int .i64 ((L 5 : Nat) : Int), .int .i64 ((L 6 : Nat) : Int), .int .i64 ((L 7 : Nat) : Int), .int .i64 ((L 8 : Nat) : Int), .int .i64 ((L 9 : Nat) : Int), .int .i64 ((L 10 : Nat) : Int), .int .i64 ((L 11 : Nat) : Int), .int .i64 ((L 12 : Nat) : Int), .int .i64 ((L 13 : Nat) : Int), .int .i64 ((L 14 : Nat) : Int), .int .i64 ((L 15 : Nat) : Int)]) (.int .i64 2)).run Try.prog w = .ok (.agg #[.int .i64 ((L 8 : Nat) : Int), .int .i64 ((L 9 : Nat) : Int), .int .i64 ((L 10 : Nat) : Int), .int .i64 ((L 11 : Nat) : Int)]) w := by kernel_rfl
theorem index58_3 (L : Nat → Nat) (w : World) : (Instr.index 58 (.agg #[.int .i64 ((L 0 : Nat) : Int), .int .i64 ((L 1 : Nat) : Int), .int .i64 ((L 2 : Nat) : Int), .int .i64 ((L 3 : Nat) : Int), .int .i64 ((L 4 : Nat) : Int), .int .i64 ((L 5 : Nat) : Int), .int .i64 ((L 6 : Nat) : Int), .int .i64 ((L 7 : Nat) : Int), .int .i64 ((L 8 : Nat) : Int), .int .i64 ((L 9 : Nat) : Int), .int .i64 ((L 10 : Nat) : Int), .int .i64 ((L 11 : Nat) : Int), .int .i64 ((L 12 : Nat) : Int), .int .i64 ((L 13 : Nat) : Int), .int .i64 ((L 14 : Nat) : Int), .int .i64 ((L 15 : Nat) : Int)]) (.int .i64 3)).run Try.prog w = .ok (.agg #[.int .i64 ((L 12 : Nat) : Int), .int .i64 ((L 13 : Nat) : Int), .int .i64 ((L 14 : Nat) : Int), .int .i64 ((L 15 : Nat) : Int)]) w := by kernel_rfl
theorem Blk.vec {w : World} {b : Nat} {a : Nat → Int} {t : TypeId} (h : Blk w b #[.int .i32 (a 0), .int .i32 (a 1), .int .i32 (a 2), .int .i32 (a 3)] t) (k : Nat) (hk : k < 4) : w.cell? ⟨b, k, none⟩ = some (.int .i32 (a k)) := by
  refine h.cell ?_
  rcases (by omega : k = 0 ∨ k = 1 ∨ k = 2 ∨ k = 3) with rfl | rfl | rfl | rfl <;> rfl

set_option maxHeartbeats 1000000 in
theorem number_lay (F S : Nat) (O : Bool) (L : Nat → Nat) (c : Nat → Int) (w : World) (hL : LOK L) :
    Calls Try.prog 36 #[.agg (layA F S O L), .agg #[.int .i32 (c 0), .int .i32 (c 1), .int .i32 (c 2), .int .i32 (c 3)]] w fun e w' => e = .returned (.int .u32 (packK L c 4)) ∧ Ext w w' := by
  have R := hide ((chans_range F S O L w))
  have B := hide (Blk.at (w := w.alloc (.cells (layA F S O L) 60)) (b := w.heap.size + 1) (cs := #[.int .i32 (c 0), .int .i32 (c 1), .int .i32 (c 2), .int .i32 (c 3)]) (t := 35) (by simp))
  have HL := hide hL
  clear hL
  go_enter Try.func36, Try.ntmps36
  go_wp2_with (refine wpList_load_mid rfl 58 (.tmp 8) rfl w.heap.size 3 rfl [.int .i64 ((L 0 : Nat) : Int), .int .i64 ((L 1 : Nat) : Int), .int .i64 ((L 2 : Nat) : Int), .int .i64 ((L 3 : Nat) : Int), .int .i64 ((L 4 : Nat) : Int), .int .i64 ((L 5 : Nat) : Int), .int .i64 ((L 6 : Nat) : Int), .int .i64 ((L 7 : Nat) : Int), .int .i64 ((L 8 : Nat) : Int), .int .i64 ((L 9 : Nat) : Int), .int .i64 ((L 10 : Nat) : Int), .int .i64 ((L 11 : Nat) : Int), .int .i64 ((L 12 : Nat) : Int), .int .i64 ((L 13 : Nat) : Int), .int .i64 ((L 14 : Nat) : Int), .int .i64 ((L 15 : Nat) : Int)] _ (range_alloc (unhide R) _) Try.underlying58 rfl size58 ?_)
  go_loopw [5, 10] (fun x i wr => ∃ k : Nat, k ≤ 4 ∧ i = .int .i64 k ∧ x = .int .u32 (packK L c k) ∧ Blk wr (w.heap.size + 1) #[.int .i32 (c 0), .int .i32 (c 1), .int .i32 (c 2), .int .i32 (c 3)] 35 ∧ Ext w wr) (fun _ i _ => 4 - (intOf i).toNat)
  case atStart => exact ⟨0, by omega, rfl, rfl, unhide B, ((Ext.refl w).alloc _).alloc _⟩
  case round =>
    obtain ⟨k, hk, rfl, rfl, hb, hx⟩ := hrel
    have D := hide (And.intro hb hx)
    clear hb hx
    by_cases h4 : k = 4
    · subst h4
      go_wp2
      go_ret
      exact ⟨rfl, (unhide D).2⟩
    · rcases (by omega : k = 0 ∨ k = 1 ∨ k = 2 ∨ k = 3) with rfl | rfl | rfl | rfl
      · have ht := unhide HL 0 (by omega)
        simp only [Nat.reduceMul, Nat.reduceAdd] at ht
        have E1 : Hid (0 < L 0 → packK L c 1 = bits .or .u32 (packK L c 0) (bitsI (c (L 2)) (L 0) * 2 ^ L 1 % 4294967296)) := fun h => if_pos h
        have E2 : Hid (¬ 0 < L 0 → packK L c 1 = packK L c 0) := fun h => if_neg h
        have D1 := hide (And.intro ((unhide D).1.alloc (.cells #[.int .i64 ((L 0 : Nat) : Int), .int .i64 ((L 1 : Nat) : Int), .int .i64 ((L 2 : Nat) : Int), .int .i64 ((L 3 : Nat) : Int)] 57)) ((unhide D).2.alloc (.cells #[.int .i64 ((L 0 : Nat) : Int), .int .i64 ((L 1 : Nat) : Int), .int .i64 ((L 2 : Nat) : Int), .int .i64 ((L 3 : Nat) : Int)] 57)))
        have hc := (unhide D1).1.vec (L 2) (by omega)
        have hix := index58_0 L
        have hi4 : ((L 2 : Nat) : Int) < 4 := by omega
        have hs4 : ((L 1 : Nat) : Int) < 32 := by omega
        have hb := bits_bound (c (L 2)) (k := L 0) (by omega)
        have hf := full_nonneg (k := L 0) (by omega)
        clear D B R
        generalize packK L c 0 = x at *
        by_cases h0 : 0 < L 0
        · go_wp2
          go_quiet (first | (go_at_call 25; refine Calls.quiet_of_same (bitsOf_any _ (L 0) _ (by omega))))
          go_wp2
          go_roundw
          case rel => exact ⟨1, by omega, rfl, congrArg _ (unhide E1 h0).symm, (unhide D1).1.drewN _, (unhide D1).2.drewN _⟩
          case measure => simp [intOf]
        · go_wp2
          go_roundw
          case rel => exact ⟨1, by omega, rfl, congrArg _ (unhide E2 h0).symm, (unhide D1).1, (unhide D1).2⟩
          case measure => simp [intOf]
      · have ht := unhide HL 1 (by omega)
        simp only [Nat.reduceMul, Nat.reduceAdd] at ht
        have E1 : Hid (0 < L 4 → packK L c 2 = bits .or .u32 (packK L c 1) (bitsI (c (L 6)) (L 4) * 2 ^ L 5 % 4294967296)) := fun h => if_pos h
        have E2 : Hid (¬ 0 < L 4 → packK L c 2 = packK L c 1) := fun h => if_neg h
        have D1 := hide (And.intro ((unhide D).1.alloc (.cells #[.int .i64 ((L 4 : Nat) : Int), .int .i64 ((L 5 : Nat) : Int), .int .i64 ((L 6 : Nat) : Int), .int .i64 ((L 7 : Nat) : Int)] 57)) ((unhide D).2.alloc (.cells #[.int .i64 ((L 4 : Nat) : Int), .int .i64 ((L 5 : Nat) : Int), .int .i64 ((L 6 : Nat) : Int), .int .i64 ((L 7 : Nat) : Int)] 57)))
        have hc := (unhide D1).1.vec (L 6) (by omega)
        have hix := index58_1 L
        have hi4 : ((L 6 : Nat) : Int) < 4 := by omega
        have hs4 : ((L 5 : Nat) : Int) < 32 := by omega
        have hb := bits_bound (c (L 6)) (k := L 4) (by omega)
        have hf := full_nonneg (k := L 4) (by omega)
        clear D B R
        generalize packK L c 1 = x at *
        by_cases h0 : 0 < L 4
        · go_wp2
          go_quiet (first | (go_at_call 25; refine Calls.quiet_of_same (bitsOf_any _ (L 4) _ (by omega))))
          go_wp2
          go_roundw
          case rel => exact ⟨2, by omega, rfl, congrArg _ (unhide E1 h0).symm, (unhide D1).1.drewN _, (unhide D1).2.drewN _⟩
          case measure => simp [intOf]
        · go_wp2
          go_roundw
          case rel => exact ⟨2, by omega, rfl, congrArg _ (unhide E2 h0).symm, (unhide D1).1, (unhide D1).2⟩
          case measure => simp [intOf]
      · have ht := unhide HL 2 (by omega)
        simp only [Nat.reduceMul, Nat.reduceAdd] at ht
        have E1 : Hid (0 < L 8 → packK L c 3 = bits .or .u32 (packK L c 2) (bitsI (c (L 10)) (L 8) * 2 ^ L 9 % 4294967296)) := fun h => if_pos h
        have E2 : Hid (¬ 0 < L 8 → packK L c 3 = packK L c 2) := fun h => if_neg h
        have D1 := hide (And.intro ((unhide D).1.alloc (.cells #[.int .i64 ((L 8 : Nat) : Int), .int .i64 ((L 9 : Nat) : Int), .int .i64 ((L 10 : Nat) : Int), .int .i64 ((L 11 : Nat) : Int)] 57)) ((unhide D).2.alloc (.cells #[.int .i64 ((L 8 : Nat) : Int), .int .i64 ((L 9 : Nat) : Int), .int .i64 ((L 10 : Nat) : Int), .int .i64 ((L 11 : Nat) : Int)] 57)))
        have hc := (unhide D1).1.vec (L 10) (by omega)
        have hix := index58_2 L
        have hi4 : ((L 10 : Nat) : Int) < 4 := by omega
        have hs4 : ((L 9 : Nat) : Int) < 32 := by omega
        have hb := bits_bound (c (L 10)) (k := L 8) (by omega)
        have hf := full_nonneg (k := L 8) (by omega)
        clear D B R
        generalize packK L c 2 = x at *
        by_cases h0 : 0 < L 8
        · go_wp2
          go_quiet (first | (go_at_call 25; refine Calls.quiet_of_same (bitsOf_any _ (L 8) _ (by omega))))
          go_wp2
          go_roundw
          case rel => exact ⟨3, by omega, rfl, congrArg _ (unhide E1 h0).symm, (unhide D1).1.drewN _, (unhide D1).2.drewN _⟩
          case measure => simp [intOf]
        · go_wp2
          go_roundw
          case rel => exact ⟨3, by omega, rfl, congrArg _ (unhide E2 h0).symm, (unhide D1).1, (unhide D1).2⟩
          case measure => simp [intOf]
      · have ht := unhide HL 3 (by omega)
        simp only [Nat.reduceMul, Nat.reduceAdd] at ht
        have E1 : Hid (0 < L 12 → packK L c 4 = bits .or .u32 (packK L c 3) (bitsI (c (L 14)) (L 12) * 2 ^ L 13 % 4294967296)) := fun h => if_pos h
        have E2 : Hid (¬ 0 < L 12 → packK L c 4 = packK L c 3) := fun h => if_neg h
        have D1 := hide (And.intro ((unhide D).1.alloc (.cells #[.int .i64 ((L 12 : Nat) : Int), .int .i64 ((L 13 : Nat) : Int), .int .i64 ((L 14 : Nat) : Int), .int .i64 ((L 15 : Nat) : Int)] 57)) ((unhide D).2.alloc (.cells #[.int .i64 ((L 12 : Nat) : Int), .int .i64 ((L 13 : Nat) : Int), .int .i64 ((L 14 : Nat) : Int), .int .i64 ((L 15 : Nat) : Int)] 57)))
        have hc := (unhide D1).1.vec (L 14) (by omega)
        have hix := index58_3 L
        have hi4 : ((L 14 : Nat) : Int) < 4 := by omega
        have hs4 : ((L 13 : Nat) : Int) < 32 := by omega
        have hb := bits_bound (c (L 14)) (k := L 12) (by omega)
        have hf := full_nonneg (k := L 12) (by omega)
        clear D B R
        generalize packK L c 3 = x at *
        by_cases h0 : 0 < L 12
        · go_wp2
          go_quiet (first | (go_at_call 25; refine Calls.quiet_of_same (bitsOf_any _ (L 12) _ (by omega))))
          go_wp2
          go_roundw
          case rel => exact ⟨4, by omega, rfl, congrArg _ (unhide E1 h0).symm, (unhide D1).1.drewN _, (unhide D1).2.drewN _⟩
          case measure => simp [intOf]
        · go_wp2
          go_roundw
          case rel => exact ⟨4, by omega, rfl, congrArg _ (unhide E2 h0).symm, (unhide D1).1, (unhide D1).2⟩
          case measure => simp [intOf]
end Go.Proofs.Ytijkkhnhejadgaa
