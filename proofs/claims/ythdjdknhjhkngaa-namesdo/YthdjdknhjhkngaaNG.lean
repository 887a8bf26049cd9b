/-
  Names: the walk of Gen.
-/
import Derived.Test.YthdjdknhjhkngaaNF
namespace Go.Proofs.Ythdjdknhjhkngaa
open Go.RowKit

/-- How many names Gen gives out, and its error. -/
def genN (s : Nat → Int) (n : Int) : Nat := if n ≤ ((sel s 0 64).length : Int) then n.toNat else 0
def genE (s : Nat → Int) (n : Int) : Int := if n < 0 then 2 else if n ≤ ((sel s 0 64).length : Int) then 0 else 6
theorem genL_zero (s : Nat → Int) : genL s 0 = [] := by simp [genL]
theorem genN_le (s : Nat → Int) (n : Int) : genN s n ≤ (sel s 0 64).length := by unfold genN; split <;> omega

theorem gen_nil (n : Int) (w : World) :
    Calls Try.prog 15 #[.pointer none, .int .i64 n] w fun e w' => e = .returned (.tuple #[.slice none 0 0, .int .i64 1]) ∧ w' = w := by
  go_enter Try.func15, Try.ntmps15
  go_wp2
  exact bodyPost_ret (v := .tuple #[.slice none 0 0, .int .i64 1]) (by simp [results, Try.results15, go_sem]) rfl ⟨rfl, rfl⟩

set_option maxRecDepth 100000 in
set_option maxHeartbeats 2000000 in
theorem gen_any (B : Nat) (s : Nat → Int) (b n : Int) (w : World) (hb : Blk w B (nms .u8 s b) 55) :
    Calls Try.prog 15 #[.pointer (some ⟨B, 0, none⟩), .int .i64 n] w fun e w' => ∃ ao cap, e = .returned (.tuple #[.slice ao (genN s n) cap, .int .i64 (genE s n)]) ∧
      Own .i64 w' w.heap.size 3 (.slice ao (genN s n) cap) (ints (genL s (genN s n))) ∧ Blk w' B (nms .u8 (setL s (genL s (genN s n))) b) 55 ∧ w.grownBy w' (some B) := by
  have hBl := hb.lt
  by_cases h0 : n < 0
  · have e1 : genN s n = 0 := by unfold genN; split <;> omega
    have e2 : genE s n = 2 := by unfold genE; rw [if_pos h0]
    rw [e1, e2, genL_zero, setL_nil]
    have HB := hide hb
    clear hb
    go_enter Try.func15, Try.ntmps15
    go_wp2
    exact bodyPost_ret (v := .tuple #[.slice none 0 0, .int .i64 2]) (by simp [results, Try.results15, go_sem]) rfl ⟨none, 0, rfl, Own.nil _ _ _ _, unhide HB, World.grownBy.refl _ _⟩
  · by_cases h1 : n ≤ ((sel s 0 64).length : Int)
    · obtain ⟨m, rfl⟩ := Int.eq_ofNat_of_zero_le (show 0 ≤ n by omega)
      have e1 : genN s (m : Int) = m := by unfold genN; rw [if_pos h1]; simp
      have e2 : genE s (m : Int) = 0 := by unfold genE; rw [if_neg h0, if_pos h1]
      rw [e1, e2]
      have hm : m ≤ (sel s 0 64).length := by omega
      have hm64 : m ≤ 64 := Nat.le_trans hm (sel_bound s 0 64)
      have hlen := genL_length hm
      have HB := hide hb
      have HE := hide (And.intro e1 e2)
      clear hb e1 e2
      go_enter Try.func15, Try.ntmps15
      go_wp2_with fail
      refine (left_any B s b _ (unhide HB)).mono ?_
      rintro e w1 ⟨rfl, hx1⟩
      have HB1 := hide ((unhide HB).ext hx1)
      have HX1 := hide hx1
      have hs1 := hx1.size
      clear hx1
      go_wp2_with (first
        | refine wpList_load_mid rfl 53 (.tmp 19) rfl B 0 rfl (nstL .u8 s) _ (nms_range (unhide HB1)) Try.underlying53 rfl (by rw [nstL_length]; exact size_states) ?_
        | (go_at_call 28; refine (least_any s m _ hm).mono ?_; rintro e w2 ⟨ao, cap, rfl, hown, hx2⟩; have HO := hide (hown.up hs1); have HX2 := hide ((unhide HX1).trans hx2); have HB2 := hide ((unhide HB1).ext hx2); clear hown hx2))
      clear h0 h1
      go_loopw [25] (fun i wr => ∃ k : Nat, k ≤ m ∧ i = .int .i64 (k : Int) ∧ Blk wr B (nms .u8 (setL s ((genL s m).take k)) b) 55 ∧ Own .i64 wr w.heap.size 3 (.slice ao m cap) (ints (genL s m)) ∧ w.grownBy wr (some B))
        (fun i _ => m - (intOf i).toNat)
      case atStart => exact ⟨0, Nat.zero_le _, rfl, by rw [List.take_zero, setL_nil]; exact unhide HB2, unhide HO, grownBy_of_ext (unhide HX2)⟩
      case round =>
        obtain ⟨k, hk, rfl, hb, hown, hg⟩ := hrel
        have H := hide (And.intro hb (And.intro hown hg))
        clear hg
        by_cases hlt : k < m
        · have hkl : k < (genL s m).length := by rw [hlen]; exact hlt
          obtain ⟨x, hx⟩ : ∃ x : Nat, (genL s m)[k]? = some x := ⟨_, List.getElem?_eq_getElem hkl⟩
          have hx2 := genL_mem (List.mem_of_getElem? hx)
          have hx64 : (x : Int) < 65 := by omega
          obtain ⟨lb, lo, rfl, hcell⟩ := hown.row.at k (by rw [ints_length]; exact hkl)
          have hck := hcell k (by rw [ints_length]; exact hkl)
          rw [show (ints (genL s m))[k]'(by rw [ints_length]; exact hkl) = (x : Int) by
            have := List.getElem?_eq_some_iff.1 hx
            obtain ⟨_, he⟩ := this
            simp [ints, he]] at hck
          have cx := hb.cell (nms_get .u8 _ b (i := x) (by omega))
          have fx := hb.free x
          have hb2 := hb.set x (.int .u8 1)
          rw [nms_set _ _ _ (by omega), setL_snoc] at hb2
          have et : (genL s m).take (k + 1) = (genL s m).take k ++ [x] := by
            rw [List.take_add_one, hx]
            rfl
          rw [← et] at hb2
          have H2 := hide hb2
          clear hb2 hcell hb hown et hx hx2
          go_wp2
          go_roundw
          case rel => exact ⟨k + 1, by omega, by go_num, unhide H2, (unhide H).2.1.grown (grownBy_set _ _ _ _) hBl, (unhide H).2.2.trans (grownBy_set _ _ _ _)⟩
          case measure => simp [intOf]; omega
        · obtain rfl : k = m := by omega
          clear hb hown
          go_wp2
          refine bodyPost_ret (v := .tuple #[.slice ao k cap, .int .i64 0]) (by simp [results, Try.results15, go_sem]) rfl ⟨ao, cap, rfl, (unhide H).2.1, ?_, (unhide H).2.2⟩
          have := (unhide H).1
          rw [List.take_of_length_le (by omega)] at this
          exact this
    · have e1 : genN s n = 0 := by unfold genN; rw [if_neg h1]
      have e2 : genE s n = 6 := by unfold genE; rw [if_neg h0, if_neg h1]
      rw [e1, e2, genL_zero, setL_nil]
      have HB := hide hb
      clear hb
      go_enter Try.func15, Try.ntmps15
      go_wp2_with (go_at_call 21; refine (left_any B s b _ (unhide HB)).mono ?_; rintro e w1 ⟨rfl, hx1⟩; have HB1 := hide ((unhide HB).ext hx1); have HX1 := hide hx1; clear hx1)
      exact bodyPost_ret (v := .tuple #[.slice none 0 0, .int .i64 6]) (by simp [results, Try.results15, go_sem]) rfl ⟨none, 0, rfl, Own.nil _ _ _ _, unhide HB1, grownBy_of_ext (unhide HX1)⟩
end Go.Proofs.Ythdjdknhjhkngaa
