/-
  The walks of octet's put, Put16, Put32. What the dump lacks is left out.
-/
import Derived.Test.YtfoffnbkfnbglaaW1
import Derived.Test.YtfoffnbkfnbglaaNum
namespace Go.Proofs.Ytfoffnbkfnbglaa
open Go.RowKit

set_option maxHeartbeats 400000 in
theorem put_any (v : Value) (bs : List Int) (x : Int) (n : Nat) (w : World) (hr : Row .u8 w v bs) (hm : bs.length ≤ 140737488355000) (hn : n ≤ 4) (hx0 : 0 ≤ x) (hx1 : x < 4294967296) :
    Calls Try.prog 48 #[v, .int .u32 x, .int .i64 (n : Int)] w fun e w' => ∃ ao cap, e = .returned (.slice ao (bs.length + n) cap) ∧ Own .u8 w' w.heap.size 5 (.slice ao (bs.length + n) cap) (bs ++ low x n) ∧ Below w.heap.size w w' := by
  obtain ⟨i0, hi, hz0, hz1, hz2⟩ := info_parts info5
  obtain ⟨ao, cap, rfl, h0, hl, hcm⟩ := hr.shape
  have HR := hide hr
  clear h0 hr hcm
  go_enter Try.func48, Try.ntmps48
  go_wp2_with (first | (at_make; refine wpList_make_Own _ rfl _ _ 22 rfl w.heap.size 5 i0 (.int .u8 0) .u8 Try.underlying22 hi hz0 hz1 _ _ _ (bs.length + n) rfl rfl (by omega) ?b1 ?b2 ?b3 ?_))
  case b1 => rw [hz2]; omega
  case b2 => unfold maxLen; omega
  case b3 => exact Nat.le_refl _
  intro w1 hown hgrow
  have hb1 : Below w.heap.size w w1 := grown_below hgrow (Nat.le_refl _) (fun k h => by cases h)
  have HR1 := hide ((unhide HR).below hb1)
  have HB := hide hb1
  have hsz := hb1.size
  have HO := hide hown
  clear hb1 hown hgrow HR
  go_wp2_with (at_builtin; refine wpList_append_Own rfl (.tmp 13) (.tmp 14) 22 rfl w.heap.size 5 i0 .u8 1 Try.underlying22 hi hz0 hz1 hz2 _ [] rfl (unhide HO) _ bs rfl (unhide HR1) ?c1 ?c2 ?c3 ?_)
  case c1 => unfold maxLen; simp; omega
  case c2 => simp; omega
  case c3 => exact hsz
  intro v2 w2 hown2 hgrow2
  have hb2 : Below w.heap.size w w2 := (unhide HB).grown hgrow2 hsz (by simp [Value.ownBlock])
  clear hgrow2 HO HB HR1
  go_wp2
  have HO2 := hide hown2
  have HB2 := hide hb2
  clear hown2 hb2
  go_loopw [1, 7, 17] (fun xv v i wr => ∃ k : Nat, k ≤ n ∧ i = .int .i64 k ∧ xv = .int .u32 (x / 256 ^ k) ∧ Own .u8 wr w.heap.size 5 v (bs ++ low x k) ∧ Below w.heap.size w wr)
    (fun _ _ i _ => n - (intOf i).toNat)
  case atStart => exact ⟨0, Nat.zero_le _, rfl, by simp, by simpa [low] using unhide HO2, unhide HB2⟩
  case round =>
    obtain ⟨k, hk, rfl, rfl, hown, hb⟩ := hrel
    have hd := Int.ediv_nonneg hx0 (show (0 : Int) ≤ 256 ^ k from Int.pow_nonneg (by omega))
    have hd2 : x / 256 ^ k < 4294967296 := Int.lt_of_le_of_lt (Int.ediv_le_self _ hx0) hx1
    have HS := hide (low_snoc x k)
    have HE : Hid (x / 256 ^ k / 256 = x / 256 ^ (k + 1)) := by
      rw [Int.pow_succ, Int.ediv_ediv_of_nonneg (Int.pow_nonneg (by omega))]; exact rfl
    have hsz2 := hb.size
    generalize x / 256 ^ k = y at *
    by_cases hlt : k < n
    · have HO3 := hide (hown.alloc (.cells #[.int .u8 (y % 256)] 5))
      have HB3 := hide hb
      clear hown hb
      go_wp2_with (at_builtin; refine wpList_append_Own rfl (.tmp 19) (.tmp 22) 22 rfl w.heap.size 5 i0 .u8 1 Try.underlying22 hi hz0 hz1 hz2 _ _ rfl (unhide HO3) _ [y % 256] rfl (Row.one _ _ _ _) ?d1 ?d2 ?d3 ?_)
      case d1 => unfold maxLen; simp [low_length]; omega
      case d2 => simp [low_length]; omega
      case d3 => simp; omega
      intro v3 w3 hown3 hgrow3
      have hb3 : Below w.heap.size w w3 := ((unhide HB3).alloc hsz2 _).grown hgrow3 (by simp; omega) (fun k h => ((unhide HO3).lt k h).1)
      have H3 := hide (And.intro hown3 hb3)
      clear hown3 hgrow3 hb3 HO3 HB3
      go_wp2
      go_roundw
      case rel =>
        obtain ⟨hown3, hb3⟩ := unhide H3
        exact ⟨k + 1, by omega, by go_num, congrArg _ (unhide HE), by rw [unhide HS]; exact hown3, hb3⟩
      case measure => simp [intOf]; omega
    · have hkn : k = n := by omega
      subst hkn
      obtain ⟨ao2, cap2, rfl⟩ := hown.shape
      have H3 := hide (And.intro hown hb)
      clear hown hb
      go_wp2
      go_ret
      have e : (bs ++ low x k).length = bs.length + k := by rw [List.length_append, low_length]
      rw [e] at H3
      exact ⟨ao2, cap2, by simp [low_length], unhide H3⟩

set_option maxHeartbeats 400000 in
theorem put32_any (v : Value) (bs : List Int) (x : Int) (w : World) (hr : Row .u8 w v bs) (hm : bs.length ≤ 140737488355000) (hx0 : 0 ≤ x) (hx1 : x < 4294967296) :
    Calls Try.prog 31 #[v, .int .u32 x] w fun e w' => ∃ ao cap, e = .returned (.slice ao (bs.length + 4) cap) ∧ Own .u8 w' w.heap.size 5 (.slice ao (bs.length + 4) cap) (bs ++ low x 4) ∧ Below w.heap.size w w' := by
  go_enter Try.func31, Try.ntmps31
  go_wp2_with fail
  refine (put_any v bs x 4 w hr hm (by omega) hx0 (by omega)).mono ?_
  rintro e w1 ⟨ao, cap, rfl, hown, hb⟩
  have H := hide (And.intro hown hb)
  clear hown hb hr
  go_wp2
  go_ret
  exact ⟨ao, cap, rfl, unhide H⟩
end Go.Proofs.Ytfoffnbkfnbglaa
