/-
  Vertices out of bytes: the law's short.
-/
import Derived.Test.YtmigakbccmkjoaaW3
import Derived.Test.YtmigakbccmkjoaaBlk
import Derived.BigQuiet
namespace Go.Proofs.Ytmigakbccmkjoaa
open Go.RowKit
set_option linter.unusedVariables false
set_option linter.unusedSimpArgs false

theorem Own.here {k : IntKind} {w : World} {base : Nat} {e : TypeId} {v : Value} {xs : List Int} (h : Own k w base e v xs) (hne : xs ≠ []) : ∃ g cap, v = .slice (some ⟨g, 0, none⟩) xs.length cap ∧ base ≤ g ∧ xs.length ≤ cap ∧ cap ≤ maxLen := by
  rcases h.2 with ⟨rfl, h0⟩ | ⟨g, cap, cur, rfl, hb, hg, hnc, hcm, hcs, htake⟩
  · exact absurd (List.eq_nil_of_length_eq_zero h0) hne
  · exact ⟨g, cap, rfl, hb, hnc, hcm⟩
theorem Row.takeN {k : IntKind} {w : World} {ao : Option Addr} {cap : Nat} {xs : List Int} (h : Row k w (.slice ao xs.length cap) xs) (m : Nat) (hm : m ≤ xs.length) : Row k w (.slice ao m cap) (xs.take m) := by
  have := Row.cut h 0 m (by omega) ao (fun b off e _ => by rw [e]; rfl) (fun e => by
    obtain ⟨_, _, e2, h0, _⟩ := h.shape
    cases e2
    have := (h0 e).2
    omega)
  simpa using this

set_option maxRecDepth 10000 in
set_option maxHeartbeats 1000000 in
theorem short20_any (v : Value) (xs : List Int) (w : World) (hr : Row .u8 w v xs) (hm : xs.length ≤ 140737488351232) :
    Calls Try.prog 9 #[v] w fun e w' => ∃ g cap, e = .returned (.slice (some ⟨g, 0, none⟩) (xs.take 3000).length cap) ∧ Own .u8 w' w.heap.size 5 (.slice (some ⟨g, 0, none⟩) ((xs.take 3000).length + 1) cap) (xs.take 3000 ++ [7]) ∧ (xs.take 3000).length + 1 ≤ cap ∧ Ext w w' := by
  obtain ⟨i0, hi, hz0, hz1, hz2⟩ := info_parts info5
  obtain ⟨ao, cap, rfl, hao, hlc, hcm⟩ := hr.shape
  unfold maxLen at hcm
  obtain ⟨n, hn⟩ : ∃ n, n = (xs.take 3000).length := ⟨_, rfl⟩
  have hn1 : n = min 3000 xs.length := by rw [hn]; simp
  have hrow : Row .u8 w (.slice ao n cap) (xs.take 3000) := by
    have h := hr.takeN n (by omega)
    rw [show xs.take n = xs.take 3000 by
      rcases Nat.le_total 3000 xs.length with h3 | h3
      · rw [hn1, Nat.min_eq_left h3]
      · rw [hn1, Nat.min_eq_right h3, List.take_of_length_le (Nat.le_refl _), List.take_of_length_le h3]] at h
    exact h
  have hn3 : n ≤ 3000 := by omega
  have HN := hide hn
  rw [← hn]
  generalize hys : xs.take 3000 = ys at HN hrow ⊢
  have hyn := unhide HN
  have hyl : ys.length ≤ 3000 := by omega
  clear hyn
  have HR := hide hrow
  have hmin : ((xs.length : Int) ≤ 3000 ∧ (n : Int) = (xs.length : Int)) ∨ (3000 < (xs.length : Int) ∧ (n : Int) = 3000) := by omega
  clear hr hao hrow hn hys
  generalize xs.length = N at *
  go_enter Try.func9, Try.ntmps9
  rcases hmin with ⟨h1, h2⟩ | ⟨h1, h2⟩
  · obtain rfl : N = n := by omega
    clear h2 hn1
    go_wp2_with (first | (at_make; refine wpList_make_Own _ rfl _ _ 22 rfl w.heap.size 5 i0 (.int .u8 0) .u8 Try.underlying22 hi hz0 hz1 _ _ _ (N + 2) rfl rfl (by omega) ?b1 ?b2 ?b3 ?_))
    case b1 => rw [hz2]; omega
    case b2 => unfold maxLen; omega
    case b3 => exact Nat.le_refl _
    intro w1 hown hgrow
    have hb1 : Ext w w1 := grown_below hgrow (Nat.le_refl _) (fun k h => by cases h)
    have H1 := hide (And.intro hown (And.intro hb1 ((unhide HR).ext hb1)))
    clear hown hgrow hb1 HR
    go_wp2_with (at_builtin; refine wpList_append_Own rfl (.tmp 11) (.tmp 12) 22 rfl w.heap.size 5 i0 .u8 1 Try.underlying22 hi hz0 hz1 hz2 _ [] rfl (unhide H1).1 _ ys rfl (unhide H1).2.2 ?c1 ?c2 ?c3 ?_)
    case c1 => unfold maxLen; simp; omega
    case c2 => simp; omega
    case c3 => exact (unhide H1).2.1.size
    intro v2 w2 hown2 hgrow2
    have hb2 : Ext w w2 := (unhide H1).2.1.grown hgrow2 (unhide H1).2.1.size (fun k h => ((unhide H1).1.lt k h).1)
    obtain ⟨ao2, cap2, rfl⟩ := hown2.shape
    have H2 := hide (And.intro (hown2.alloc (.cells #[.int .u8 7] 5)) (hb2.alloc (.cells #[.int .u8 7] 5)))
    clear hown2 hgrow2 hb2 H1
    go_wp2_with (at_builtin; refine wpList_append_Own rfl (.tmp 13) (.tmp 14) 22 rfl w.heap.size 5 i0 .u8 1 Try.underlying22 hi hz0 hz1 hz2 _ ys rfl (unhide H2).1 _ [7] rfl (Row.one _ _ _ _) ?d1 ?d2 ?d3 ?_)
    case d1 => unfold maxLen; simp; omega
    case d2 => simp; omega
    case d3 => exact (unhide H2).2.size
    intro v3 w3 hown3 hgrow3
    have hb3 : Ext w w3 := (unhide H2).2.grown hgrow3 (unhide H2).2.size (fun k h => ((unhide H2).1.lt k h).1)
    obtain ⟨g, c3, rfl, hg, hl3, hm3⟩ := hown3.here (by simp)
    have hlen : (ys ++ [7]).length = N + 1 := by rw [unhide HN]; simp
    rw [hlen] at hown3 hl3 ⊢
    unfold maxLen at hm3
    have H3 := hide (And.intro hown3 (And.intro hl3 hb3))
    have hc3 : N ≤ c3 := by omega
    clear hown3 hgrow3 hb3 H2 hlen
    go_wp2
    go_ret
    exact ⟨g, c3, rfl, (unhide H3).1, (unhide H3).2.1, (unhide H3).2.2⟩
  · clear hn1
    obtain rfl : n = 3000 := by omega
    have hlc2 : 3000 ≤ cap := by omega
    clear h2
    go_wp2_with (first | (at_make; refine wpList_make_Own _ rfl _ _ 22 rfl w.heap.size 5 i0 (.int .u8 0) .u8 Try.underlying22 hi hz0 hz1 _ _ _ (3000 + 2) rfl rfl (by omega) ?b1x ?b2x ?b3x ?_))
    case b1x => rw [hz2]; omega
    case b2x => unfold maxLen; omega
    case b3x => exact Nat.le_refl _
    intro w1 hown hgrow
    have hb1 : Ext w w1 := grown_below hgrow (Nat.le_refl _) (fun k h => by cases h)
    have H1 := hide (And.intro hown (And.intro hb1 ((unhide HR).ext hb1)))
    clear hown hgrow hb1 HR
    go_wp2_with (at_builtin; refine wpList_append_Own rfl (.tmp 11) (.tmp 12) 22 rfl w.heap.size 5 i0 .u8 1 Try.underlying22 hi hz0 hz1 hz2 _ [] rfl (unhide H1).1 _ ys rfl (unhide H1).2.2 ?c1x ?c2x ?c3x ?_)
    case c1x => unfold maxLen; simp; omega
    case c2x => simp; omega
    case c3x => exact (unhide H1).2.1.size
    intro v2 w2 hown2 hgrow2
    have hb2 : Ext w w2 := (unhide H1).2.1.grown hgrow2 (unhide H1).2.1.size (fun k h => ((unhide H1).1.lt k h).1)
    obtain ⟨ao2, cap2, rfl⟩ := hown2.shape
    have H2 := hide (And.intro (hown2.alloc (.cells #[.int .u8 7] 5)) (hb2.alloc (.cells #[.int .u8 7] 5)))
    clear hown2 hgrow2 hb2 H1
    go_wp2_with (at_builtin; refine wpList_append_Own rfl (.tmp 13) (.tmp 14) 22 rfl w.heap.size 5 i0 .u8 1 Try.underlying22 hi hz0 hz1 hz2 _ ys rfl (unhide H2).1 _ [7] rfl (Row.one _ _ _ _) ?d1x ?d2x ?d3x ?_)
    case d1x => unfold maxLen; simp; omega
    case d2x => simp; omega
    case d3x => exact (unhide H2).2.size
    intro v3 w3 hown3 hgrow3
    have hb3 : Ext w w3 := (unhide H2).2.grown hgrow3 (unhide H2).2.size (fun k h => ((unhide H2).1.lt k h).1)
    obtain ⟨g, c3, rfl, hg, hl3, hm3⟩ := hown3.here (by simp)
    have hlen : (ys ++ [7]).length = 3000 + 1 := by rw [unhide HN]; simp
    rw [hlen] at hown3 hl3 ⊢
    unfold maxLen at hm3
    have H3 := hide (And.intro hown3 (And.intro hl3 hb3))
    have hc3 : 3000 ≤ c3 := by omega
    clear hown3 hgrow3 hb3 H2 hlen
    go_wp2
    go_ret
    exact ⟨g, c3, rfl, (unhide H3).1, (unhide H3).2.1, (unhide H3).2.2⟩
end Go.Proofs.Ytmigakbccmkjoaa
