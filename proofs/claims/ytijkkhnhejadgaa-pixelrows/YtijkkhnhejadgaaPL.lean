/-
  Pixels: the walk of the document's Pack, the formats of whole bytes.
-/
import Derived.Test.YtijkkhnhejadgaaPK
import Derived.Deep.RegionHeld3
namespace Go.Proofs.Ytijkkhnhejadgaa
open Go.RowKit

theorem wrap8 {x : Int} (h : 0 ≤ x ∧ x ≤ 255) : IntKind.u8.wrap x = x := by
  simp only [IntKind.wrap, IntKind.bits, IntKind.signed, Bool.false_and]
  simp
  omega
theorem pk_1 (c : Nat → Int) : pk 1 c = [bitsI (c 0) 8, bitsI (c 1) 8, bitsI (c 2) 8, bitsI (c 3) 8] := by
  have h0 := b8 (c 0)
  have h1 := b8 (c 1)
  have h2 := b8 (c 2)
  have h3 := b8 (c 3)
  unfold pk
  rw [pack1]
  simp only [siz, low, List.cons.injEq, and_true]
  omega
theorem pk_5 (c : Nat → Int) : pk 5 c = [bitsI (c 0) 8] := by
  have h0 := b8 (c 0)
  unfold pk
  rw [pack5]
  simp only [siz, low, List.cons.injEq, and_true]
  omega
theorem pk_6 (c : Nat → Int) : pk 6 c = [bitsI (c 3) 8] := by
  have h0 := b8 (c 3)
  unfold pk
  rw [pack6]
  simp only [siz, low, List.cons.injEq, and_true]
  omega
theorem pk_7 (c : Nat → Int) : pk 7 c = [bitsI (c 0) 8, bitsI (c 3) 8] := by
  have h0 := b8 (c 0)
  have h1 := b8 (c 3)
  unfold pk
  rw [pack7]
  simp only [siz, low, List.cons.injEq, and_true]
  omega

/-- A slice laid of numbers written out. -/
theorem row_new (w : World) (xs : List Int) (t : TypeId) (n b : Nat) (hb : w.heap.size = b) (hn : xs.length = n) (hm : n ≤ 8) : Row .u8 (w.alloc (.cells (xs.map (Value.int .u8)).toArray t)) (.slice (some ⟨b, 0, none⟩) n n) xs := by
  subst hn hb
  by_cases h : xs = []
  · subst h
    exact .inl ⟨rfl, _, _, rfl, (fun h => by cases h), Nat.zero_le _⟩
  · refine .inr ⟨h, w.heap.size, 0, xs.length, rfl, Nat.le_refl _, by unfold maxLen; omega, fun i hi => ?_⟩
    exact (Blk.at (w := w) (b := w.heap.size) rfl).cell (by simp [hi])

set_option maxHeartbeats 2000000 in
theorem refPack_5 (c : Nat → Int) (w : World) (hI : ∀ i, I32 (c i)) :
    Calls Try.prog 18 #[.int .i64 5, .agg #[.int .i32 (c 0), .int .i32 (c 1), .int .i32 (c 2), .int .i32 (c 3)]] w fun e w' =>
      ∃ ao cap, e = .returned (.slice ao (siz 5) cap) ∧ Row .u8 w' (.slice ao (siz 5) cap) (pk 5 c) ∧ Ext w w' := by
  have h0 := b8 (c 0)
  have hm : bitsI (c 0) 8 % 256 = bitsI (c 0) 8 := by omega
  go_enter Try.func18, Try.ntmps18
  go_wp2_with fail
  refine (refBits_any (c 0) 8 _ (by decide) (hI 0)).mono ?_
  rintro e w1 ⟨rfl, rfl⟩
  go_wp2
  go_ret
  rw [pk_5]
  exact ⟨_, _, rfl, row_new _ [bitsI (c 0) 8] _ 1 _ (by simp) rfl (by omega), ((Ext.refl w).alloc _).alloc _⟩

set_option maxHeartbeats 2000000 in
theorem refPack_6 (c : Nat → Int) (w : World) (hI : ∀ i, I32 (c i)) :
    Calls Try.prog 18 #[.int .i64 6, .agg #[.int .i32 (c 0), .int .i32 (c 1), .int .i32 (c 2), .int .i32 (c 3)]] w fun e w' =>
      ∃ ao cap, e = .returned (.slice ao (siz 6) cap) ∧ Row .u8 w' (.slice ao (siz 6) cap) (pk 6 c) ∧ Ext w w' := by
  have h0 := b8 (c 3)
  have hm : bitsI (c 3) 8 % 256 = bitsI (c 3) 8 := by omega
  go_enter Try.func18, Try.ntmps18
  go_wp2_with fail
  refine (refBits_any (c 3) 8 _ (by decide) (hI 3)).mono ?_
  rintro e w1 ⟨rfl, rfl⟩
  go_wp2
  go_ret
  rw [pk_6]
  exact ⟨_, _, rfl, row_new _ [bitsI (c 3) 8] _ 1 _ (by simp) rfl (by omega), ((Ext.refl w).alloc _).alloc _⟩

set_option maxHeartbeats 4000000 in
theorem refPack_7 (c : Nat → Int) (w : World) (hI : ∀ i, I32 (c i)) :
    Calls Try.prog 18 #[.int .i64 7, .agg #[.int .i32 (c 0), .int .i32 (c 1), .int .i32 (c 2), .int .i32 (c 3)]] w fun e w' =>
      ∃ ao cap, e = .returned (.slice ao (siz 7) cap) ∧ Row .u8 w' (.slice ao (siz 7) cap) (pk 7 c) ∧ Ext w w' := by
  have HI := hide hI
  clear hI
  have h0 := b8 (c 0)
  have h3 := b8 (c 3)
  have hm0 := wrap8 h0
  have hm3 := wrap8 h3
  have X : Hid (Ext w (w.alloc (.cells #[.int .i32 (c 0), .int .i32 (c 1), .int .i32 (c 2), .int .i32 (c 3)] 35))) := (Ext.refl w).alloc _
  obtain ⟨c0, c1, c2, c3⟩ := (Blk.at (w := w) (cs := #[.int .i32 (c 0), .int .i32 (c 1), .int .i32 (c 2), .int .i32 (c 3)]) (t := 35) rfl).vec4
  go_enter Try.func18, Try.ntmps18
  go_wp2
  go_region_held3 (fun w' => w'.cell? ⟨w.heap.size, 0, none⟩ = some (.int .i32 (c 0)) ∧ w'.cell? ⟨w.heap.size, 3, none⟩ = some (.int .i32 (c 3))) (first | go_keep) (first | (go_at_call_of 12 (Value.int IntKind.i32 (c 0)); refine (refBits_any (c 0) 8 _ (by decide) (unhide HI 0)).mono ?_; rintro e w' ⟨rfl, rfl⟩) | (go_at_call_of 12 (Value.int IntKind.i32 (c 3)); refine (refBits_any (c 3) 8 _ (by decide) (unhide HI 3)).mono ?_; rintro e w' ⟨rfl, rfl⟩))
  go_wp2
  go_ret
  rw [pk_7]
  exact ⟨_, _, rfl, (row_new _ [bitsI (c 0) 8, bitsI (c 3) 8] _ 2 _ (by simp) rfl (by omega)).ext (Ext.refl _).drew, ((unhide X).alloc _).drew⟩

set_option maxHeartbeats 4000000 in
theorem refPack_1 (c : Nat → Int) (w : World) (hI : ∀ i, I32 (c i)) :
    Calls Try.prog 18 #[.int .i64 1, .agg #[.int .i32 (c 0), .int .i32 (c 1), .int .i32 (c 2), .int .i32 (c 3)]] w fun e w' =>
      ∃ ao cap, e = .returned (.slice ao (siz 1) cap) ∧ Row .u8 w' (.slice ao (siz 1) cap) (pk 1 c) ∧ Ext w w' := by
  have HI := hide hI
  clear hI
  have h0 := b8 (c 0)
  have h1 := b8 (c 1)
  have h2 := b8 (c 2)
  have h3 := b8 (c 3)
  have hm0 := wrap8 h0
  have hm1 := wrap8 h1
  have hm2 := wrap8 h2
  have hm3 := wrap8 h3
  have X : Hid (Ext w (w.alloc (.cells #[.int .i32 (c 0), .int .i32 (c 1), .int .i32 (c 2), .int .i32 (c 3)] 35))) := (Ext.refl w).alloc _
  obtain ⟨c0, c1, c2, c3⟩ := (Blk.at (w := w) (cs := #[.int .i32 (c 0), .int .i32 (c 1), .int .i32 (c 2), .int .i32 (c 3)]) (t := 35) rfl).vec4
  go_enter Try.func18, Try.ntmps18
  go_wp2
  go_region_held3 (fun w' => w'.cell? ⟨w.heap.size, 0, none⟩ = some (.int .i32 (c 0)) ∧ w'.cell? ⟨w.heap.size, 1, none⟩ = some (.int .i32 (c 1)) ∧ w'.cell? ⟨w.heap.size, 2, none⟩ = some (.int .i32 (c 2)) ∧ w'.cell? ⟨w.heap.size, 3, none⟩ = some (.int .i32 (c 3))) (first | go_keep) (first | (go_at_call_of 12 (Value.int IntKind.i32 (c 0)); refine (refBits_any (c 0) 8 _ (by decide) (unhide HI 0)).mono ?_; rintro e w' ⟨rfl, rfl⟩) | (go_at_call_of 12 (Value.int IntKind.i32 (c 1)); refine (refBits_any (c 1) 8 _ (by decide) (unhide HI 1)).mono ?_; rintro e w' ⟨rfl, rfl⟩) | (go_at_call_of 12 (Value.int IntKind.i32 (c 2)); refine (refBits_any (c 2) 8 _ (by decide) (unhide HI 2)).mono ?_; rintro e w' ⟨rfl, rfl⟩) | (go_at_call_of 12 (Value.int IntKind.i32 (c 3)); refine (refBits_any (c 3) 8 _ (by decide) (unhide HI 3)).mono ?_; rintro e w' ⟨rfl, rfl⟩))
  go_wp2
  go_ret
  rw [pk_1]
  exact ⟨_, _, rfl, (row_new _ [bitsI (c 0) 8, bitsI (c 1) 8, bitsI (c 2) 8, bitsI (c 3) 8] _ 4 _ (by simp) rfl (by omega)).ext (Ext.refl _).drew, ((unhide X).alloc _).drew⟩

theorem refPack_any (f : Nat) (c : Nat → Int) (w : World) (h1 : 1 ≤ f) (h7 : f ≤ 7) (hI : ∀ i, I32 (c i)) :
    Calls Try.prog 18 #[.int .i64 (f : Int), .agg #[.int .i32 (c 0), .int .i32 (c 1), .int .i32 (c 2), .int .i32 (c 3)]] w fun e w' =>
      ∃ ao cap, e = .returned (.slice ao (siz f) cap) ∧ Row .u8 w' (.slice ao (siz f) cap) (pk f c) ∧ Ext w w' := by
  rcases (by omega : f = 1 ∨ (2 ≤ f ∧ f ≤ 4) ∨ f = 5 ∨ f = 6 ∨ f = 7) with rfl | ⟨h2, h4⟩ | rfl | rfl | rfl
  · exact refPack_1 c w hI
  · exact refPack_16 f c w h2 h4 hI
  · exact refPack_5 c w hI
  · exact refPack_6 c w hI
  · exact refPack_7 c w hI
end Go.Proofs.Ytijkkhnhejadgaa
