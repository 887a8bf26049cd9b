/-
  Pixels: the walk of the document's Unpack, the formats of 16 bits; and all of them.
-/
import Derived.Test.YtgblnipfeikomaaPM
namespace Go.Proofs.Ytgblnipfeikomaa
open Go.RowKit
set_option maxRecDepth 10000

theorem wrapm {x : Int} (h0 : 0 ≤ x) (h1 : x ≤ 65535) : IntKind.u32.wrap x = x := by
  simp only [IntKind.wrap, IntKind.bits, IntKind.signed, Bool.false_and]
  simp
  omega
theorem vec_set (a : Nat → Int) (i : Nat) (n : Int) (hi : i < 4) : (#[.int .i32 (a 0), .int .i32 (a 1), .int .i32 (a 2), .int .i32 (a 3)] : Array Value).setIfInBounds i (.int .i32 n) = #[.int .i32 ((fun k => if k = i then n else a k) 0), .int .i32 ((fun k => if k = i then n else a k) 1), .int .i32 ((fun k => if k = i then n else a k) 2), .int .i32 ((fun k => if k = i then n else a k) 3)] := by
  rcases (by omega : i = 0 ∨ i = 1 ∨ i = 2 ∨ i = 3) with rfl | rfl | rfl | rfl <;> simp
theorem Blk.free4 {w : World} {b : Nat} {cs : Array Value} {t : TypeId} (h : Blk w b cs t) : w.frozen? ⟨b, 0, none⟩ = false ∧ w.frozen? ⟨b, 1, none⟩ = false ∧ w.frozen? ⟨b, 2, none⟩ = false ∧ w.frozen? ⟨b, 3, none⟩ = false :=
  ⟨h.free 0, h.free 1, h.free 2, h.free 3⟩

theorem refC_pos (W : Nat → Nat) (x : Int) (i : Nat) (hi : i < 4) (h : 0 < W i) : refC W x (4 - i) = ((refC W x (3 - i)).1 / (fullI (W i) + 1), fun k => if k = i then numI ((refC W x (3 - i)).1 % (fullI (W i) + 1)) (W i) else (refC W x (3 - i)).2 k) := by
  rw [show 4 - i = (3 - i) + 1 by omega]
  have e : 3 - (3 - i) = i := by omega
  rw [refC, e, if_pos h]
theorem refC_none (W : Nat → Nat) (x : Int) (i : Nat) (hi : i < 4) (h : ¬ 0 < W i) : refC W x (4 - i) = refC W x (3 - i) := by
  rw [show 4 - i = (3 - i) + 1 by omega]
  have e : 3 - (3 - i) = i := by omega
  rw [refC, e, if_neg h]

set_option maxHeartbeats 4000000 in
theorem refUnpack_16 (f : Nat) (ao : Option Addr) (cap : Nat) (xs : List Int) (w : World) (h2 : 2 ≤ f) (h4 : f ≤ 4) (hr : Row .u8 w (.slice ao xs.length cap) xs) (hB : Byt xs) (hl : xs.length = 2) :
    Calls Try.prog 34 #[.int .i64 (f : Int), .slice ao xs.length cap] w fun e w' => e = .returned (.agg #[.int .i32 (colN f (numOf xs) 0), .int .i32 (colN f (numOf xs) 1), .int .i32 (colN f (numOf xs) 2), .int .i32 (colN f (numOf xs) 3)]) ∧ Ext w w' := by
  have hb := numOf_le xs hB 2 (by omega)
  have f1 : ((f : Int) == 1) = false := by simp; omega
  have f5 : ((f : Int) == 5) = false := by simp; omega
  have f6 : ((f : Int) == 6) = false := by simp; omega
  have f7 : ((f : Int) == 7) = false := by simp; omega
  have HW : Hid (∀ k, k < 4 → wid f k ≤ 16) := fun k hk => wid_le f k h2 h4 hk
  have HA : Hid (∀ i, i < 4 → (refC (wid f) (numOf xs) 4).2 i = colN f (numOf xs) i) := fun i hi => refC_all f (numOf xs) h2 h4 i hi
  have HR := hide hr
  have HLn := hide hl
  clear hr hl
  go_enter Try.func34, Try.ntmps34
  go_wp2_with fail
  refine (numb_any _ xs _ ((unhide HR).ext ((Ext.refl w).alloc _)) (by have := unhide HLn; omega) hB).mono ?_
  rintro e w1 ⟨rfl, rfl⟩
  obtain ⟨x, hxe⟩ : ∃ x, x = numOf xs := ⟨_, rfl⟩
  have HXE := hide hxe
  rw [← hxe] at hb HA
  rw [← hxe]
  clear hxe
  have hx0 : 0 ≤ x := hb.1
  have hx1 : x ≤ 65535 := by have := hb.2; omega
  clear hb
  go_wp2_with fail
  refine (widths_any f _ h2 h4).mono ?_
  rintro e w1 ⟨rfl, hx⟩
  have D0 := hide (And.intro ((((Blk.at (w := w) (cs := #[.int .i32 0, .int .i32 0, .int .i32 0, .int .i32 0]) (t := 34) rfl).ext hx).alloc (.cells (widA (wid f)) 72)).alloc (.cells #[.int .i32 0, .int .i32 0, .int .i32 0, .int .i32 65536] 34)) (And.intro ((Blk.new w1 (widA (wid f)) 72).alloc (.cells #[.int .i32 0, .int .i32 0, .int .i32 0, .int .i32 65536] 34)) (And.intro (Blk.at (w := w1.alloc (.cells (widA (wid f)) 72)) (b := w1.heap.size + 1) (cs := #[.int .i32 0, .int .i32 0, .int .i32 0, .int .i32 65536]) (t := 34) (by simp)) (((((Ext.refl w).alloc _).trans hx).alloc (.cells (widA (wid f)) 72)).alloc (.cells #[.int .i32 0, .int .i32 0, .int .i32 0, .int .i32 65536] 34)))))
  have hw1 : w.heap.size < w1.heap.size := by have := hx.size; simp at this; omega
  clear hx
  have HBd := hide (refC_bound (wid f) (unhide HW) x hx0 hx1)
  generalize hWf : wid f = W at *
  clear hWf
  go_wp2_with (refine wpList_store_last rfl 72 (.tmp 8) (.tmp 73) rfl _ rfl (widA W) rfl 4 size63 rfl rfl (widA_one _) ?_)
  go_loopw [7, 10] (fun xv iv wr => ∃ k : Nat, k ≤ 4 ∧ iv = .int .i64 ((k : Int) - 1) ∧ xv = .int .i64 (refC W x (4 - k)).1 ∧ Blk wr w.heap.size #[.int .i32 0, .int .i32 0, .int .i32 0, .int .i32 0] 34 ∧ Blk wr w1.heap.size (widA W) 72 ∧ Blk wr (w1.heap.size + 1) #[.int .i32 ((refC W x (4 - k)).2 0), .int .i32 ((refC W x (4 - k)).2 1), .int .i32 ((refC W x (4 - k)).2 2), .int .i32 ((refC W x (4 - k)).2 3)] 34 ∧ Ext w wr) (fun _ iv _ => (intOf iv + 1).toNat)
  case atStart => exact ⟨4, by omega, rfl, rfl, (unhide D0).1, (unhide D0).2.1, (unhide D0).2.2.1, (unhide D0).2.2.2⟩
  case round =>
    obtain ⟨k, hk, hiv, rfl, hb0, hb1, hb2, hx⟩ := hrel
    have D := hide (And.intro hb0 (And.intro hb1 (And.intro hb2 hx)))
    clear hb0 hb1 hb2 hx D0
    by_cases h0 : k = 0
    · subst h0
      obtain rfl : _ = Value.int .i64 (-1) := hiv
      go_wp2_with (first
        | refine wpList_load_row rfl 34 (.tmp 9) rfl (w1.heap.size + 1) rfl 34 #[.int .i32 ((refC W x 4).2 0), .int .i32 ((refC W x 4).2 1), .int .i32 ((refC W x 4).2 2), .int .i32 ((refC W x 4).2 3)] (0, 0) _ (unhide D).2.2.1 Try.underlying34 rfl size35 ?_
        | refine wpList_store_row rfl 34 (.tmp 4) (.tmp 102) rfl w.heap.size #[.int .i32 ((refC W x 4).2 0), .int .i32 ((refC W x 4).2 1), .int .i32 ((refC W x 4).2 2), .int .i32 ((refC W x 4).2 3)] rfl rfl 34 _ (unhide D).1 size35 rfl (vec_one _) ?_)
      refine bodyPost_ret (v := .agg #[.int .i32 ((refC W x 4).2 0), .int .i32 ((refC W x 4).2 1), .int .i32 ((refC W x 4).2 2), .int .i32 ((refC W x 4).2 3)]) (results_cell_row Try.results34 _ _ w.heap.size 34 _ (0, 0) _ rfl (unhide D).1.row Try.underlying34 rfl size35) rfl ⟨?_, ext_row (unhide D).2.2.2 (Nat.le_refl _)⟩
      rw [unhide HA 0 (by omega), unhide HA 1 (by omega), unhide HA 2 (by omega), unhide HA 3 (by omega), unhide HXE]
    · obtain ⟨i, rfl⟩ : ∃ i, k = i + 1 := ⟨k - 1, by omega⟩
      obtain rfl : _ = Value.int .i64 (i : Int) := hiv.trans (by congr 1; omega)
      have hi4 : i < 4 := by omega
      have hii : (i : Int) < 4 := by omega
      rw [show 4 - (i + 1) = 3 - i by omega] at D ⊢
      have hwi := (unhide D).2.1.wid i hi4
      have hW := unhide HW i hi4
      have hm := full_nonneg hW
      have hX := unhide HBd (3 - i) (by omega)
      by_cases hpos : 0 < W i
      · have hposI : (0 : Int) < (W i : Int) := by omega
        have E := hide (refC_pos W x i hi4 hpos)
        have hq := Int.emod_nonneg (refC W x (3 - i)).1 (show fullI (W i) + 1 ≠ 0 by omega)
        have hq2 := Int.emod_lt_of_pos (refC W x (3 - i)).1 (show 0 < fullI (W i) + 1 by omega)
        have hwr := wrapm hq (by omega)
        have hz : (fullI (W i) + 1 == 0) = false := by simp; omega
        obtain ⟨n, HNn⟩ : ∃ n, Hid (numI ((refC W x (3 - i)).1 % (fullI (W i) + 1)) (W i) = n) := ⟨_, rfl⟩
        have hqm : (refC W x (3 - i)).1 % (fullI (W i) + 1) ≤ fullI (W i) := by omega
        have c2 := (unhide D).2.2.1.vec i hi4
        have fr2 := (unhide D).2.2.1.free i
        have s1 : ∀ v, (wr.setCell ⟨w1.heap.size + 1, i, none⟩ v).cell? ⟨w1.heap.size, i, none⟩ = some (.int .i64 (W i : Int)) := fun v => ((unhide D).2.1.other i v (by omega)).wid i hi4
        generalize (refC W x (3 - i)).1 = X at *
        obtain ⟨hX0, hX1⟩ := hX
        obtain ⟨m, HM⟩ : ∃ m, Hid (fullI (W i) = m) := ⟨_, rfl⟩
        rw [unhide HM] at hm hq hq2 hwr hz hqm
        obtain ⟨hm0, hm1⟩ := hm
        have hne : ¬ m + 1 = 0 := by omega
        have htm : X.tmod (m + 1) = X % (m + 1) := Int.tmod_eq_emod_of_nonneg hX0
        go_wp2
        refine wp_region_noPanic ?_
        refine wp_region_held_drew (S := fun w' => w'.cell? ⟨w1.heap.size, i, none⟩ = some (.int .i64 (W i : Int))) (by kernel_rfl) hwi (fun hHeld => ?_)
        refine wpAnyH_take (i := 0) (v := .int .i64 (i : Int)) rfl (by kernel_rfl) (by kernel_rfl) (by kernel_rfl) (fun _ _ _ h => h) (Or.inl ⟨by rfl, fun _ _ => rfl⟩) hHeld ?_
        refine wpAnyH_take (i := 1) (v := .int .i64 X) rfl (by kernel_rfl) (by kernel_rfl) (by kernel_rfl) (fun _ _ _ h => h) (Or.inl ⟨by rfl, fun _ _ => rfl⟩) hHeld ?_
        refine wpAnyH_take (i := 2) (v := .int .i64 (i : Int)) rfl (by kernel_rfl) (by kernel_rfl) (by kernel_rfl) (fun _ _ _ h => h) (Or.inl ⟨by rfl, fun _ _ => rfl⟩) hHeld ?_
        refine wpAnyH_take (i := 3) (v := .pointer (some ⟨w1.heap.size, i, none⟩)) rfl (by kernel_rfl) (by kernel_rfl) (by kernel_rfl) (fun _ _ _ h => h) (Or.inl ⟨by rfl, by (intro w' hSw; go_simp)⟩) hHeld ?_
        refine wpAnyH_take (i := 4) (v := .int .i64 (W i : Int)) rfl (by kernel_rfl) (by kernel_rfl) (by kernel_rfl) (fun _ _ _ h => h) (Or.inl ⟨by rfl, by (intro w' hSw; go_simp)⟩) hHeld ?_
        refine wpAnyH_take (i := 8) (v := .int .i64 (i : Int)) rfl (by kernel_rfl) (by kernel_rfl) (by kernel_rfl) (fun _ _ _ h => h) (Or.inl ⟨by rfl, fun _ _ => rfl⟩) hHeld ?_
        refine wpAnyH_take (i := 9) (v := .pointer (some ⟨w1.heap.size, i, none⟩)) rfl (by kernel_rfl) (by kernel_rfl) (by kernel_rfl) (fun _ _ _ h => h) (Or.inl ⟨by rfl, by (intro w' hSw; go_simp)⟩) hHeld ?_
        refine wpAnyH_take (i := 10) (v := .int .i64 (W i : Int)) rfl (by kernel_rfl) (by kernel_rfl) (by kernel_rfl) (fun _ _ _ h => h) (Or.inl ⟨by rfl, by (intro w' hSw; go_simp)⟩) hHeld ?_
        refine wpAnyH_ready (rs := [5]) (by kernel_rfl) (by simp) (AllReadyH.cons rfl (fun K hK => ?_) AllReadyH.nil)
        go_simp
        refine (power_any (W i) _ hW).mono ?_
        rintro e w3 ⟨rfl, rfl⟩
        rw [unhide HM]
        refine hK.out _ _ hHeld (fun _ => ?_)
        clear hK K
        refine wpAnyH_ready (rs := [6]) (by kernel_rfl) (by simp) (AllReadyH.cons rfl (fun K hK => ?_) AllReadyH.nil)
        go_simp
        refine hK.out _ _ hHeld (fun _ => ?_)
        clear hK K
        refine wpAnyH_ready (rs := [7]) (by kernel_rfl) (by simp) (AllReadyH.cons rfl (fun K hK => ?_) AllReadyH.nil)
        go_simp
        refine hK.out _ _ hHeld (fun _ => ?_)
        clear hK K
        refine wpAnyH_ready (rs := [11]) (by kernel_rfl) (by simp) (AllReadyH.cons rfl (fun K hK => ?_) AllReadyH.nil)
        go_simp
        refine (refNumber_any (X % (m + 1)) (W i) _ (by omega) hW hq (by rw [unhide HM]; exact hqm)).mono ?_
        rintro e w3 ⟨rfl, rfl⟩
        rw [← unhide HM, unhide HNn, unhide HM]
        refine hK.out _ _ hHeld (fun _ => ?_)
        clear hK K
        refine wpAnyH_ready (rs := [12]) (by kernel_rfl) (by simp) (AllReadyH.cons rfl (fun K hK => ?_) AllReadyH.nil)
        go_simp
        refine hK.out _ _ hHeld (fun _ => ?_)
        clear hK K
        refine wpAnyH_ready (rs := [13]) (by kernel_rfl) (by simp) (AllReadyH.cons rfl (fun K hK => ?_) AllReadyH.nil)
        go_simp
        refine hK.out _ _ (s1 _) (fun _ => ?_)
        clear hK K hHeld
        refine wpAnyH_done (by kernel_rfl) ?_ _
        refine NoPanic.normal ?_
        have D2 : Hid (Blk (wr.setCell ⟨w1.heap.size + 1, i, none⟩ (.int .i32 n)).drew w.heap.size #[.int .i32 0, .int .i32 0, .int .i32 0, .int .i32 0] 34 ∧ Blk (wr.setCell ⟨w1.heap.size + 1, i, none⟩ (.int .i32 n)).drew w1.heap.size (widA W) 72 ∧ Blk (wr.setCell ⟨w1.heap.size + 1, i, none⟩ (.int .i32 n)).drew (w1.heap.size + 1) #[.int .i32 ((fun k => if k = i then n else (refC W x (3 - i)).2 k) 0), .int .i32 ((fun k => if k = i then n else (refC W x (3 - i)).2 k) 1), .int .i32 ((fun k => if k = i then n else (refC W x (3 - i)).2 k) 2), .int .i32 ((fun k => if k = i then n else (refC W x (3 - i)).2 k) 3)] 34 ∧ Ext w (wr.setCell ⟨w1.heap.size + 1, i, none⟩ (.int .i32 n)).drew) := by
          refine ⟨(unhide D).1.other i _ (by omega), (unhide D).2.1.other i _ (by omega), ?_, (ext_set (unhide D).2.2.2 (by omega)).drew⟩
          have := (unhide D).2.2.1.set i (.int .i32 n)
          rw [vec_set _ i n hi4] at this
          exact this
        have hwi2 := (unhide D2).2.1.wid i hi4
        go_wp2_with fail
        refine (power_any (W i) _ hW).mono ?_
        rintro e w3 ⟨rfl, rfl⟩
        rw [unhide HM]
        rw [unhide HNn, unhide HM] at E
        go_wp2
        go_roundw
        case rel => exact ⟨i, by omega, by go_num, by rw [unhide E], (unhide D2).1, (unhide D2).2.1, by rw [unhide E]; exact (unhide D2).2.2.1, (unhide D2).2.2.2⟩
        case measure => simp [intOf]
      · have hposI : ¬ (0 : Int) < (W i : Int) := by omega
        have E := hide (refC_none W x i hi4 hpos)
        go_wp2
        go_roundw
        case rel => exact ⟨i, by omega, by go_num, by rw [unhide E], (unhide D).1, (unhide D).2.1, by rw [unhide E]; exact (unhide D).2.2.1, (unhide D).2.2.2⟩
        case measure => simp [intOf]

theorem refUnpack_any (f : Nat) (ao : Option Addr) (cap : Nat) (xs : List Int) (w : World) (h1 : 1 ≤ f) (h7 : f ≤ 7) (hr : Row .u8 w (.slice ao xs.length cap) xs) (hB : Byt xs) (hl : xs.length = siz f) :
    Calls Try.prog 34 #[.int .i64 (f : Int), .slice ao xs.length cap] w fun e w' => e = .returned (.agg #[.int .i32 (colN f (numOf xs) 0), .int .i32 (colN f (numOf xs) 1), .int .i32 (colN f (numOf xs) 2), .int .i32 (colN f (numOf xs) 3)]) ∧ Ext w w' := by
  rcases (by omega : f = 1 ∨ (2 ≤ f ∧ f ≤ 4) ∨ f = 5 ∨ f = 6 ∨ f = 7) with rfl | ⟨h2, h4⟩ | rfl | rfl | rfl
  · match xs, hl with
    | [x, y, z, u], _ =>
      obtain ⟨b, off, rfl, hc⟩ := hr.at 0 (by simp)
      have gx := hB.get 0
      have gy := hB.get 1
      have gz := hB.get 2
      have gu := hB.get 3
      have e : numOf [x, y, z, u] = x + 256 * (y + 256 * (z + 256 * u)) := by simp [numOf]
      rw [e]
      exact refUnpack_1 b off cap x y z u w (hc 0 (by simp)) (hc 1 (by simp)) (hc 2 (by simp)) (hc 3 (by simp)) gx.1 gx.2 gy.1 gy.2 gz.1 gz.2 gu.1 gu.2
  · exact refUnpack_16 f ao cap xs w h2 h4 hr hB (by rw [hl]; exact (pk_16 f nul h2 h4).2)
  · match xs, hl with
    | [x], _ =>
      obtain ⟨b, off, rfl, hc⟩ := hr.at 0 (by simp)
      have gx := hB.get 0
      have e : numOf [x] = x := by simp [numOf]
      rw [e]
      exact refUnpack_5 b off cap x w (hc 0 (by simp)) gx.1 gx.2
  · match xs, hl with
    | [x], _ =>
      obtain ⟨b, off, rfl, hc⟩ := hr.at 0 (by simp)
      have gx := hB.get 0
      have e : numOf [x] = x := by simp [numOf]
      rw [e]
      exact refUnpack_6 b off cap x w (hc 0 (by simp)) gx.1 gx.2
  · match xs, hl with
    | [x, y], _ =>
      obtain ⟨b, off, rfl, hc⟩ := hr.at 0 (by simp)
      have gx := hB.get 0
      have gy := hB.get 1
      have e : numOf [x, y] = x + 256 * y := by simp [numOf]
      rw [e]
      exact refUnpack_7 b off cap x y w (hc 0 (by simp)) (hc 1 (by simp)) gx.1 gx.2 gy.1 gy.2
end Go.Proofs.Ytgblnipfeikomaa
