/-
  Pixels: the walk of Row.
-/
import Derived.Test.YtijkkhnhejadgaaPI
namespace Go.Proofs.Ytijkkhnhejadgaa
open Go.RowKit

/-- The bytes of pixel i. -/
def px (f : Nat) (xs : List Int) (i : Nat) : List Int := (xs.drop (i * siz f)).take (siz f)
/-- The colours of the first n pixels. -/
def rowL (f : Nat) (xs : List Int) (n : Nat) : List (Nat → Int) := (List.range n).map fun i => colN f (numOf (px f xs i))

theorem row_bad (f : Int) (v : Value) (w : World) (h : f < 1 ∨ 7 < f) :
    Calls Try.prog 21 #[.int .i64 f, v] w fun e w' => e = .returned (.tuple #[.slice none 0 0, .int .i64 2]) ∧ Ext w w' := by
  go_enter Try.func21, Try.ntmps21
  go_wp2_with fail
  refine (find_bad f _ h).mono ?_
  rintro e w1 ⟨rfl, hx⟩
  have X := hide hx
  clear hx
  go_wp2_with (refine wpList_store_last rfl 60 (.tmp 6) (.tmp 13) rfl _ rfl (layF 0) rfl 19 size60 (layF_size _) rfl (layF_one _) ?_)
  refine bodyPost_ret (v := .tuple #[.slice none 0 0, .int .i64 2]) (by simp [results, Try.results21, go_sem]) rfl ⟨rfl, (unhide X).alloc _⟩

theorem row_off (f : Nat) (ao : Option Addr) (n cap : Nat) (w : World) (h1 : 1 ≤ f) (h7 : f ≤ 7) (hn : n % siz f ≠ 0) (hm : n ≤ 140737488355328) :
    Calls Try.prog 21 #[.int .i64 (f : Int), .slice ao n cap] w fun e w' => e = .returned (.tuple #[.slice none 0 0, .int .i64 7]) ∧ Ext w w' := by
  have hs := siz_three h1 h7
  have s1 : 1 ≤ (siz f : Int) := by omega
  have s2 : (siz f : Int) ≤ 4 := by omega
  have s3 : ((siz f : Int) == 0) = false := by simp; omega
  clear hs
  go_enter Try.func21, Try.ntmps21
  go_wp2_with fail
  refine (find_any f _ h1 h7).mono ?_
  rintro e w1 ⟨rfl, hx⟩
  have X := hide hx
  have c1 : (w1.alloc (.cells (layF f) 60)).cell? ⟨w1.heap.size, 1, none⟩ = some (.int .i64 (siz f : Int)) := (Blk.at rfl).cell rfl
  clear hx
  go_wp2_with (refine wpList_store_last rfl 60 (.tmp 6) (.tmp 13) rfl _ rfl (layF f) rfl 19 size60 (layF_size _) rfl (layF_one _) ?_)
  refine bodyPost_ret (v := .tuple #[.slice none 0 0, .int .i64 7]) (by simp [results, Try.results21, go_sem]) rfl ⟨rfl, (unhide X).alloc _⟩

/-- Block g holds n vectors. -/
def VB (w : World) (g n : Nat) (F : Nat → Nat → Int) : Prop := ∃ cs, Blk w g cs 35 ∧ cs.size = n * 4 ∧ ∀ i j, i < n → j < 4 → cs[i * 4 + j]? = some (.int .i32 (F i j))
theorem VB.ext {w w' : World} {g n : Nat} {F : Nat → Nat → Int} (h : VB w g n F) (hx : Ext w w') : VB w' g n F := by
  obtain ⟨cs, h1, h2, h3⟩ := h
  exact ⟨cs, h1.ext hx, h2, h3⟩
theorem VB.cell {w : World} {g n : Nat} {F : Nat → Nat → Int} (h : VB w g n F) (i j : Nat) (hi : i < n) (hj : j < 4) : w.cell? ⟨g, i * 4 + j, none⟩ = some (.int .i32 (F i j)) := by
  obtain ⟨cs, h1, h2, h3⟩ := h
  exact h1.cell (h3 i j hi hj)
theorem VB.free {w : World} {g n : Nat} {F : Nat → Nat → Int} (h : VB w g n F) (j : Nat) : w.frozen? ⟨g, j, none⟩ = false := by
  obtain ⟨cs, h1, _⟩ := h
  exact h1.free j
theorem VB.lt {w : World} {g n : Nat} {F : Nat → Nat → Int} (h : VB w g n F) : g < w.heap.size := by
  obtain ⟨cs, h1, _⟩ := h
  exact h1.lt
theorem VB.row {w : World} {g n : Nat} {F : Nat → Nat → Int} (h : VB w g n F) : VRow w (.slice (some ⟨g, 0, none⟩) n n) ((List.range n).map F) := by
  by_cases h0 : n = 0
  · subst h0
    exact .inl ⟨rfl, _, _, rfl⟩
  · refine .inr ⟨by simp; exact h0, g, 0, n, by simp, fun i j hi hj => ?_⟩
    have hi' : i < n := by simpa using hi
    rw [Nat.zero_add, h.cell i j hi' hj]
    simp [hi']
theorem VB.set {w : World} {g n : Nat} {F : Nat → Nat → Int} (h : VB w g n F) (k : Nat) (c : Nat → Int) (hk : k < n) :
    VB ((((w.setCell ⟨g, k * 4, none⟩ (.int .i32 (c 0))).setCell ⟨g, k * 4 + 1, none⟩ (.int .i32 (c 1))).setCell ⟨g, k * 4 + 2, none⟩ (.int .i32 (c 2))).setCell ⟨g, k * 4 + 3, none⟩ (.int .i32 (c 3))) g n (fun i => if i = k then c else F i) := by
  obtain ⟨cs, h1, h2, h3⟩ := h
  refine ⟨_, (((h1.set _ _).set _ _).set _ _).set _ _, by simpa using h2, fun i j hi hj => ?_⟩
  have hs : k * 4 + 3 < cs.size := by omega
  simp only [Array.getElem?_setIfInBounds, Array.size_setIfInBounds]
  by_cases e : i = k
  · subst e
    rcases (by omega : j = 0 ∨ j = 1 ∨ j = 2 ∨ j = 3) with rfl | rfl | rfl | rfl
    · rw [if_neg (by omega), if_neg (by omega), if_neg (by omega), if_pos (by omega), if_pos (by omega), if_pos rfl]
    · rw [if_neg (by omega), if_neg (by omega), if_pos (by omega), if_pos (by omega), if_pos rfl]
    · rw [if_neg (by omega), if_pos (by omega), if_pos (by omega), if_pos rfl]
    · rw [if_pos (by omega), if_pos (by omega), if_pos rfl]
  · rw [if_neg (by omega), if_neg (by omega), if_neg (by omega), if_neg (by omega), if_neg e]
    exact h3 i j hi hj
theorem Blk.set4o {w : World} {b r a0 a1 a2 a3 : Nat} {cs : Array Value} {t : TypeId} {x0 x1 x2 x3 : Value} (h : Blk w b cs t) (hne : b ≠ r) :
    Blk ((((w.setCell ⟨r, a0, none⟩ x0).setCell ⟨r, a1, none⟩ x1).setCell ⟨r, a2, none⟩ x2).setCell ⟨r, a3, none⟩ x3) b cs t := (((h.other _ _ hne).other _ _ hne).other _ _ hne).other _ _ hne
theorem ext_set4k {w w1 : World} {b a0 a1 a2 a3 : Nat} {x0 x1 x2 x3 : Value} (h : Ext w w1) (hb : w.heap.size ≤ b) : Ext w ((((w1.setCell ⟨b, a0, none⟩ x0).setCell ⟨b, a1, none⟩ x1).setCell ⟨b, a2, none⟩ x2).setCell ⟨b, a3, none⟩ x3) :=
  ext_set (ext_set (ext_set (ext_set h hb) hb) hb) hb

theorem made_zero (m i : Nat) (hi : i < m) : (madeCells #[.int .i32 0, .int .i32 0, .int .i32 0, .int .i32 0] m)[i]? = some (.int .i32 0) := by
  unfold madeCells
  rw [Array.getElem?_map, Array.getElem?_range, if_pos hi]
  simp only [Option.map_some, Option.some.injEq]
  rw [show (#[Value.int .i32 0, .int .i32 0, .int .i32 0, .int .i32 0] : Array Value).size = 4 from rfl]
  rcases (by omega : i % 4 = 0 ∨ i % 4 = 1 ∨ i % 4 = 2 ∨ i % 4 = 3) with h | h | h | h <;> rw [h] <;> rfl
theorem VB.made {w : World} {base g n : Nat} (h : w.ownsRow base 35 4 (.slice (some ⟨g, 0, none⟩) n n) n (madeCells #[.int .i32 0, .int .i32 0, .int .i32 0, .int .i32 0] (n * 4)).toList) : VB w g n (fun _ _ => 0) := by
  obtain ⟨hl, h2⟩ := h
  rcases h2 with ⟨h2, _⟩ | ⟨g2, cap, cur, hv, hb, hg, hn, hm, hs, ht⟩
  · cases h2
  · cases hv
    have e : cur = madeCells #[.int .i32 0, .int .i32 0, .int .i32 0, .int .i32 0] (n * 4) := by
      apply Array.toList_inj.1
      rw [← ht, List.take_of_length_le]
      simp
      omega
    refine ⟨cur, hg, hs, fun i j hi hj => ?_⟩
    rw [e]
    exact made_zero _ _ (by omega)

theorem px_length (f : Nat) (xs : List Int) (i : Nat) (h : (i + 1) * siz f ≤ xs.length) : (px f xs i).length = siz f := by
  rw [Nat.succ_mul] at h
  unfold px
  simp
  omega
theorem px_row {w : World} {b off f i : Nat} {xs : List Int} (h : ∀ j (hj : j < xs.length), w.cell? ⟨b, off + j, none⟩ = some (.int .u8 xs[j])) (hi : (i + 1) * siz f ≤ xs.length) (hs : 1 ≤ siz f) (hs4 : siz f ≤ 4) :
    Row .u8 w (.slice (some ⟨b, off + i * siz f, none⟩) (px f xs i).length (siz f)) (px f xs i) := by
  have hl := px_length f xs i hi
  rw [Nat.succ_mul] at hi
  refine .inr ⟨fun e => ?_, b, off + i * siz f, siz f, rfl, by omega, by unfold maxLen; omega, fun j hj => ?_⟩
  · rw [e] at hl
    simp at hl
    omega
  · rw [Nat.add_assoc, h (i * siz f + j) (by omega)]
    have : (px f xs i).getD j 0 = xs[i * siz f + j]'(by omega) := by
      unfold px
      rw [hl] at hj
      simp [hj]
      rw [List.getElem?_eq_getElem (by omega)]
      rfl
    rw [this]
theorem px_byt {f i : Nat} {xs : List Int} (h : Byt xs) : Byt (px f xs i) := h.cut _ _
theorem info35 : (Try.prog.info? 35).map (fun i => (i.zero, i.size, i.bytes)) = some (some (.agg #[.int .i32 0, .int .i32 0, .int .i32 0, .int .i32 0]), 4, 16) := by kernel_rfl

set_option maxHeartbeats 4000000 in
theorem row_any (f : Nat) (ao : Option Addr) (cap : Nat) (xs : List Int) (w : World) (h1 : 1 ≤ f) (h7 : f ≤ 7) (hr : Row .u8 w (.slice ao xs.length cap) xs) (hB : Byt xs) (hn : xs.length % siz f = 0) (hm : xs.length ≤ 8796093022208) :
    Calls Try.prog 21 #[.int .i64 (f : Int), .slice ao xs.length cap] w fun e w' =>
      ∃ g, e = .returned (.tuple #[.slice (some ⟨g, 0, none⟩) (xs.length / siz f) (xs.length / siz f), .int .i64 0]) ∧ VRow w' (.slice (some ⟨g, 0, none⟩) (xs.length / siz f) (xs.length / siz f)) (rowL f xs (xs.length / siz f)) ∧ Ext w w' := by
  obtain ⟨i0, hi, hz0, hz1, hz2⟩ := info_parts info35
  have hs := siz_three h1 h7
  have s1 : 1 ≤ (siz f : Int) := by omega
  have s2 : (siz f : Int) ≤ 4 := by omega
  have s3 : ((siz f : Int) == 0) = false := by simp; omega
  have HS := hide hs
  obtain ⟨n, hnn⟩ : ∃ n, n = xs.length / siz f := ⟨_, rfl⟩
  have hq : (xs.length : Int) / (siz f : Int) = (n : Int) := by rw [hnn]; rfl
  have hmod : ((xs.length : Int) % (siz f : Int) != 0) = false := by
    have : (xs.length : Int) % (siz f : Int) = ((xs.length % siz f : Nat) : Int) := rfl
    rw [this, hn]
    rfl
  have HT : Hid (n * siz f = xs.length) := by
    show _ = _
    rw [hnn]
    exact Nat.div_mul_cancel (Nat.dvd_of_mod_eq_zero hn)
  have hnm : n ≤ xs.length := by rw [hnn]; exact Nat.div_le_self _ _
  rw [← hnn]
  clear hnn hn hs
  have HR := hide hr
  have hcap : xs.length ≤ cap ∧ cap ≤ 9223372036854775807 := by
    obtain ⟨_, _, e, _, a, b⟩ := hr.shape
    cases e
    unfold maxLen at b
    omega
  clear hr
  go_enter Try.func21, Try.ntmps21
  go_wp2_with fail
  refine (find_any f _ h1 h7).mono ?_
  rintro e w1 ⟨rfl, hx⟩
  have hw1 := hx.size
  have X1 := hide (show Ext w (w1.alloc (.cells (layF f) 60)) from hx.alloc _)
  clear hx
  have c1 : (w1.alloc (.cells (layF f) 60)).cell? ⟨w1.heap.size, 1, none⟩ = some (.int .i64 (siz f : Int)) := (Blk.at rfl).cell rfl
  go_wp2_with (first
    | refine wpList_store_last rfl 60 (.tmp 6) (.tmp 13) rfl _ rfl (layF f) rfl 19 size60 (layF_size _) rfl (layF_one _) ?_
    | (at_make; refine wpList_make_full _ rfl _ _ 47 rfl w.heap.size 35 i0 (.agg #[.int .i32 0, .int .i32 0, .int .i32 0, .int .i32 0]) 4 Try.underlying47 hi hz0 hz1 .i64 .i64 (n : Int) (n : Int) n rfl rfl rfl rfl ?b1 ?b2 ?b3 ?_))
  case b1 => rw [hz2]; omega
  case b2 => unfold maxLen; omega
  case b3 => exact (unhide X1).size
  intro w2 hown hgrow
  have D0 : Hid (Blk w2 w1.heap.size (layF f) 60 ∧ VB w2 (w1.heap.size + 1) n (fun _ _ => 0) ∧ Ext w w2) := by
    have hE : Ext (w1.alloc (.cells (layF f) 60)) w2 := grown_below hgrow (Nat.le_refl _) (fun k h => by cases h)
    have hb := VB.made hown
    exact ⟨(Blk.at rfl).ext hE, by simpa using hb, (unhide X1).trans hE⟩
  clear hown hgrow c1
  go_wp2
  go_loopw [32] (fun i wr => ∃ k : Nat, k ≤ n ∧ i = .int .i64 k ∧ Blk wr w1.heap.size (layF f) 60 ∧ VB wr (w1.heap.size + 1) n (fun i => if i < k then colN f (numOf (px f xs i)) else nul) ∧ Ext w wr) (fun i _ => n - (intOf i).toNat)
  case atStart => exact ⟨0, Nat.zero_le _, rfl, (unhide D0).1, (unhide D0).2.1, (unhide D0).2.2⟩
  case round =>
    obtain ⟨k, hk, rfl, hb6, hbg, hx⟩ := hrel
    by_cases hlt : k < n
    · have hfit : (k + 1) * siz f ≤ xs.length := by
        have := Nat.mul_le_mul_right (siz f) (show k + 1 ≤ n by omega)
        rw [unhide HT] at this
        exact this
      have hx0 : 0 < xs.length := by
        rw [Nat.succ_mul] at hfit
        omega
      obtain ⟨b, off, rfl, hc⟩ := ((unhide HR).ext hx).at 0 hx0
      have HC := hide hc
      have D := hide (And.intro hb6 (And.intro hbg hx))
      have hltI : (k : Int) < (n : Int) := by omega
      clear hb6 hbg hx hc D0 hx0
      go_wp2
      refine wp_region_noPanic ?_
      refine wp_region_held_drew (S := fun w' => Blk w' w1.heap.size (layF f) 60) (by kernel_rfl) (unhide D).1 (fun hHeld => ?_)
      refine wpAnyH_take (i := 0) (v := .slice (some ⟨w1.heap.size + 1, 0, none⟩) n n) rfl (by kernel_rfl) (by kernel_rfl) (by kernel_rfl) (fun _ _ _ h => h) (Or.inl ⟨by rfl, fun _ _ => rfl⟩) hHeld ?_
      refine wpAnyH_take (i := 1) (v := .int .i64 (k : Int)) rfl (by kernel_rfl) (by kernel_rfl) (by kernel_rfl) (fun _ _ _ h => h) (Or.inl ⟨by rfl, fun _ _ => rfl⟩) hHeld ?_
      refine wpAnyH_take (i := 2) (v := .agg (layF f)) rfl (by kernel_rfl) (by kernel_rfl) (by kernel_rfl) (fun _ _ _ h => h) (yieldsIf_load_mid (by rfl) 60 (.tmp 6) rfl w1.heap.size 0 rfl (layF f).toList _ (fun w' h => h.range 0 _ rfl) Try.underlying60 rfl size60) hHeld ?_
      refine wpAnyH_take (i := 3) (v := .agg (layF f)) rfl (by kernel_rfl) (by kernel_rfl) (by kernel_rfl) (fun _ _ _ h => h) (yieldsIf_load_mid (by rfl) 60 (.tmp 6) rfl w1.heap.size 0 rfl (layF f).toList _ (fun w' h => h.range 0 _ rfl) Try.underlying60 rfl size60) hHeld ?_
      refine wpAnyH_take (i := 4) (v := .slice (some ⟨b, off, none⟩) xs.length cap) rfl (by kernel_rfl) (by kernel_rfl) (by kernel_rfl) (fun _ _ _ h => h) (Or.inl ⟨by rfl, fun _ _ => rfl⟩) hHeld ?_
      refine wpAnyH_take (i := 5) (v := .int .i64 (k : Int)) rfl (by kernel_rfl) (by kernel_rfl) (by kernel_rfl) (fun _ _ _ h => h) (Or.inl ⟨by rfl, fun _ _ => rfl⟩) hHeld ?_
      refine wpAnyH_ready (rs := [6]) (by kernel_rfl) (by simp) (AllReadyH.cons rfl (fun K hK => ?_) AllReadyH.nil)
      go_simp
      refine (pixel_any f b off xs.length cap k _ h1 h7 hfit hcap.1 (by omega)).mono ?_
      rintro e w3 ⟨rfl, hx3⟩
      have bx3 : Blk w3 w1.heap.size (layF f) 60 := hHeld.ext hx3
      have X3 : Hid (Ext wr w3) := (Ext.refl wr).drew.trans hx3
      refine hK.out _ _ bx3 (fun _ => ?_)
      clear hK K hHeld hx3
      refine wpAnyH_ready (rs := [7]) (by kernel_rfl) (by simp) (AllReadyH.cons rfl (fun K hK => ?_) AllReadyH.nil)
      go_simp
      obtain ⟨b', off', e', hc3⟩ := ((unhide HR).ext ((unhide D).2.2.trans (unhide X3))).at (k * siz f) (by
        rw [Nat.succ_mul] at hfit
        omega)
      cases e'
      have hpl := px_length f xs k hfit
      have hcol := colour_any f (some ⟨b, off + k * siz f, none⟩) (siz f) (px f xs k) w3 h1 h7 (px_row hc3 hfit (by omega) (by omega)) (px_byt hB) hpl
      rw [hpl] at hcol
      refine hcol.mono ?_
      rintro e w4 ⟨rfl, hx4⟩
      obtain ⟨c, HCC⟩ : ∃ c, Hid (colN f (numOf (px f xs k)) = c) := ⟨_, rfl⟩
      rw [unhide HCC]
      have bx4 : Blk w4 w1.heap.size (layF f) 60 := bx3.ext hx4
      have X4 : Hid (Ext wr w4) := (unhide X3).trans hx4
      refine hK.out _ _ bx4 (fun _ => ?_)
      clear hK K bx3 hx4 X3 hc3 hcol HC
      refine wpAnyH_ready (rs := [8]) (by kernel_rfl) (by simp) (AllReadyH.cons rfl (fun K hK => ?_) AllReadyH.nil)
      go_simp
      refine hK.out _ _ bx4 (fun _ => ?_)
      clear hK K
      have V4 := hide (VB.ext (unhide D).2.1 (unhide X4))
      refine wpAnyH_ready (rs := [9]) (by kernel_rfl) (by simp) (AllReadyH.cons rfl (fun K hK => ?_) AllReadyH.nil)
      rw [if_pos (by rfl)]
      refine wp_store_mid 35 (.tmp 43) (.tmp 42) rfl (w1.heap.size + 1) (k * 4) #[.int .i32 (c 0), .int .i32 (c 1), .int .i32 (c 2), .int .i32 (c 3)] rfl rfl (fun j hj => ⟨by rw [(unhide V4).cell k j hlt hj]; rfl, (unhide V4).free _⟩) size35 (vec_one _) ?_
      refine hK.out _ _ (bx4.set4o (r := w1.heap.size + 1) (by omega)) (fun _ => ?_)
      have HB4 := hide bx4
      clear hK K bx4
      refine wpAnyH_done (by kernel_rfl) ?_ _
      refine NoPanic.normal ?_
      go_wp2
      go_roundw
      case rel =>
        refine ⟨k + 1, by omega, by go_num, (unhide HB4).set4o (r := w1.heap.size + 1) (by omega), ?_, ext_set4k ((unhide D).2.2.trans (unhide X4)) (by omega)⟩
        have hV := (unhide V4).set k c hlt
        have e : (fun i => if i = k then c else if i < k then colN f (numOf (px f xs i)) else nul) = (fun i => if i < k + 1 then colN f (numOf (px f xs i)) else nul) := by
          funext i
          by_cases hik : i = k
          · subst hik
            rw [if_pos rfl, if_pos (by omega), unhide HCC]
          · rw [if_neg hik]
            by_cases h : i < k
            · rw [if_pos h, if_pos (by omega)]
            · rw [if_neg h, if_neg (by omega)]
        rw [e] at hV
        exact hV
      case measure => simp [intOf]; omega
    · have hkn : k = n := by omega
      have D := hide (And.intro hbg hx)
      clear hb6 hbg hx D0 X1
      go_wp2
      have hR := (unhide D).1.row
      have e : (List.range n).map (fun i => if i < k then colN f (numOf (px f xs i)) else nul) = rowL f xs n := by
        unfold rowL
        apply List.map_congr_left
        intro i hi
        rw [if_pos]
        rw [hkn]
        simpa using hi
      rw [e] at hR
      refine bodyPost_ret (v := .tuple #[.slice (some ⟨w1.heap.size + 1, 0, none⟩) n n, .int .i64 0]) (by simp [results, Try.results21, go_sem]) rfl ⟨_, rfl, hR, (unhide D).2⟩
end Go.Proofs.Ytijkkhnhejadgaa
