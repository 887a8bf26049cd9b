/-
  Proved: PixelRows answers true for every format, all bytes and all colours, and turns nothing that was there: Row and Lay answer what the document says, pixel by pixel, or ErrArg, or ErrShort. No condition but the form's own bound on what is read.
-/
import Derived.Test.YtijkkhnhejadgaaPQ
import Derived.Test.YtijkkhnhejadgaaPL
import Derived.Test.YtijkkhnhejadgaaPN
import Derived.Test.YtijkkhnhejadgaaQt
namespace Go.Proofs.Ytijkkhnhejadgaa
open Go.ChangeShapes Go.WideShapes Go.ChangeAt Go.RowKit
open Go.ChangeMaps (open_string shut_string)

/-- The four cells of vector k. -/
theorem vec_cells {w : World} {g n cap : Nat} {cs : List (Nat → Int)} (h : VRow w (.slice (some ⟨g, 0, none⟩) n cap) cs) (k : Nat) (hk : k < cs.length) :
    w.cell? ⟨g, k * 4, none⟩ = some (.int .i32 (cs.getD k nul 0)) ∧ w.cell? ⟨g, k * 4 + 1, none⟩ = some (.int .i32 (cs.getD k nul 1)) ∧ w.cell? ⟨g, k * 4 + 2, none⟩ = some (.int .i32 (cs.getD k nul 2)) ∧ w.cell? ⟨g, k * 4 + 3, none⟩ = some (.int .i32 (cs.getD k nul 3)) := by
  obtain ⟨b, off, e, hc⟩ := h.at k hk
  cases e
  have h0 := hc k 0 hk (by omega)
  have h1 := hc k 1 hk (by omega)
  have h2 := hc k 2 hk (by omega)
  have h3 := hc k 3 hk (by omega)
  rw [Nat.zero_add] at h0 h1 h2 h3
  exact ⟨h0, h1, h2, h3⟩
theorem wrapi {x : Int} (h0 : 0 ≤ x) (h1 : x ≤ 100000) : IntKind.i64.wrap x = x := by
  simp only [IntKind.wrap, IntKind.bits, IntKind.signed, show ((2 : Int) ^ 64) = 18446744073709551616 from rfl, show ((2 : Int) ^ (64 - 1)) = 9223372036854775808 from rfl, Bool.true_and, decide_eq_true_eq, Int.emod_eq_of_lt h0 (show x < 18446744073709551616 by omega)]
  split <;> omega

set_option maxHeartbeats 1000000 in
theorem rows_long (f : Int) (ao al : Option Addr) (n m cap cal : Nat) (w : World) (h : 5000 < n ∨ 2000 < m) :
    Calls Try.prog 6 #[.int .i64 f, .slice ao n cap, .slice al m cal] w fun e w' => e = .returned (.bool true) ∧ Ext w w' := by
  go_enter Try.func6, Try.ntmps6
  go_wp2_with fail
  refine (wakes_any w).mono ?_
  rintro e w1 ⟨rfl, hx⟩
  have X := hide hx
  clear hx
  by_cases h1 : 5000 < n
  · have hi : (5000 : Int) < (n : Int) := by omega
    go_wp2
    go_ret
    exact ⟨rfl, unhide X⟩
  · have hi : ¬ (5000 : Int) < (n : Int) := by omega
    have hj : (2000 : Int) < (m : Int) := by omega
    go_wp2
    go_ret
    exact ⟨rfl, unhide X⟩

set_option maxRecDepth 100000 in
set_option maxHeartbeats 2000000 in
theorem rows_bad (f : Int) (ao al : Option Addr) (cap cal : Nat) (xs : List Int) (cs : List (Nat → Int)) (w : World) (h : f < 1 ∨ 7 < f) (hr : Row .u8 w (.slice ao xs.length cap) xs) (hv : VRow w (.slice al cs.length cal) cs) (hnone : ∀ cap, Value.slice al cs.length cal = .slice none 0 cap → cap = 0) (hn : xs.length ≤ 5000) (hm : cs.length ≤ 2000) :
    Calls Try.prog 6 #[.int .i64 f, .slice ao xs.length cap, .slice al cs.length cal] w fun e w' => e = .returned (.bool true) ∧ Ext w w' := by
  have hs := siz_off h
  obtain ⟨i0, hi, hz0, hz1, hz2⟩ := info_parts info5
  obtain ⟨j0, hj, hy0, hy1, hy2⟩ := info_parts info35
  have hni : ¬ (5000 : Int) < (xs.length : Int) := by omega
  have hmi : ¬ (2000 : Int) < (cs.length : Int) := by omega
  have HR := hide hr
  have HV := hide hv
  have HNo := hide hnone
  clear hr hv hnone
  go_enter Try.func6, Try.ntmps6
  go_wp2_with fail
  refine (wakes_any w).mono ?_
  rintro e w1 ⟨rfl, hx⟩
  have X := hide hx
  have HR1 := hide ((unhide HR).ext (hx.alloc (.cells #[] 5)))
  clear hx
  go_wp2_with (at_builtin; refine wpList_append_Own rfl (.tmp 28) (.tmp 29) 36 rfl w1.heap.size 5 i0 .u8 1 Try.underlying36 hi hz0 hz1 hz2 _ [] rfl (Own.made w1 (Nat.le_refl _)) _ xs rfl (unhide HR1) ?c1 ?c2 ?c3 ?_)
  case c1 => unfold maxLen; simp; omega
  case c2 => simp; omega
  case c3 => simp
  intro v2 w2 hown hgrow
  obtain ⟨ao2, cap2, rfl⟩ := hown.shape
  have R2 := hide hown.row
  have X2 : Hid (Ext w w2) := (unhide X).trans (((Below.refl _ _).alloc (Nat.le_refl _) _).grown hgrow (by simp) (by simp [Value.ownBlock]))
  clear hown hgrow X HR1
  clear R2
  go_wp2_with fail
  refine (row_bad f _ _ h).mono ?_
  rintro e w3 ⟨rfl, hx⟩
  have X3 := hide ((unhide X2).trans hx)
  clear hx X2
  have HV3 := hide ((unhide HV).ext ((unhide X3).alloc (.cells #[] 35)))
  go_wp2_with (at_builtin; refine wpList_append_V rfl (.tmp 36) (.tmp 37) 47 rfl w3.heap.size 35 j0 Try.underlying47 hj hy0 hy1 hy2 w3.heap.size rfl (World.ownsRow_made w3 #[] 0 (Nat.le_refl _) (Nat.zero_le _) rfl) _ cs rfl (unhide HV3) (unhide HNo) hm ?c4 ?_)
  case c4 => simp
  intro ao4 cap4 w4 hv4 hgrow
  have X4a : Hid (Ext w3 w4) := ((Below.refl _ _).alloc (Nat.le_refl _) _).grown hgrow (by simp) (by simp)
  have D4 := hide (And.intro hv4 ((unhide X3).trans (unhide X4a)))
  clear hv4 hgrow HV3
  go_wp2_with fail
  refine (lay_bad f _ _ h).mono ?_
  rintro e w5 ⟨rfl, hx⟩
  have X5 := hide ((unhide D4).2.trans hx)
  clear hx D4
  go_wp2_with fail
  refine (refSize_any f _).mono ?_
  rintro e w6 ⟨rfl, rfl⟩
  rw [hs]
  go_wp2
  go_ret
  exact ⟨rfl, unhide X5⟩

set_option maxRecDepth 100000 in
set_option maxHeartbeats 4000000 in
theorem rows_off (f : Nat) (ao al : Option Addr) (cap cal : Nat) (xs : List Int) (cs : List (Nat → Int)) (w : World) (h1 : 1 ≤ f) (h7 : f ≤ 7) (hr : Row .u8 w (.slice ao xs.length cap) xs) (hv : VRow w (.slice al cs.length cal) cs) (hnone : ∀ cap, Value.slice al cs.length cal = .slice none 0 cap → cap = 0) (hn : xs.length ≤ 5000) (hm : cs.length ≤ 2000) (hI : ∀ c ∈ cs, ∀ i, I32 (c i)) (hs : xs.length % siz f ≠ 0) :
    Calls Try.prog 6 #[.int .i64 (f : Int), .slice ao xs.length cap, .slice al cs.length cal] w fun e w' => e = .returned (.bool true) ∧ Ext w w' := by
  have hs3 := siz_three h1 h7
  have s0 : ((siz f : Int) == 0) = false := by simp; omega
  have s1 : 1 ≤ (siz f : Int) := by omega
  have s2 : (siz f : Int) ≤ 4 := by omega
  have HSE := hide (siz_eq f)
  have HS3 := hide hs3
  have hml : ((cs.length * siz f : Nat) : Int) = (siz f : Int) * (cs.length : Int) := by rw [Int.natCast_mul, Int.mul_comm]
  have hmb : 0 ≤ (siz f : Int) * (cs.length : Int) ∧ (siz f : Int) * (cs.length : Int) ≤ 8000 := by
    rw [← hml]
    have := Nat.mul_le_mul hm (show siz f ≤ 4 by omega)
    omega
  have HML := hide hml
  have hcm : ((cs.length : Int) * (siz f : Int) != (siz f : Int) * (cs.length : Int)) = false := by rw [Int.mul_comm]; simp
  have hmb2 : (cs.length : Int) * (siz f : Int) ≤ 8000 := by rw [Int.mul_comm]; exact hmb.2
  clear hs3 hml
  have HS := hide hs
  have HI := hide hI
  have hmod : ((xs.length : Int) % (siz f : Int) != 0) = true := by
    have e : (xs.length : Int) % (siz f : Int) = ((xs.length % siz f : Nat) : Int) := rfl
    rw [e]
    simp
    omega
  clear hs hI
  obtain ⟨i0, hi, hz0, hz1, hz2⟩ := info_parts info5
  obtain ⟨j0, hj, hy0, hy1, hy2⟩ := info_parts info35
  have hni : ¬ (5000 : Int) < (xs.length : Int) := by omega
  have hmi : ¬ (2000 : Int) < (cs.length : Int) := by omega
  have HR := hide hr
  have HV := hide hv
  have HNo := hide hnone
  clear hr hv hnone
  go_enter Try.func6, Try.ntmps6
  go_wp2_with fail
  refine (wakes_any w).mono ?_
  rintro e w1 ⟨rfl, hx⟩
  have X := hide hx
  have HR1 := hide ((unhide HR).ext (hx.alloc (.cells #[] 5)))
  clear hx
  go_wp2_with (at_builtin; refine wpList_append_Own rfl (.tmp 28) (.tmp 29) 36 rfl w1.heap.size 5 i0 .u8 1 Try.underlying36 hi hz0 hz1 hz2 _ [] rfl (Own.made w1 (Nat.le_refl _)) _ xs rfl (unhide HR1) ?c1 ?c2 ?c3 ?_)
  case c1 => unfold maxLen; simp; omega
  case c2 => simp; omega
  case c3 => simp
  intro v2 w2 hown hgrow
  obtain ⟨ao2, cap2, rfl⟩ := hown.shape
  have R2 := hide hown.row
  have X2 : Hid (Ext w w2) := (unhide X).trans (((Below.refl _ _).alloc (Nat.le_refl _) _).grown hgrow (by simp) (by simp [Value.ownBlock]))
  clear hown hgrow X HR1
  clear R2
  go_wp2_with fail
  refine (row_off f ao2 xs.length cap2 _ h1 h7 (unhide HS) (by omega)).mono ?_
  rintro e w3 ⟨rfl, hx⟩
  have X3 := hide ((unhide X2).trans hx)
  clear hx X2
  have HV3 := hide ((unhide HV).ext ((unhide X3).alloc (.cells #[] 35)))
  go_wp2_with (at_builtin; refine wpList_append_V rfl (.tmp 36) (.tmp 37) 47 rfl w3.heap.size 35 j0 Try.underlying47 hj hy0 hy1 hy2 w3.heap.size rfl (World.ownsRow_made w3 #[] 0 (Nat.le_refl _) (Nat.zero_le _) rfl) _ cs rfl (unhide HV3) (unhide HNo) hm ?c4 ?_)
  case c4 => simp
  intro ao4 cap4 w4 hv4 hgrow
  have X4a : Hid (Ext w3 w4) := ((Below.refl _ _).alloc (Nat.le_refl _) _).grown hgrow (by simp) (by simp)
  have D4 := hide (And.intro hv4 ((unhide X3).trans (unhide X4a)))
  clear hv4 hgrow HV3
  go_wp2_with fail
  refine (lay_any f ao4 cap4 cs _ h1 h7 (unhide D4).1 (by omega)).mono ?_
  rintro e w5 ⟨ao5, cap5, rfl, hr5, hx⟩
  have X5a := hide ((unhide X4a).trans hx)
  have D5 := hide (And.intro hr5 ((unhide D4).2.trans hx))
  clear hr5 hx D4 X4a
  go_wp2_with fail
  refine (refSize_any f _).mono ?_
  rintro e w6 ⟨rfl, rfl⟩
  rw [← unhide HSE]
  go_wp2
  go_loopw [120] (fun iv wr => ∃ k : Nat, k ≤ cs.length ∧ iv = .int .i64 k ∧ Ext w6 wr) (fun iv _ => cs.length - (intOf iv).toNat)
  case atStart => exact ⟨0, Nat.zero_le _, rfl, Ext.refl _⟩
  case round =>
    obtain ⟨k, hk, rfl, hx⟩ := hrel
    have X := hide hx
    clear hx
    by_cases hlt : k < cs.length
    · obtain ⟨b, off, rfl, hc⟩ := ((unhide HV).ext ((unhide D5).2.trans (unhide X))).at k hlt
      obtain ⟨c, HC⟩ : ∃ c, Hid (cs.getD k nul = c) := ⟨_, rfl⟩
      have d0 : wr.cell? ⟨b, off + k * 4, none⟩ = some (.int .i32 (c 0)) := by rw [← unhide HC]; exact hc k 0 hlt (by omega)
      have d1 : wr.cell? ⟨b, off + k * 4 + 1, none⟩ = some (.int .i32 (c 1)) := by rw [← unhide HC]; exact hc k 1 hlt (by omega)
      have d2 : wr.cell? ⟨b, off + k * 4 + 2, none⟩ = some (.int .i32 (c 2)) := by rw [← unhide HC]; exact hc k 2 hlt (by omega)
      have d3 : wr.cell? ⟨b, off + k * 4 + 3, none⟩ = some (.int .i32 (c 3)) := by rw [← unhide HC]; exact hc k 3 hlt (by omega)
      clear hc
      have HIc : Hid (∀ i, I32 (c i)) := by
        rw [← unhide HC]
        refine unhide HI _ ?_
        simp [hlt]
      have hfit : (k + 1) * siz f ≤ cs.length * siz f := Nat.mul_le_mul_right _ (by omega)
      have hfitI : (k : Int) * (siz f : Int) + (siz f : Int) ≤ (cs.length : Int) * (siz f : Int) := by
        rw [Nat.succ_mul] at hfit
        have := Int.ofNat_le.2 hfit
        push_cast at this
        exact this
      have hk0 : 0 ≤ (k : Int) * (siz f : Int) := Int.mul_nonneg (by omega) (by omega)
      have hltI : (k : Int) < (cs.length : Int) := by omega
      have hLl := layL_length f cs
      obtain ⟨b5, off5, e5, hc5⟩ := ((unhide D5).1.ext ((unhide X).alloc (.cells #[.int .i32 (c 0), .int .i32 (c 1), .int .i32 (c 2), .int .i32 (c 3)] 35))).at 0 (by rw [hLl]; rw [Nat.succ_mul] at hfit; omega)
      subst e5
      have hcap : cs.length * siz f ≤ cap5 ∧ cap5 ≤ maxLen := by
        obtain ⟨_, _, e, _, a, b⟩ := (unhide D5).1.shape
        injection e with e1 e2 e3
        subst e3
        rw [hLl] at a
        exact ⟨a, b⟩
      have hcapI : (cs.length : Int) * (siz f : Int) ≤ (cap5 : Int) := by
        have := Int.ofNat_le.2 hcap.1
        push_cast at this
        exact this
      have HC5 := hide hc5
      have HH := hide (Blk.at (w := wr) (cs := #[.int .i32 (c 0), .int .i32 (c 1), .int .i32 (c 2), .int .i32 (c 3)]) (t := 35) rfl)
      clear hc5 hLl
      have hvc : ∀ w', Blk w' wr.heap.size #[.int .i32 (c 0), .int .i32 (c 1), .int .i32 (c 2), .int .i32 (c 3)] 35 → _ := fun w' h => h.vec4
      have t1 : ((k : Int) * (siz f : Int)).toNat = k * siz f := by rw [← Int.natCast_mul]; rfl
      have t2 : ((k : Int) * (siz f : Int) + (siz f : Int)).toNat = k * siz f + siz f := by rw [← Int.natCast_mul, ← Int.natCast_add]; rfl
      have g1 : 0 ≤ (k : Int) * (siz f : Int) + (siz f : Int) := by omega
      have g2 : (k : Int) * (siz f : Int) ≤ (k : Int) * (siz f : Int) + (siz f : Int) := by omega
      have g3 : (k : Int) * (siz f : Int) + (siz f : Int) ≤ (cap5 : Int) := by omega
      have hk1 : k * siz f + siz f ≤ cap5 := by rw [Nat.succ_mul] at hfit; omega
      have g4 : ¬ cap5 = k * siz f := by omega
      have g5 : (k : Int) * (siz f : Int) ≤ 8000 := by omega
      have g6 : (k : Int) * (siz f : Int) + (siz f : Int) ≤ 8000 := by omega
      have q1 := wrapi hk0 (show (k : Int) * (siz f : Int) ≤ 100000 by omega)
      have q2 := wrapi g1 (show (k : Int) * (siz f : Int) + (siz f : Int) ≤ 100000 by omega)
      have HPX : Hid (∀ W, Ext (wr.alloc (.cells #[.int .i32 (c 0), .int .i32 (c 1), .int .i32 (c 2), .int .i32 (c 3)] 35)) W → Row .u8 W (.slice (some ⟨b5, off5 + k * siz f, none⟩) (siz f) (cap5 - k * siz f)) (pk f c)) := by
        intro W hW
        have hfit2 : (k + 1) * siz f ≤ (layL f cs).length := by rw [layL_length]; exact hfit
        have h5 : ∀ j (hj : j < (layL f cs).length), W.cell? ⟨b5, off5 + j, none⟩ = some (.int .u8 (layL f cs)[j]) := fun j hj => by
          rw [hW.cell (p := ⟨b5, off5 + j, none⟩) (World.block_lt_of_cell? _ _ (unhide HC5 j hj))]
          exact unhide HC5 j hj
        have hrw := px_rowc (cap := cap5 - k * siz f) h5 hfit2 (by omega) (by omega) (by have := hcap.2; omega)
        rw [px_length f _ k hfit2, px_lay f cs k hlt, unhide HC] at hrw
        exact hrw
      have hpl : (pk f c).length ≤ 140737488355328 := by rw [pk_length]; omega
      clear hfit hk1 HC5 hcap hcapI
      go_wp2
      go_region_held3 (fun w' => Blk w' wr.heap.size #[.int .i32 (c 0), .int .i32 (c 1), .int .i32 (c 2), .int .i32 (c 3)] 35) (first | with_reducible exact bx | exact unhide HH)
        (first | (go_at_call 18; refine (refPack_any f c _ h1 h7 (unhide HIc)).mono ?_; rintro e w7 ⟨ao7, cap7, rfl, hr7, hx7⟩; have bx : Blk w7 wr.heap.size #[.int .i32 (c 0), .int .i32 (c 1), .int .i32 (c 2), .int .i32 (c 3)] 35 := Blk.ext (by with_reducible assumption) hx7; have Y7 : Hid (Row .u8 w7 (.slice ao7 (siz f) cap7) (pk f c) ∧ Ext (wr.alloc (.cells #[.int .i32 (c 0), .int .i32 (c 1), .int .i32 (c 2), .int .i32 (c 3)] 35)) w7) := ⟨hr7, (Ext.refl _).drew.trans hx7⟩; clear hr7 hx7)
               | (go_at_call 17; refine (same_any _ _ (pk f c) (pk f c) _ (unhide HPX _ (unhide Y7).2) (unhide Y7).1 hpl).mono ?_; rintro e w8 ⟨rfl, n8, rfl⟩; rw [decide_eq_true rfl]; have bx : Blk (w7.drewN n8) wr.heap.size #[.int .i32 (c 0), .int .i32 (c 1), .int .i32 (c 2), .int .i32 (c 3)] 35 := Blk.drewN (by with_reducible assumption) n8))
      go_wp2
      go_roundw
      case rel => exact ⟨k + 1, by omega, by go_num, ((((unhide X).alloc _).trans (unhide Y7).2)).drewN _⟩
      case measure => simp [intOf]; omega
    · go_wp2
      go_ret
      exact ⟨rfl, (unhide D5).2.trans (unhide X)⟩

set_option maxRecDepth 100000 in
set_option maxHeartbeats 4000000 in
theorem rows_walk (f : Nat) (ao al : Option Addr) (cap cal : Nat) (xs : List Int) (cs : List (Nat → Int)) (w : World) (h1 : 1 ≤ f) (h7 : f ≤ 7) (hr : Row .u8 w (.slice ao xs.length cap) xs) (hv : VRow w (.slice al cs.length cal) cs) (hnone : ∀ cap, Value.slice al cs.length cal = .slice none 0 cap → cap = 0) (hn : xs.length ≤ 5000) (hm : cs.length ≤ 2000) (hB : Byt xs) (hI : ∀ c ∈ cs, ∀ i, I32 (c i)) (hs : xs.length % siz f = 0) :
    Calls Try.prog 6 #[.int .i64 (f : Int), .slice ao xs.length cap, .slice al cs.length cal] w fun e w' => e = .returned (.bool true) ∧ Ext w w' := by
  have hs3 := siz_three h1 h7
  have s0 : ((siz f : Int) == 0) = false := by simp; omega
  have s1 : 1 ≤ (siz f : Int) := by omega
  have s2 : (siz f : Int) ≤ 4 := by omega
  have HSE := hide (siz_eq f)
  have HS3 := hide hs3
  have hml : ((cs.length * siz f : Nat) : Int) = (siz f : Int) * (cs.length : Int) := by rw [Int.natCast_mul, Int.mul_comm]
  have hmb : 0 ≤ (siz f : Int) * (cs.length : Int) ∧ (siz f : Int) * (cs.length : Int) ≤ 8000 := by
    rw [← hml]
    have := Nat.mul_le_mul hm (show siz f ≤ 4 by omega)
    omega
  have HML := hide hml
  have hcm : ((cs.length : Int) * (siz f : Int) != (siz f : Int) * (cs.length : Int)) = false := by rw [Int.mul_comm]; simp
  have hmb2 : (cs.length : Int) * (siz f : Int) ≤ 8000 := by rw [Int.mul_comm]; exact hmb.2
  clear hs3 hml
  have hE := eqV
  obtain ⟨n, hnn⟩ : ∃ n, n = xs.length / siz f := ⟨_, rfl⟩
  have HN := hide hnn
  have hq : (xs.length : Int) / (siz f : Int) = (n : Int) := by rw [hnn]; rfl
  have HT : Hid (n * siz f = xs.length) := by
    show _ = _
    rw [hnn]
    exact Nat.div_mul_cancel (Nat.dvd_of_mod_eq_zero hs)
  have hnm : n ≤ 5000 := by rw [hnn]; exact Nat.le_trans (Nat.div_le_self _ _) hn
  have HS := hide hs
  have HI := hide hI
  have hmod : ((xs.length : Int) % (siz f : Int) != 0) = false := by
    have e : (xs.length : Int) % (siz f : Int) = ((xs.length % siz f : Nat) : Int) := rfl
    rw [e, hs]
    rfl
  clear hs hI hnn
  obtain ⟨i0, hi, hz0, hz1, hz2⟩ := info_parts info5
  obtain ⟨j0, hj, hy0, hy1, hy2⟩ := info_parts info35
  have hni : ¬ (5000 : Int) < (xs.length : Int) := by omega
  have hmi : ¬ (2000 : Int) < (cs.length : Int) := by omega
  have HR := hide hr
  have HV := hide hv
  have HNo := hide hnone
  clear hr hv hnone
  go_enter Try.func6, Try.ntmps6
  go_wp2_with fail
  refine (wakes_any w).mono ?_
  rintro e w1 ⟨rfl, hx⟩
  have X := hide hx
  have HR1 := hide ((unhide HR).ext (hx.alloc (.cells #[] 5)))
  clear hx
  go_wp2_with (at_builtin; refine wpList_append_Own rfl (.tmp 28) (.tmp 29) 36 rfl w1.heap.size 5 i0 .u8 1 Try.underlying36 hi hz0 hz1 hz2 _ [] rfl (Own.made w1 (Nat.le_refl _)) _ xs rfl (unhide HR1) ?c1 ?c2 ?c3 ?_)
  case c1 => unfold maxLen; simp; omega
  case c2 => simp; omega
  case c3 => simp
  intro v2 w2 hown hgrow
  obtain ⟨ao2, cap2, rfl⟩ := hown.shape
  have R2 := hide hown.row
  have X2 : Hid (Ext w w2) := (unhide X).trans (((Below.refl _ _).alloc (Nat.le_refl _) _).grown hgrow (by simp) (by simp [Value.ownBlock]))
  clear hown hgrow X HR1
  go_wp2_with fail
  refine (row_any f ao2 cap2 xs _ h1 h7 (unhide R2) hB (unhide HS) (by omega)).mono ?_
  rintro e w3 ⟨g, rfl, hrv, hx⟩
  rw [← unhide HN] at hrv ⊢
  have RV := hide hrv
  have X3 := hide ((unhide X2).trans hx)
  clear hx X2 R2 hrv
  have HV3 := hide ((unhide HV).ext ((unhide X3).alloc (.cells #[] 35)))
  go_wp2_with (at_builtin; refine wpList_append_V rfl (.tmp 36) (.tmp 37) 47 rfl w3.heap.size 35 j0 Try.underlying47 hj hy0 hy1 hy2 w3.heap.size rfl (World.ownsRow_made w3 #[] 0 (Nat.le_refl _) (Nat.zero_le _) rfl) _ cs rfl (unhide HV3) (unhide HNo) hm ?c4 ?_)
  case c4 => simp
  intro ao4 cap4 w4 hv4 hgrow
  have X4a : Hid (Ext w3 w4) := ((Below.refl _ _).alloc (Nat.le_refl _) _).grown hgrow (by simp) (by simp)
  have D4 := hide (And.intro hv4 ((unhide X3).trans (unhide X4a)))
  clear hv4 hgrow HV3
  go_wp2_with fail
  refine (lay_any f ao4 cap4 cs _ h1 h7 (unhide D4).1 (by omega)).mono ?_
  rintro e w5 ⟨ao5, cap5, rfl, hr5, hx⟩
  have X5a := hide ((unhide X4a).trans hx)
  have D5 := hide (And.intro hr5 ((unhide D4).2.trans hx))
  clear hr5 hx D4 X4a
  go_wp2_with fail
  refine (refSize_any f _).mono ?_
  rintro e w6 ⟨rfl, rfl⟩
  rw [← unhide HSE]
  go_wp2
  go_loopw [87] (fun iv wr => ∃ k : Nat, k ≤ n ∧ iv = .int .i64 k ∧ Ext w6 wr) (fun iv _ => n - (intOf iv).toNat)
  case atStart => exact ⟨0, Nat.zero_le _, rfl, Ext.refl _⟩
  case round =>
    obtain ⟨k, hk, rfl, hx⟩ := hrel
    have X := hide hx
    clear hx
    by_cases hlt : k < n
    · have hltI : (k : Int) < (n : Int) := by omega
      obtain ⟨c, HC⟩ : ∃ c, Hid (colN f (numOf (px f xs k)) = c) := ⟨_, rfl⟩
      have vm := vec_cells ((unhide RV).ext ((unhide X5a).trans (unhide X))) k (by simp [rowL]; exact hlt)
      rw [rowL_at f xs n k hlt, unhide HC] at vm
      obtain ⟨m0, m1, m2, m3⟩ := vm
      have hfit : (k + 1) * siz f ≤ xs.length := by
        have := Nat.mul_le_mul_right (siz f) (show k + 1 ≤ n by omega)
        rw [unhide HT] at this
        exact this
      have hfitI : (k : Int) * (siz f : Int) + (siz f : Int) ≤ (xs.length : Int) := by
        rw [Nat.succ_mul] at hfit
        have := Int.ofNat_le.2 hfit
        push_cast at this
        exact this
      have hk0 : 0 ≤ (k : Int) * (siz f : Int) := Int.mul_nonneg (by omega) (by omega)
      have hx0 : 0 < xs.length := by rw [Nat.succ_mul] at hfit; omega
      obtain ⟨b, off, rfl, hc⟩ := ((unhide HR).ext (((unhide D5).2.trans (unhide X)).alloc (.cells #[.int .i32 (c 0), .int .i32 (c 1), .int .i32 (c 2), .int .i32 (c 3)] 35))).at 0 hx0
      have hcap : xs.length ≤ cap ∧ cap ≤ maxLen := by
        obtain ⟨_, _, e, _, a, b⟩ := (unhide HR).shape
        cases e
        exact ⟨a, b⟩
      have hcapI : (xs.length : Int) ≤ (cap : Int) := Int.ofNat_le.2 hcap.1
      have t1 : ((k : Int) * (siz f : Int)).toNat = k * siz f := by rw [← Int.natCast_mul]; rfl
      have t2 : ((k : Int) * (siz f : Int) + (siz f : Int)).toNat = k * siz f + siz f := by rw [← Int.natCast_mul, ← Int.natCast_add]; rfl
      have g1 : 0 ≤ (k : Int) * (siz f : Int) + (siz f : Int) := by omega
      have g2 : (k : Int) * (siz f : Int) ≤ (k : Int) * (siz f : Int) + (siz f : Int) := by omega
      have g3 : (k : Int) * (siz f : Int) + (siz f : Int) ≤ (cap : Int) := by omega
      have hk1 : k * siz f + siz f ≤ cap := by rw [Nat.succ_mul] at hfit; have := hcap.1; omega
      have g4 : ¬ cap = k * siz f := by omega
      have g5 : (k : Int) * (siz f : Int) ≤ 8000 := by omega
      have g6 : (k : Int) * (siz f : Int) + (siz f : Int) ≤ 8000 := by omega
      have q1 := wrapi hk0 (show (k : Int) * (siz f : Int) ≤ 100000 by omega)
      have q2 := wrapi g1 (show (k : Int) * (siz f : Int) + (siz f : Int) ≤ 100000 by omega)
      have HU : Hid (∀ W, Ext (wr.alloc (.cells #[.int .i32 (c 0), .int .i32 (c 1), .int .i32 (c 2), .int .i32 (c 3)] 35)) W → Calls Try.prog 20 #[.int .i64 (f : Int), .slice (some ⟨b, off + k * siz f, none⟩) (siz f) (cap - k * siz f)] W fun e w' => e = .returned (.agg #[.int .i32 (c 0), .int .i32 (c 1), .int .i32 (c 2), .int .i32 (c 3)]) ∧ Ext W w') := by
        intro W hW
        have h5 : ∀ j (hj : j < xs.length), W.cell? ⟨b, off + j, none⟩ = some (.int .u8 xs[j]) := fun j hj => by
          rw [hW.cell (p := ⟨b, off + j, none⟩) (World.block_lt_of_cell? _ _ (hc j hj))]
          exact hc j hj
        have hrw := px_rowc (cap := cap - k * siz f) h5 hfit (by omega) (by omega) (by have := hcap.2; omega)
        have h6 := refUnpack_any f (some ⟨b, off + k * siz f, none⟩) (cap - k * siz f) (px f xs k) W h1 h7 hrw (px_byt hB) (px_length f xs k hfit)
        rw [px_length f xs k hfit, unhide HC] at h6
        exact h6
      obtain ⟨p0, p1, p2, p3⟩ := (Blk.at (w := wr) (cs := #[.int .i32 (c 0), .int .i32 (c 1), .int .i32 (c 2), .int .i32 (c 3)]) (t := 35) rfl).vec4
      have l0 := cell_later p0
      have l1 := cell_later p1
      have l2 := cell_later p2
      have l3 := cell_later p3
      clear p0 p1 p2 p3 hc hfit hk1 hcap hx0
      have hne := Later.some (wr.alloc (.cells #[.int .i32 (c 0), .int .i32 (c 1), .int .i32 (c 2), .int .i32 (c 3)] 35))
      go_wp2
      refine wp_region_later (by kernel_rfl) (by kernel_rfl) ?_
      repeat (go_big_quiet_step (first | (go_at_call 20; refine calls_later (unhide HU _ (Later.ext _)))))
      refine wpQuiet_nil ?_
      rintro _ ⟨x, rfl⟩
      go_wp2
      go_roundw
      case rel => exact ⟨k + 1, by omega, by go_num, ((unhide X).alloc _).trans x.ext⟩
      case measure => simp [intOf]; omega
    · have D5n := hide (And.intro ((unhide D5).1.ext (unhide X)) ((unhide D5).2.trans (unhide X)))
      clear D5 X X5a RV
      have D5 := D5n
      clear D5n
      obtain ⟨w9, h9⟩ : ∃ w9, w9 = wr := ⟨wr, rfl⟩
      subst h9
      go_wp2
      go_loopw [120] (fun iv wr => ∃ k : Nat, k ≤ cs.length ∧ iv = .int .i64 k ∧ Ext w9 wr) (fun iv _ => cs.length - (intOf iv).toNat)
      case atStart => exact ⟨0, Nat.zero_le _, rfl, Ext.refl _⟩
      case round =>
        obtain ⟨k, hk, rfl, hx⟩ := hrel
        have X := hide hx
        clear hx
        by_cases hlt : k < cs.length
        · obtain ⟨b, off, rfl, hc⟩ := ((unhide HV).ext ((unhide D5).2.trans (unhide X))).at k hlt
          obtain ⟨c, HC⟩ : ∃ c, Hid (cs.getD k nul = c) := ⟨_, rfl⟩
          have d0 : wr.cell? ⟨b, off + k * 4, none⟩ = some (.int .i32 (c 0)) := by rw [← unhide HC]; exact hc k 0 hlt (by omega)
          have d1 : wr.cell? ⟨b, off + k * 4 + 1, none⟩ = some (.int .i32 (c 1)) := by rw [← unhide HC]; exact hc k 1 hlt (by omega)
          have d2 : wr.cell? ⟨b, off + k * 4 + 2, none⟩ = some (.int .i32 (c 2)) := by rw [← unhide HC]; exact hc k 2 hlt (by omega)
          have d3 : wr.cell? ⟨b, off + k * 4 + 3, none⟩ = some (.int .i32 (c 3)) := by rw [← unhide HC]; exact hc k 3 hlt (by omega)
          clear hc
          have HIc : Hid (∀ i, I32 (c i)) := by
            rw [← unhide HC]
            refine unhide HI _ ?_
            simp [hlt]
          have hfit : (k + 1) * siz f ≤ cs.length * siz f := Nat.mul_le_mul_right _ (by omega)
          have hfitI : (k : Int) * (siz f : Int) + (siz f : Int) ≤ (cs.length : Int) * (siz f : Int) := by
            rw [Nat.succ_mul] at hfit
            have := Int.ofNat_le.2 hfit
            push_cast at this
            exact this
          have hk0 : 0 ≤ (k : Int) * (siz f : Int) := Int.mul_nonneg (by omega) (by omega)
          have hltI : (k : Int) < (cs.length : Int) := by omega
          have hLl := layL_length f cs
          obtain ⟨b5, off5, e5, hc5⟩ := ((unhide D5).1.ext ((unhide X).alloc (.cells #[.int .i32 (c 0), .int .i32 (c 1), .int .i32 (c 2), .int .i32 (c 3)] 35))).at 0 (by rw [hLl]; rw [Nat.succ_mul] at hfit; omega)
          subst e5
          have hcap : cs.length * siz f ≤ cap5 ∧ cap5 ≤ maxLen := by
            obtain ⟨_, _, e, _, a, b⟩ := (unhide D5).1.shape
            injection e with e1 e2 e3
            subst e3
            rw [hLl] at a
            exact ⟨a, b⟩
          have hcapI : (cs.length : Int) * (siz f : Int) ≤ (cap5 : Int) := by
            have := Int.ofNat_le.2 hcap.1
            push_cast at this
            exact this
          have HC5 := hide hc5
          have HH := hide (Blk.at (w := wr) (cs := #[.int .i32 (c 0), .int .i32 (c 1), .int .i32 (c 2), .int .i32 (c 3)]) (t := 35) rfl)
          clear hc5 hLl
          have hvc : ∀ w', Blk w' wr.heap.size #[.int .i32 (c 0), .int .i32 (c 1), .int .i32 (c 2), .int .i32 (c 3)] 35 → _ := fun w' h => h.vec4
          have t1 : ((k : Int) * (siz f : Int)).toNat = k * siz f := by rw [← Int.natCast_mul]; rfl
          have t2 : ((k : Int) * (siz f : Int) + (siz f : Int)).toNat = k * siz f + siz f := by rw [← Int.natCast_mul, ← Int.natCast_add]; rfl
          have g1 : 0 ≤ (k : Int) * (siz f : Int) + (siz f : Int) := by omega
          have g2 : (k : Int) * (siz f : Int) ≤ (k : Int) * (siz f : Int) + (siz f : Int) := by omega
          have g3 : (k : Int) * (siz f : Int) + (siz f : Int) ≤ (cap5 : Int) := by omega
          have hk1 : k * siz f + siz f ≤ cap5 := by rw [Nat.succ_mul] at hfit; omega
          have g4 : ¬ cap5 = k * siz f := by omega
          have g5 : (k : Int) * (siz f : Int) ≤ 8000 := by omega
          have g6 : (k : Int) * (siz f : Int) + (siz f : Int) ≤ 8000 := by omega
          have q1 := wrapi hk0 (show (k : Int) * (siz f : Int) ≤ 100000 by omega)
          have q2 := wrapi g1 (show (k : Int) * (siz f : Int) + (siz f : Int) ≤ 100000 by omega)
          have HPX : Hid (∀ W, Ext (wr.alloc (.cells #[.int .i32 (c 0), .int .i32 (c 1), .int .i32 (c 2), .int .i32 (c 3)] 35)) W → Row .u8 W (.slice (some ⟨b5, off5 + k * siz f, none⟩) (siz f) (cap5 - k * siz f)) (pk f c)) := by
            intro W hW
            have hfit2 : (k + 1) * siz f ≤ (layL f cs).length := by rw [layL_length]; exact hfit
            have h5 : ∀ j (hj : j < (layL f cs).length), W.cell? ⟨b5, off5 + j, none⟩ = some (.int .u8 (layL f cs)[j]) := fun j hj => by
              rw [hW.cell (p := ⟨b5, off5 + j, none⟩) (World.block_lt_of_cell? _ _ (unhide HC5 j hj))]
              exact unhide HC5 j hj
            have hrw := px_rowc (cap := cap5 - k * siz f) h5 hfit2 (by omega) (by omega) (by have := hcap.2; omega)
            rw [px_length f _ k hfit2, px_lay f cs k hlt, unhide HC] at hrw
            exact hrw
          have hpl : (pk f c).length ≤ 140737488355328 := by rw [pk_length]; omega
          clear hfit hk1 HC5 hcap hcapI
          go_wp2
          go_region_held3 (fun w' => Blk w' wr.heap.size #[.int .i32 (c 0), .int .i32 (c 1), .int .i32 (c 2), .int .i32 (c 3)] 35) (first | with_reducible exact bx | exact unhide HH)
            (first | (go_at_call 18; refine (refPack_any f c _ h1 h7 (unhide HIc)).mono ?_; rintro e w7 ⟨ao7, cap7, rfl, hr7, hx7⟩; have bx : Blk w7 wr.heap.size #[.int .i32 (c 0), .int .i32 (c 1), .int .i32 (c 2), .int .i32 (c 3)] 35 := Blk.ext (by with_reducible assumption) hx7; have Y7 : Hid (Row .u8 w7 (.slice ao7 (siz f) cap7) (pk f c) ∧ Ext (wr.alloc (.cells #[.int .i32 (c 0), .int .i32 (c 1), .int .i32 (c 2), .int .i32 (c 3)] 35)) w7) := ⟨hr7, (Ext.refl _).drew.trans hx7⟩; clear hr7 hx7)
                   | (go_at_call 17; refine (same_any _ _ (pk f c) (pk f c) _ (unhide HPX _ (unhide Y7).2) (unhide Y7).1 hpl).mono ?_; rintro e w8 ⟨rfl, n8, rfl⟩; rw [decide_eq_true rfl]; have bx : Blk (w7.drewN n8) wr.heap.size #[.int .i32 (c 0), .int .i32 (c 1), .int .i32 (c 2), .int .i32 (c 3)] 35 := Blk.drewN (by with_reducible assumption) n8))
          go_wp2
          go_roundw
          case rel => exact ⟨k + 1, by omega, by go_num, ((((unhide X).alloc _).trans (unhide Y7).2)).drewN _⟩
          case measure => simp [intOf]; omega
        · go_wp2
          go_ret
          exact ⟨rfl, (unhide D5).2.trans (unhide X)⟩

theorem prows_owes (H : Type) (enc : TypeId × Value → H) (W : World) (base : Nat) (args : Array Value) (ds : List (DataW H)) (p : List MemPlace) : Owes H enc Try.prog 6 Try.f6 Rows.pixelRowsSpec W base args ds p := by
  intro hval hA hsz
  rw [Try.params6] at hA hval hsz
  obtain ⟨v0, vs0, d0, ds0, p0, q0, hargs, rfl, rfl, h0, r0⟩ := trodAll_cons hA
  obtain ⟨v1, vs1, d1, ds1, p1, q1, rfl, rfl, rfl, h1, r1⟩ := trodAll_cons r0
  obtain ⟨v2, vs2, d2, ds2, p2, q2, rfl, rfl, rfl, h2, r2⟩ := trodAll_cons r1
  obtain ⟨rfl, rfl, rfl⟩ := trodAll_nil r2
  obtain rfl : args = #[v0, v1, v2] := by cases args; simp_all
  obtain ⟨f, rfl, rfl, rfl, wf⟩ := open_int Try.underlying3 (hval 0 3 v0 rfl rfl) h0
  obtain ⟨xs, hrow, hwf, hlen⟩ := open_row (j := 1) Try.underlying36 Try.underlying5 (by kernel_rfl) (hval 1 36 v1 rfl rfl) h1 hsz rfl rfl
  obtain ⟨cs, hvr, hI, hnone⟩ := open_vrow (hval 2 47 v2 rfl rfl) h2
  have hB : Byt xs := fun x hx => bounds_u8 (hwf x hx)
  obtain ⟨ao, cap, rfl, _⟩ := hrow.shape
  obtain ⟨al, cal, rfl⟩ := hvr.shape
  refine ⟨⟨rfl, rfl, rfl⟩, ?_⟩
  by_cases hl : 5000 < xs.length ∨ 2000 < cs.length
  · exact rows_long f ao al xs.length cs.length cap cal W hl
  · by_cases hf : f < 1 ∨ 7 < f
    · exact rows_bad f ao al cap cal xs cs W hf hrow hvr hnone (by omega) (by omega)
    · obtain ⟨n, rfl⟩ := Int.eq_ofNat_of_zero_le (show 0 ≤ f by omega)
      by_cases hs : xs.length % siz n = 0
      · exact rows_walk n ao al cap cal xs cs W (by omega) (by omega) hrow hvr hnone (by omega) (by omega) hB hI hs
      · exact rows_off n ao al cap cal xs cs W (by omega) (by omega) hrow hvr hnone (by omega) (by omega) hI hs

set_option maxRecDepth 100000 in
theorem prows_lifted (os : Os) (started : os.Started) (H : Type) (enc : TypeId × Value → H) :
    ReturnsInHanded {} Try.checked os 6 .any (Rows.pixelRowsSpec.pre6 enc Try.prog Try.f6 [] false) (Rows.pixelRowsSpec.post enc Try.prog Try.f6 false true false false) :=
  lift_law (C := Try.checked) own laidOut started (by kernel_rfl) Try.func6 (T := 4) rfl Try.underlying4 rfl (by kernel_rfl)
    (ChangeSpec.witness6 (enc := enc) (C := Try.checked) false ⟨#[], #[.int .i64 0, .slice none 0 0, .slice none 0 0], []⟩ 8 (by kernel_rfl) (by kernel_rfl) (by kernel_rfl) (by kernel_rfl)) (prows_owes H enc)

theorem pixelRows_holds : Rows.PixelRowsSaid :=
  OpenClaim.holds_of_wide 6 Try.f6 rfl rfl rfl rfl rfl rfl rfl ⟨rfl, rfl, rfl, rfl, rfl⟩ rfl rfl rfl rfl rfl (by kernel_rfl) Try.func6 (by kernel_rfl)
    (of_decide_eq_true (by kernel_rfl)) (by unfold Func.isWrapper; rw [if_neg (of_decide_eq_false (by kernel_rfl))]; exact ⟨rfl, rfl⟩)
    (fun os started H enc _ => prows_lifted os started H enc)
#print axioms pixelRows_holds
end Go.Proofs.Ytijkkhnhejadgaa
