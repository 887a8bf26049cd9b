/-
  Images: the walk of next: a level's mean, pixel by pixel.
-/
import Derived.Test.YtpjapdifmfpcnaaJNa
namespace Go.Proofs.Ytpjapdifmfpcnaa
open Go.RowKit Go.Shelf
set_option linter.unusedVariables false
set_option linter.unusedSimpArgs false
attribute [local go_sem] Oper.semAt_some

set_option maxRecDepth 100000 in
set_option maxHeartbeats 16000000 in
theorem next_any (W H s : Nat) (f : Int) (bs : List Int) (bo : Option Addr) (bcap : Nat) (w : World) (hr : Row .u8 w (.slice bo bs.length bcap) bs) (hb : Byt bs) (hW1 : 1 ≤ W) (hW : W ≤ 64) (hH1 : 1 ≤ H) (hH : H ≤ 64) (hs : sizI f = (s : Int)) (hs0 : s ≠ 0) (hlen : bs.length = W * H * s) :
    Calls Try.prog 56 #[.agg #[.int .i64 (W : Int), .int .i64 (H : Int), .slice bo bs.length bcap], .int .i64 f] w fun e w' => ∃ g, e = .returned (.agg #[.int .i64 (hN W : Nat), .int .i64 (hN H : Nat), .slice (some ⟨g, 0, none⟩) (hN W * hN H * s) (hN W * hN H * s)]) ∧
      Own .u8 w' w.heap.size 5 (.slice (some ⟨g, 0, none⟩) (hN W * hN H * s) (hN W * hN H * s)) (nb (chs8 f) s W H bs (hN W * hN H)) ∧ Ext w w' := by
  obtain ⟨ks1, ks2, ks3, hs4⟩ := chs_sum hs hs0
  obtain ⟨_, _, eb, _, hbc, hbm⟩ := hr.shape
  cases eb
  have hpos : 0 < bs.length := by
    rw [hlen]
    exact Nat.mul_pos (Nat.mul_pos hW1 hH1) (by omega)
  obtain ⟨b0, off0, hbo, _⟩ := hr.at 0 hpos
  have HBO := hide hbo
  clear hbo hpos
  have hbm2 : bcap ≤ 9223372036854775807 := by unfold maxLen at hbm; omega
  have HSZ : Hid (∀ wx, Calls Try.prog 25 #[.int .i64 f] wx fun e w' => e = .returned (.int .i64 (s : Int)) ∧ Ext wx w') := fun wx => by rw [← hs]; exact size_any f wx
  have HKS := hide (And.intro ks1 (And.intro ks2 ks3))
  have HR := hide hr
  have HB := hide hb
  have HLEN := hide hlen
  have hX1 := ((Ext.refl w).alloc (.cells #[.int .i64 (W : Int), .int .i64 (H : Int), .slice bo bs.length bcap] 48)).alloc (.cells #[.int .i64 0, .int .i64 0, .slice none 0 0] 48)
  have hB1 := (Blk.new w #[.int .i64 (W : Int), .int .i64 (H : Int), .slice bo bs.length bcap] 48).alloc (.cells #[.int .i64 0, .int .i64 0, .slice none 0 0] 48)
  have hR1 : Blk ((w.alloc (.cells #[.int .i64 (W : Int), .int .i64 (H : Int), .slice bo bs.length bcap] 48)).alloc (.cells #[.int .i64 0, .int .i64 0, .slice none 0 0] 48)) (w.heap.size + 1) #[.int .i64 0, .int .i64 0, .slice none 0 0] 48 := Blk.at (by simp)
  have H1 := hide (And.intro hX1 (And.intro hB1 hR1))
  clear hr hb hX1 hB1 hR1 hs hbm ks1 ks2 ks3 hlen
  refine (callsIn_wide (n := 9)).1 ?_
  refine callsIn_of_wp_marks Try.func56 rfl trivial ?_ rfl
  simp only [Try.ntmps56, List.size_toArray, List.length_cons, List.length_nil, Nat.reduceAdd, Nat.reduceSub, Array.replicate_succ, Array.replicate_zero, List.push_toArray, List.append_toArray, List.nil_append, List.cons_append]
  refine wpIn_wide.2 ?_
  go_wp2_with fail
  refine (unhide HSZ _).mono ?_
  rintro e w2 ⟨rfl, hx2⟩
  have H2 := hide (And.intro ((unhide H1).1.trans hx2) (And.intro ((unhide H1).2.1.ext hx2) ((unhide H1).2.2.ext hx2)))
  clear H1 hx2
  go_wp2_with fail
  refine (widths_any f _).mono ?_
  rintro e w3 ⟨kb, rfl, hk3, hx3⟩
  have hS3 := Blk.new w3 #[.int .i64 (s : Int)] 3
  have H3 := hide (And.intro (((unhide H2).1.trans hx3).alloc (.cells #[.int .i64 (s : Int)] 3)) (And.intro (((unhide H2).2.1.ext hx3).alloc (.cells #[.int .i64 (s : Int)] 3)) (And.intro (((unhide H2).2.2.ext hx3).alloc (.cells #[.int .i64 (s : Int)] 3)) (And.intro hS3 (hk3.ext ((Ext.refl w3).alloc (.cells #[.int .i64 (s : Int)] 3)))))))
  clear H2 hx3 hk3 hS3
  go_wp2_with fail
  generalize hBs : w3.heap.size = Bs at H3 ⊢
  generalize w3.alloc (.cells #[.int .i64 (s : Int)] 3) = w4 at H3 ⊢
  obtain ⟨l0, l1, l2⟩ := (unhide H3).2.1.three
  have sB := (unhide H3).2.2.2.1.cell (i := 0) rfl
  clear hBs
  have HCL : Hid (∀ wx, Ext w4 wx → wx.cell? ⟨w.heap.size, 0, none⟩ = some (.int .i64 (W : Int)) ∧ wx.cell? ⟨w.heap.size, 1, none⟩ = some (.int .i64 (H : Int)) ∧ wx.cell? ⟨Bs, 0, none⟩ = some (.int .i64 (s : Int))) := fun wx hx =>
    ⟨((unhide H3).2.1.ext hx).three.1, ((unhide H3).2.1.ext hx).three.2.1, ((unhide H3).2.2.2.1.ext hx).cell (i := 0) rfl⟩
  have hhW : hN W ≤ 64 := by unfold hN; omega
  have hhH : hN H ≤ 64 := by unfold hN; omega
  have HW2 : Hid (∀ wx, Calls Try.prog 59 #[.int .i64 (W : Int)] wx fun e w' => e = .returned (.int .i64 ((hN W : Nat) : Int)) ∧ w' = wx) := fun wx => by rw [hN_half]; exact half_any _ _ (by omega) (by omega)
  have HH2 : Hid (∀ wx, Calls Try.prog 59 #[.int .i64 (H : Int)] wx fun e w' => e = .returned (.int .i64 ((hN H : Nat) : Int)) ∧ w' = wx) := fun wx => by rw [hN_half]; exact half_any _ _ (by omega) (by omega)
  go_cut [7] from 8 to 73 (fun p wc => ∃ r g, p = .pointer (some ⟨r, 0, none⟩) ∧ Blk wc r #[.int .i64 ((hN W : Nat) : Int), .int .i64 ((hN H : Nat) : Int), .slice (some ⟨g, 0, none⟩) (hN W * hN H * s) (hN W * hN H * s)] 48 ∧ Own .u8 wc w4.heap.size 5 (.slice (some ⟨g, 0, none⟩) (hN W * hN H * s) (hN W * hN H * s)) (List.replicate (hN W * hN H * s) 0) ∧ w4.heap.size ≤ r ∧ Ext w4 wc)
  case first =>
    go_region_held3 (fun w' => w'.cell? ⟨w.heap.size, 0, none⟩ = some (.int .i64 (W : Int)) ∧ w'.cell? ⟨w.heap.size, 1, none⟩ = some (.int .i64 (H : Int)) ∧ w'.cell? ⟨Bs, 0, none⟩ = some (.int .i64 (s : Int)))
      (first | with_reducible exact unhide HCL _ bx | with_reducible exact unhide HCL _ (bx.alloc _) | with_reducible exact unhide HCL _ (ext_0 w4) | with_reducible exact unhide HCL _ (ext_1 w4 _) | with_reducible exact unhide HCL _ (ext_set3 bx (by omega)))
      (first
        | (go_at_call_of 59 (Value.int IntKind.i64 (W : Int)); refine (unhide HW2 _).mono ?_; rintro e ws ⟨rfl, rfl⟩)
        | (go_at_call_of 59 (Value.int IntKind.i64 (H : Int)); refine (unhide HH2 _).mono ?_; rintro e ws ⟨rfl, rfl⟩)
        | (go_at_call 46; refine (blank_any (hN W) (hN H) s hhW hhH hs4 _).mono ?_; rintro e wb ⟨g, rfl, hob, hxb⟩; have bx : Ext w4 wb := (by first | with_reducible exact (ext_0 w4).trans hxb | exact (ext_1 w4 _).trans hxb); have szb := bx.size; have hob2 := hide (hob.lower (b2 := w4.heap.size) (by first | exact Nat.le_refl _ | simp)); clear hob; (first | (have RB := hide (blk_1 _ _ _ hxb); obtain ⟨r0, r1, r2⟩ := (unhide RB).three; obtain ⟨z0, z1, z2, _⟩ := (unhide RB).frees) | skip)))
    all_goals go_wp2
    all_goals go_meet
    all_goals
      refine ⟨_, g, rfl, ?gb, ?go, ?gl, ?gx⟩
      case gb => first | (with_reducible exact Blk.new _ _ _) | (with_reducible exact (unhide RB).put3 _ _ _)
      case go => first | (with_reducible exact (unhide hob2).alloc _) | (with_reducible exact (unhide hob2).grown (grown_set3 _ _ _ _ _) (own_neB (unhide RB) (unhide hob2)))
      case gl => omega
      case gx => first | (with_reducible exact bx.alloc _) | (with_reducible exact ext_set3 bx (by omega))
  case rest =>
  obtain ⟨Bm, g, rfl, hPB, hPO, hrl, hx6⟩ := hcut
  rename_i wc
  have hm1 := hPB.three.2.1
  have HM0 : Hid (∀ (wr : World) (ds : List Nat) (xs : List Int), NxI w4 wr Bm #[.int .i64 ((hN W : Nat) : Int), .int .i64 ((hN H : Nat) : Int), .slice (some ⟨g, 0, none⟩) (hN W * hN H * s) (hN W * hN H * s)] g (hN W * hN H * s) ds xs → True) := fun _ _ _ _ => trivial
  have hN0 : NxI w4 wc Bm #[.int .i64 ((hN W : Nat) : Int), .int .i64 ((hN H : Nat) : Int), .slice (some ⟨g, 0, none⟩) (hN W * hN H * s) (hN W * hN H * s)] g (hN W * hN H * s) [] (nb (chs8 f) s W H bs 0 ++ List.replicate ((hN W * hN H - 0) * s) 0) := ⟨hx6, hPB, by simpa [nb] using hPO, List.nodup_nil, fun D hD => by cases hD⟩
  have HN0 := hide hN0
  clear hN0 hPB hPO hx6 HM0 l0 l1 l2 sB HCL HW2 HH2
  go_wp2_with fail
  clear hm1
  refine wp_loop (fun a' wr => ∃ (ds : List Nat) (j : Nat), a'.defers = mks ds ∧ a'.tmps = #[.agg #[.int .i64 (W : Int), .int .i64 (H : Int), .slice bo bs.length bcap], .int .i64 f, .pointer (some ⟨w.heap.size, 0, none⟩), undef, .pointer (some ⟨w.heap.size + 1, 0, none⟩), .pointer (some ⟨Bs, 0, none⟩), .slice (some ⟨kb, 0, none⟩) (chs8 f).length (chs8 f).length, .pointer (some ⟨Bm, 0, none⟩), (a'.tmps.getD 8 undef), (a'.tmps.getD 9 undef), (a'.tmps.getD 10 undef), (a'.tmps.getD 11 undef), (a'.tmps.getD 12 undef), (a'.tmps.getD 13 undef), (a'.tmps.getD 14 undef), (a'.tmps.getD 15 undef), (a'.tmps.getD 16 undef), (a'.tmps.getD 17 undef), (a'.tmps.getD 18 undef), (a'.tmps.getD 19 undef), (a'.tmps.getD 20 undef), (a'.tmps.getD 21 undef), (a'.tmps.getD 22 undef), (a'.tmps.getD 23 undef), (a'.tmps.getD 24 undef), .int .i64 ((hN H : Nat) : Int), .int .i64 (j : Int), (a'.tmps.getD 27 undef), (a'.tmps.getD 28 undef), (a'.tmps.getD 29 undef), (a'.tmps.getD 30 undef), (a'.tmps.getD 31 undef), (a'.tmps.getD 32 undef), (a'.tmps.getD 33 undef), (a'.tmps.getD 34 undef), (a'.tmps.getD 35 undef), (a'.tmps.getD 36 undef), (a'.tmps.getD 37 undef), (a'.tmps.getD 38 undef), (a'.tmps.getD 39 undef), (a'.tmps.getD 40 undef), (a'.tmps.getD 41 undef), (a'.tmps.getD 42 undef), (a'.tmps.getD 43 undef), (a'.tmps.getD 44 undef), (a'.tmps.getD 45 undef), (a'.tmps.getD 46 undef), (a'.tmps.getD 47 undef), (a'.tmps.getD 48 undef), (a'.tmps.getD 49 undef), (a'.tmps.getD 50 undef), (a'.tmps.getD 51 undef), (a'.tmps.getD 52 undef), (a'.tmps.getD 53 undef), (a'.tmps.getD 54 undef), (a'.tmps.getD 55 undef), (a'.tmps.getD 56 undef), (a'.tmps.getD 57 undef), (a'.tmps.getD 58 undef), (a'.tmps.getD 59 undef), (a'.tmps.getD 60 undef), (a'.tmps.getD 61 undef), (a'.tmps.getD 62 undef), (a'.tmps.getD 63 undef), (a'.tmps.getD 64 undef), (a'.tmps.getD 65 undef), (a'.tmps.getD 66 undef), (a'.tmps.getD 67 undef), (a'.tmps.getD 68 undef), (a'.tmps.getD 69 undef), (a'.tmps.getD 70 undef), (a'.tmps.getD 71 undef), (a'.tmps.getD 72 undef), (a'.tmps.getD 73 undef)] ∧ j ≤ hN H ∧ NxI w4 wr Bm #[.int .i64 ((hN W : Nat) : Int), .int .i64 ((hN H : Nat) : Int), .slice (some ⟨g, 0, none⟩) (hN W * hN H * s) (hN W * hN H * s)] g (hN W * hN H * s) ds (nb (chs8 f) s W H bs (j * hN W) ++ List.replicate ((hN W * hN H - j * hN W) * s) 0))
    (fun a' _ => hN H - (intOf (a'.tmps.getD 26 undef)).toNat) ?start ?round
  case start =>
    exact ⟨[], 0, rfl, rfl, Nat.zero_le _, by simpa using unhide HN0⟩
  case round =>
    clear HN0
    rintro ⟨tm, df⟩ wr ⟨ds, j, hdf, htm, hj, hI⟩
    obtain rfl : df = mks ds := hdf
    obtain ⟨u, hu⟩ : ∃ u : Nat → Value, ∀ k, u k = tm.getD k undef := ⟨fun k => tm.getD k undef, fun _ => rfl⟩
    simp only [← hu] at htm
    clear hu
    subst htm
    have hm := hI.sml.three
    obtain ⟨sm0, sm1, sm2⟩ := hm
    have HI := hide hI
    clear hI
    by_cases hlt : j < hN H
    · have hlt2 : (j : Int) < ((hN H : Nat) : Int) := by omega
      go_wp2_with fail
      refine wp_loop (fun a' wr => ∃ (ds : List Nat) (i : Nat), a'.defers = mks ds ∧ a'.tmps = #[.agg #[.int .i64 (W : Int), .int .i64 (H : Int), .slice bo bs.length bcap], .int .i64 f, .pointer (some ⟨w.heap.size, 0, none⟩), undef, .pointer (some ⟨w.heap.size + 1, 0, none⟩), .pointer (some ⟨Bs, 0, none⟩), .slice (some ⟨kb, 0, none⟩) (chs8 f).length (chs8 f).length, .pointer (some ⟨Bm, 0, none⟩), .int .i64 (j : Int), (a'.tmps.getD 9 undef), (a'.tmps.getD 10 undef), (a'.tmps.getD 11 undef), (a'.tmps.getD 12 undef), (a'.tmps.getD 13 undef), (a'.tmps.getD 14 undef), (a'.tmps.getD 15 undef), (a'.tmps.getD 16 undef), (a'.tmps.getD 17 undef), (a'.tmps.getD 18 undef), (a'.tmps.getD 19 undef), (a'.tmps.getD 20 undef), (a'.tmps.getD 21 undef), (a'.tmps.getD 22 undef), (a'.tmps.getD 23 undef), (a'.tmps.getD 24 undef), .int .i64 ((hN H : Nat) : Int), .int .i64 (j : Int), (a'.tmps.getD 27 undef), (a'.tmps.getD 28 undef), (a'.tmps.getD 29 undef), .int .i64 ((hN W : Nat) : Int), .int .i64 (i : Int), (a'.tmps.getD 32 undef), (a'.tmps.getD 33 undef), (a'.tmps.getD 34 undef), (a'.tmps.getD 35 undef), (a'.tmps.getD 36 undef), (a'.tmps.getD 37 undef), (a'.tmps.getD 38 undef), (a'.tmps.getD 39 undef), (a'.tmps.getD 40 undef), (a'.tmps.getD 41 undef), (a'.tmps.getD 42 undef), (a'.tmps.getD 43 undef), (a'.tmps.getD 44 undef), (a'.tmps.getD 45 undef), (a'.tmps.getD 46 undef), (a'.tmps.getD 47 undef), (a'.tmps.getD 48 undef), (a'.tmps.getD 49 undef), (a'.tmps.getD 50 undef), (a'.tmps.getD 51 undef), (a'.tmps.getD 52 undef), (a'.tmps.getD 53 undef), (a'.tmps.getD 54 undef), (a'.tmps.getD 55 undef), (a'.tmps.getD 56 undef), (a'.tmps.getD 57 undef), (a'.tmps.getD 58 undef), (a'.tmps.getD 59 undef), (a'.tmps.getD 60 undef), (a'.tmps.getD 61 undef), (a'.tmps.getD 62 undef), (a'.tmps.getD 63 undef), (a'.tmps.getD 64 undef), (a'.tmps.getD 65 undef), (a'.tmps.getD 66 undef), (a'.tmps.getD 67 undef), (a'.tmps.getD 68 undef), (a'.tmps.getD 69 undef), (a'.tmps.getD 70 undef), (a'.tmps.getD 71 undef), (a'.tmps.getD 72 undef), (a'.tmps.getD 73 undef)] ∧ i ≤ hN W ∧ NxI w4 wr Bm #[.int .i64 ((hN W : Nat) : Int), .int .i64 ((hN H : Nat) : Int), .slice (some ⟨g, 0, none⟩) (hN W * hN H * s) (hN W * hN H * s)] g (hN W * hN H * s) ds (nb (chs8 f) s W H bs (j * hN W + i) ++ List.replicate ((hN W * hN H - (j * hN W + i)) * s) 0))
        (fun a' _ => hN W - (intOf (a'.tmps.getD 31 undef)).toNat) ?start2 ?round2
      case start2 =>
        exact ⟨ds, 0, rfl, rfl, Nat.zero_le _, by simpa using unhide HI⟩
      case round2 =>
        clear HI sm0 sm1 sm2
        rintro ⟨tm, df⟩ wr ⟨ds, i, hdf, htm, hi, hI⟩
        obtain rfl : df = mks ds := hdf
        obtain ⟨u, hu⟩ : ∃ u : Nat → Value, ∀ k, u k = tm.getD k undef := ⟨fun k => tm.getD k undef, fun _ => rfl⟩
        simp only [← hu] at htm
        clear hu
        subst htm
        obtain ⟨sm0, sm1, sm2⟩ := hI.sml.three
        obtain ⟨l0, l1, l2⟩ := (((unhide H3).2.1.ext hI.ext).alloc (.cells #[.slice none 0 0] 87)).three
        have HI := hide hI
        clear hI
        by_cases hlt3 : i < hN W
        · have hlt4 : (i : Int) < ((hN W : Nat) : Int) := by omega
          have hi64 : (i : Int) ≤ 64 := by omega
          have hj64 : (j : Int) ≤ 64 := by omega
          rcases (by omega : (W : Int) < 2 ∨ (2 : Int) ≤ (W : Int)) with hw2 | hw2
          · rcases (by omega : (H : Int) < 2 ∨ (2 : Int) ≤ (H : Int)) with hh2 | hh2
            ·
              go_wp2_with (first | (go_at_call 27; refine (places_any (W : Int) (H : Int) (2 * (i : Int)) (2 * (j : Int)) (W : Int) (H : Int) bo bs.length bcap _).mono ?_; rintro e wp ⟨rfl, rfl⟩))
              clear sm0 sm1 sm2 l0 l1 l2
              have hG0 : Blk (((wr.alloc (.cells #[.slice none 0 0] 87)).alloc (.cells #[.int .i64 (W : Int), .int .i64 (H : Int), .slice bo bs.length bcap] 48)).alloc (.cells #[.int .i64 (2 * (i : Int)), .int .i64 (2 * (j : Int)), .int .i64 (W : Int), .int .i64 (H : Int)] 26)) wr.heap.size #[.slice none 0 0] 87 := ((Blk.new _ _ _).alloc _).alloc _
              have hL0 : Blk (((wr.alloc (.cells #[.slice none 0 0] 87)).alloc (.cells #[.int .i64 (W : Int), .int .i64 (H : Int), .slice bo bs.length bcap] 48)).alloc (.cells #[.int .i64 (2 * (i : Int)), .int .i64 (2 * (j : Int)), .int .i64 (W : Int), .int .i64 (H : Int)] 26)) (wr.heap.size + 1) #[.int .i64 (W : Int), .int .i64 (H : Int), .slice bo bs.length bcap] 48 := (Blk.at (by simp)).alloc _
              have hP0 : Blk (((wr.alloc (.cells #[.slice none 0 0] 87)).alloc (.cells #[.int .i64 (W : Int), .int .i64 (H : Int), .slice bo bs.length bcap] 48)).alloc (.cells #[.int .i64 (2 * (i : Int)), .int .i64 (2 * (j : Int)), .int .i64 (W : Int), .int .i64 (H : Int)] 26)) (wr.heap.size + 1 + 1) #[.int .i64 (2 * (i : Int)), .int .i64 (2 * (j : Int)), .int .i64 (W : Int), .int .i64 (H : Int)] 26 := Blk.at (by simp)
              have hX0 := (((Ext.refl wr).alloc (.cells #[.slice none 0 0] 87)).alloc (.cells #[.int .i64 (W : Int), .int .i64 (H : Int), .slice bo bs.length bcap] 48)).alloc (.cells #[.int .i64 (2 * (i : Int)), .int .i64 (2 * (j : Int)), .int .i64 (W : Int), .int .i64 (H : Int)] 26)
              generalize (((wr.alloc (.cells #[.slice none 0 0] 87)).alloc (.cells #[.int .i64 (W : Int), .int .i64 (H : Int), .slice bo bs.length bcap] 48)).alloc (.cells #[.int .i64 (2 * (i : Int)), .int .i64 (2 * (j : Int)), .int .i64 (W : Int), .int .i64 (H : Int)] 26)) = W0 at hG0 hL0 hP0 hX0 ⊢
              have eP : (#[.int .i64 (2 * (i : Int)), .int .i64 (2 * (j : Int)), .int .i64 (W : Int), .int .i64 (H : Int)] : Array Value) = #[.int .i64 ((2 * i : Nat) : Int), .int .i64 ((2 * j : Nat) : Int), .int .i64 ((min 2 W : Nat) : Int), .int .i64 ((min 2 H : Nat) : Int)] := by
                have e1 : ((2 * i : Nat) : Int) = 2 * (i : Int) := by omega
                have e2 : ((2 * j : Nat) : Int) = 2 * (j : Int) := by omega
                have e3 : ((min 2 W : Nat) : Int) = (W : Int) := by omega
                have e4 : ((min 2 H : Nat) : Int) = (H : Int) := by omega
                rw [e1, e2, e3, e4]
              rw [eP] at hP0
              clear eP
              have hN0 := (unhide HI).exts hX0
              have hDl := hN0.lt
              have hG1 := hG0.lt
              have hL1 := hL0.lt
              have hP1 := hP0.lt
              have h44 := hN0.ext.size
              have hwr4 := (unhide HI).ext.size
              have hxx : 2 * i + min 2 W ≤ W := by
                unfold hN at hlt3
                omega
              have hyy : 2 * j + min 2 H ≤ H := by
                unfold hN at hlt
                omega
              refine (wpIn_wide (n := 9)).1 ?_
              apply wpIn_rangeFunc_ownF (α := Plc (W * H)) rfl (by omega) (gf := 51) (lb := #[.pointer (some ⟨wr.heap.size + 1 + 1, 0, none⟩), .pointer (some ⟨wr.heap.size + 1, 0, none⟩)]) rfl trivial (enters_of Try.func51 (by kernel_rfl) rfl)
                (iter_stops (9 - 1) (by omega) W H (2 * i) (2 * j) (min 2 W) (min 2 H) hW hH hxx hyy _ (wr.heap.size + 1 + 1) (wr.heap.size + 1) W0 hP0 hL0) Kept.trans (fun W l o o' hl _ _ _ => kept_put (by omega) (by omega)) (Below.refl _ _) (fun _ => rfl)
                (fun pre W' => RgI w4 W' Bm #[.int .i64 ((hN W : Nat) : Int), .int .i64 ((hN H : Nat) : Int), .slice (some ⟨g, 0, none⟩) (hN W * hN H * s) (hN W * hN H * s)] g (hN W * hN H * s) ds (nb (chs8 f) s W H bs (j * hN W + i) ++ List.replicate ((hN W * hN H - (j * hN W + i)) * s) 0) wr.heap.size (gnum s bs pre) ∧ Blk W' (wr.heap.size + 1 + 1) #[.int .i64 ((2 * i : Nat) : Int), .int .i64 ((2 * j : Nat) : Int), .int .i64 ((min 2 W : Nat) : Int), .int .i64 ((min 2 H : Nat) : Int)] 26 ∧ Blk W' (wr.heap.size + 1) #[.int .i64 (W : Int), .int .i64 (H : Int), .slice bo bs.length bcap] 48)
                (fun _ _ _ => False)
                (fun pre A B' row hs hg hr => ⟨⟨hs.1.nx.kept hg (fun r e => hr r e) h44 hDl, by
                  obtain ⟨ao, cap, h1, h2⟩ := hs.1.grp
                  exact ⟨ao, cap, blk_kept h1 hg (fun r e => (hr r e).2), own_kept h2 hg (fun r e => (hr r e).2)⟩⟩, blk_kept hs.2.1 hg (fun r e => (hr r e).2), blk_kept hs.2.2 hg (fun r e => (hr r e).2)⟩)
                (fun _ _ _ _ _ hs _ _ => hs)
                ⟨⟨hN0, none, 0, hG0, Own.nil _ _ _ _⟩, hP0, hL0⟩
              case hassign =>
                intro l x Wq K hK
                have HK := hide hK
                clear hK
                gi_wp2
                exact unhide HK
              case hbody =>
                rintro l pre x Wq hR hlt5
                obtain ⟨⟨hNx, ao, cap, hBg, hGo⟩, hPi, hLi⟩ := hR
                rw [gnum_len] at hBg hGo
                have hq := x.2
                have hqs : (x.1 + 1) * s ≤ bs.length := by
                  rw [unhide HLEN]
                  exact Nat.mul_le_mul_right _ hq
                have hLev := (unhide H3).2.1.ext hNx.ext
                have hSz := (unhide H3).2.2.2.1.ext hNx.ext
                have hSrc := (unhide HR).ext ((unhide H3).1.trans hNx.ext)
                have HCell : Hid (∀ wx, Calls Try.prog 28 #[.slice bo bs.length bcap, .int .i64 (x.1 : Int), .int .i64 (s : Int)] wx fun e w' => e = .returned (.slice (some ⟨b0, off0 + x.1 * s, none⟩) s (bcap - x.1 * s)) ∧ w' = wx) := fun wx => by
                  rw [unhide HBO]
                  exact cell_any b0 off0 bs.length bcap x.1 s wx (by omega) hs4 hqs hbc hbm2
                have hcl := cellL_len (s := s) (q := x.1) (xs := bs) hqs
                have HNum : Hid (Calls Try.prog 63 #[.slice (some ⟨b0, off0 + x.1 * s, none⟩) s (bcap - x.1 * s)] Wq.drew fun e w' => e = .returned (.int .u32 (numOf (cellL s bs x.1))) ∧ w' = Wq.drew) := by
                  have hs2 := hSrc
                  rw [unhide HBO] at hs2
                  obtain ⟨b9, o9, e9, hp9⟩ := hs2.part (x.1 * s) s (by omega) (by rw [Nat.succ_mul] at hqs; exact hqs)
                  cases e9
                  have h9 := number_any (some ⟨b0, off0 + x.1 * s, none⟩) (bcap - x.1 * s) (cellL s bs x.1) Wq.drew (by rw [hcl]; exact hp9.ext (ext_0 Wq)) ((unhide HB).cut _ _) (by omega)
                  rw [hcl] at h9
                  exact h9
                obtain ⟨iu, hiu, zu0, zu1, zu2⟩ := info_parts infoU
                have hlt6 : pre.length < 4 := by
                  have h9 : min 2 W * min 2 H ≤ 2 * 2 := Nat.mul_le_mul (by omega) (by omega)
                  omega
                have hszq := hNx.ext.size
                obtain ⟨ao8, cap8, w8, hrun8, ho8, hg8⟩ := app_one (P := Try.prog) (t := 87) (ty := 87) Try.underlying87 hiu zu0 zu1 zu2 (w := Wq.drew) (hGo.kept (ext_0 Wq)) (numOf (cellL s bs x.1)) (by exact hszq) (by rw [gnum_len]; unfold maxLen; omega) (by rw [gnum_len]; omega)
                rw [gnum_len] at hrun8 ho8
                have hrun9 : (Builtin.append_ #[87, 87] 87 #[.slice ao pre.length cap, .slice (some ⟨Wq.heap.size, 0, none⟩) 1 1]).run Try.prog (Wq.drew.alloc (.cells #[.int .u32 (numOf (cellL s bs x.1))] 88)) = .ok (.slice ao8 (pre.length + 1) cap8) w8 := hrun8
                have HRUN := hide hrun9
                have hx7 : Ext Wq (Wq.drew.alloc (.cells #[.int .u32 (numOf (cellL s bs x.1))] 88)) := (ext_0 Wq).alloc _
                -- what append turns
                have hGo7 := hGo.kept hx7
                have hne8 : ∀ {b : Nat} {cs : Array Value} {t : TypeId}, Blk Wq b cs t → t ≠ 88 → Blk w8 b cs t := fun {b cs t} hB ht => blk_by2 (hB.ext hx7) hGo7 ht hg8
                have hBg8 := hne8 hBg (by decide)
                have cg := hBg.cell (i := 0) rfl
                have cg7 : (Wq.alloc (.cells #[.int .u32 (numOf (cellL s bs x.1))] 88)).drew.cell? ⟨wr.heap.size, 0, none⟩ = some (.slice ao pre.length cap) := (hBg.ext hx7).cell (i := 0) rfl
                have cg8 := hBg8.cell (i := 0) rfl
                have fg8 := hBg8.free 0
                have hg9 := grownBy_set w8 wr.heap.size 0 (.slice ao8 (pre.length + 1) cap8)
                have hS0 : Wq.drew.cell? ⟨w.heap.size, 2, none⟩ = some (.slice bo bs.length bcap) ∧ Wq.drew.cell? ⟨Bs, 0, none⟩ = some (.int .i64 (s : Int)) := ⟨hLev.three.2.2, hSz.cell (i := 0) rfl⟩
                have hS7 := hide (And.intro (hLev.ext hx7).three.2.2 ((hSz.ext hx7).cell (i := 0) rfl))
                have hLev8 := hne8 hLev (by decide)
                have hSz8 := hne8 hSz (by decide)
                have hS8 := hide (And.intro hLev8.three.2.2 (hSz8.cell (i := 0) rfl))
                have hwl := hLev.lt
                have hneL : w.heap.size ≠ wr.heap.size := by
                  have := (unhide H3).2.1.lt
                  omega
                have hneS : Bs ≠ wr.heap.size := by
                  have := (unhide H3).2.2.2.1.lt
                  omega
                have hS9 := hide (And.intro (hLev8.other (r := wr.heap.size) 0 (.slice ao8 (pre.length + 1) cap8) hneL).three.2.2 ((hSz8.other (r := wr.heap.size) 0 (.slice ao8 (pre.length + 1) cap8) hneS).cell (i := 0) rfl))
                have hwrG : wr.heap.size < Wq.heap.size := hBg.lt
                have hNx0 := (unhide HI)
                have hBm := hNx0.sml.lt
                have hgl := (hNx0.own.lt g rfl).2
                have HFIN : Hid (KeepsOthers Wq (w8.setCell ⟨wr.heap.size, 0, none⟩ (.slice ao8 (pre.length + 1) cap8)) ∧ Kept (wr.heap.size + 1 + 1) (wr.heap.size + 1) Wq (w8.setCell ⟨wr.heap.size, 0, none⟩ (.slice ao8 (pre.length + 1) cap8)) ∧ RgI w4 (w8.setCell ⟨wr.heap.size, 0, none⟩ (.slice ao8 (pre.length + 1) cap8)) Bm #[.int .i64 ((hN W : Nat) : Int), .int .i64 ((hN H : Nat) : Int), .slice (some ⟨g, 0, none⟩) (hN W * hN H * s) (hN W * hN H * s)] g (hN W * hN H * s) ds (nb (chs8 f) s W H bs (j * hN W + i) ++ List.replicate ((hN W * hN H - (j * hN W + i)) * s) 0) wr.heap.size (gnum s bs (pre ++ [x])) ∧ Blk (w8.setCell ⟨wr.heap.size, 0, none⟩ (.slice ao8 (pre.length + 1) cap8)) (wr.heap.size + 1 + 1) #[.int .i64 ((2 * i : Nat) : Int), .int .i64 ((2 * j : Nat) : Int), .int .i64 ((min 2 W : Nat) : Int), .int .i64 ((min 2 H : Nat) : Int)] 26 ∧ Blk (w8.setCell ⟨wr.heap.size, 0, none⟩ (.slice ao8 (pre.length + 1) cap8)) (wr.heap.size + 1) #[.int .i64 (W : Int), .int .i64 (H : Int), .slice bo bs.length bcap] 48) := by
                  have hk8 : KeepsOthers Wq w8 := (keeps_ext hx7).trans (keeps_own hGo7 hg8)
                  have hk9 : KeepsOthers Wq (w8.setCell ⟨wr.heap.size, 0, none⟩ (.slice ao8 (pre.length + 1) cap8)) := hk8.trans (KeepsOthers.setCell _ _ _)
                  have hPi9 := (hne8 hPi (by decide)).other (r := wr.heap.size) 0 (.slice ao8 (pre.length + 1) cap8) (by omega)
                  have hLi9 := (hne8 hLi (by decide)).other (r := wr.heap.size) 0 (.slice ao8 (pre.length + 1) cap8) (by omega)
                  refine ⟨hk9, ⟨(show _ from hPi9).trans (show _ from hPi).symm, (show _ from hLi9).trans (show _ from hLi).symm⟩, ⟨⟨?_, ?_, ?_, hNx.nod, fun D hD9 => ⟨(hNx.mrk D hD9).1, hk9.same D _ (hNx.mrk D hD9).2 rfl⟩⟩, ao8, cap8, ?_, ?_⟩, hPi9, hLi9⟩
                  · have h8 : Ext w4 w8 := (hNx.ext.trans hx7).grown hg8 (hNx.ext.trans hx7).size (fun r e => (hGo7.lt r e).1)
                    exact below_grown h8 hg9 h8.size (by omega)
                  · exact (hne8 hNx.sml (by decide)).other (r := wr.heap.size) 0 (.slice ao8 (pre.length + 1) cap8) (by omega)
                  · exact (own_by2 (hNx.own.kept hx7) hGo7 (by decide) hg8).grown hg9 (fun b hb e => by simp [Value.ownBlock] at hb; omega)
                  · rw [gnum_len, List.length_append]
                    have := hBg8.set 0 (.slice ao8 (pre.length + 1) cap8)
                    simpa using this
                  · rw [gnum_snoc, List.length_append, gnum_len]
                    exact ho8.grown hg9 (fun b hb => own_neT ho8 hBg8 (by decide) b hb)
                gi_wp2
                refine region_in (S := fun w' => w'.cell? ⟨w.heap.size, 2, none⟩ = some (.slice bo bs.length bcap) ∧ w'.cell? ⟨Bs, 0, none⟩ = some (.int .i64 (s : Int))) (by kernel_rfl) (by kernel_rfl) (by rintro ⟨_, _, h⟩; exact h) hS0 (fun hHeld => ?_)
                refine wpAnyH_take (i := 1) (v := .pointer (some ⟨w.heap.size, 2, none⟩)) rfl (by kernel_rfl) (by kernel_rfl) (by kernel_rfl) (fun _ _ _ h => h) (Or.inl ⟨by rfl, fun _ _ => rfl⟩) hHeld ?_
                refine wpAnyH_take (i := 2) (v := .slice bo bs.length bcap) rfl (by kernel_rfl) (by kernel_rfl) (by kernel_rfl) (fun _ _ _ h => h) (Or.inl ⟨by rfl, fun w9 h9 => by (have h91 := h9.1; go_simp)⟩) hHeld ?_
                refine wpAnyH_take (i := 3) (v := .int .i64 (x.1 : Int)) rfl (by kernel_rfl) (by kernel_rfl) (by kernel_rfl) (fun _ _ _ h => h) (Or.inl ⟨by rfl, fun _ _ => rfl⟩) hHeld ?_
                refine wpAnyH_take (i := 4) (v := .int .i64 (s : Int)) rfl (by kernel_rfl) (by kernel_rfl) (by kernel_rfl) (fun _ _ _ h => h) (Or.inl ⟨by rfl, fun w9 h9 => by (have h91 := h9.2; go_simp)⟩) hHeld ?_
                refine wpAnyH_ready (rs := [0, 5]) (by kernel_rfl) (by simp) (AllReadyH.cons rfl (fun K hK => ?_) (AllReadyH.cons rfl (fun K hK => ?_) AllReadyH.nil))
                ·
                  go_simp
                  refine hK.out _ _ hHeld (fun _ => ?_)
                  clear hK K
                  refine wpAnyH_ready (rs := [5]) (by kernel_rfl) (by simp) (AllReadyH.cons rfl (fun K hK => ?_) AllReadyH.nil)
                  go_simp
                  refine (unhide HCell _).mono ?_
                  rintro e w5 ⟨rfl, rfl⟩
                  refine hK.out _ _ hHeld (fun _ => ?_)
                  clear hK K
                  refine wpAnyH_ready (rs := [6]) (by kernel_rfl) (by simp) (AllReadyH.cons rfl (fun K hK => ?_) AllReadyH.nil)
                  go_simp
                  refine (unhide HNum).mono ?_
                  rintro e w6 ⟨rfl, rfl⟩
                  refine hK.out _ _ hHeld (fun _ => ?_)
                  clear hK K
                  refine wpAnyH_ready (rs := [7]) (by kernel_rfl) (by simp) (AllReadyH.cons rfl (fun K hK => ?_) AllReadyH.nil)
                  go_simp
                  refine hK.out _ _ (unhide hS7) (fun _ => ?_)
                  clear hK K
                  refine wpAnyH_ready (rs := [8]) (by kernel_rfl) (by simp) (AllReadyH.cons rfl (fun K hK => ?_) AllReadyH.nil)
                  refine step_run (by rfl) (.tmp 48) (.tmp 55) 87 (by rfl) (by rfl) (by rfl) (unhide HRUN) ?_
                  refine hK.out _ _ (unhide hS8) (fun _ => ?_)
                  clear hK K
                  refine wpAnyH_ready (rs := [9]) (by kernel_rfl) (by simp) (AllReadyH.cons rfl (fun K hK => ?_) AllReadyH.nil)
                  go_simp
                  refine hK.out _ _ (unhide hS9) (fun _ => ?_)
                  clear hK K
                  exact wpAnyH_done (by kernel_rfl) (unhide HFIN) _
                ·
                  go_simp
                  refine (unhide HCell _).mono ?_
                  rintro e w5 ⟨rfl, rfl⟩
                  refine hK.out _ _ hHeld (fun _ => ?_)
                  clear hK K
                  refine wpAnyH_ready (rs := [0, 6]) (by kernel_rfl) (by simp) (AllReadyH.cons rfl (fun K hK => ?_) (AllReadyH.cons rfl (fun K hK => ?_) AllReadyH.nil))
                  ·
                    go_simp
                    refine hK.out _ _ hHeld (fun _ => ?_)
                    clear hK K
                    refine wpAnyH_ready (rs := [6]) (by kernel_rfl) (by simp) (AllReadyH.cons rfl (fun K hK => ?_) AllReadyH.nil)
                    go_simp
                    refine (unhide HNum).mono ?_
                    rintro e w6 ⟨rfl, rfl⟩
                    refine hK.out _ _ hHeld (fun _ => ?_)
                    clear hK K
                    refine wpAnyH_ready (rs := [7]) (by kernel_rfl) (by simp) (AllReadyH.cons rfl (fun K hK => ?_) AllReadyH.nil)
                    go_simp
                    refine hK.out _ _ (unhide hS7) (fun _ => ?_)
                    clear hK K
                    refine wpAnyH_ready (rs := [8]) (by kernel_rfl) (by simp) (AllReadyH.cons rfl (fun K hK => ?_) AllReadyH.nil)
                    refine step_run (by rfl) (.tmp 48) (.tmp 55) 87 (by rfl) (by rfl) (by rfl) (unhide HRUN) ?_
                    refine hK.out _ _ (unhide hS8) (fun _ => ?_)
                    clear hK K
                    refine wpAnyH_ready (rs := [9]) (by kernel_rfl) (by simp) (AllReadyH.cons rfl (fun K hK => ?_) AllReadyH.nil)
                    go_simp
                    refine hK.out _ _ (unhide hS9) (fun _ => ?_)
                    clear hK K
                    exact wpAnyH_done (by kernel_rfl) (unhide HFIN) _
                  ·
                    go_simp
                    refine (unhide HNum).mono ?_
                    rintro e w6 ⟨rfl, rfl⟩
                    refine hK.out _ _ hHeld (fun _ => ?_)
                    clear hK K
                    refine wpAnyH_ready (rs := [0, 7]) (by kernel_rfl) (by simp) (AllReadyH.cons rfl (fun K hK => ?_) (AllReadyH.cons rfl (fun K hK => ?_) AllReadyH.nil))
                    ·
                      go_simp
                      refine hK.out _ _ hHeld (fun _ => ?_)
                      clear hK K
                      refine wpAnyH_ready (rs := [7]) (by kernel_rfl) (by simp) (AllReadyH.cons rfl (fun K hK => ?_) AllReadyH.nil)
                      go_simp
                      refine hK.out _ _ (unhide hS7) (fun _ => ?_)
                      clear hK K
                      refine wpAnyH_ready (rs := [8]) (by kernel_rfl) (by simp) (AllReadyH.cons rfl (fun K hK => ?_) AllReadyH.nil)
                      refine step_run (by rfl) (.tmp 48) (.tmp 55) 87 (by rfl) (by rfl) (by rfl) (unhide HRUN) ?_
                      refine hK.out _ _ (unhide hS8) (fun _ => ?_)
                      clear hK K
                      refine wpAnyH_ready (rs := [9]) (by kernel_rfl) (by simp) (AllReadyH.cons rfl (fun K hK => ?_) AllReadyH.nil)
                      go_simp
                      refine hK.out _ _ (unhide hS9) (fun _ => ?_)
                      clear hK K
                      exact wpAnyH_done (by kernel_rfl) (unhide HFIN) _
                    ·
                      go_simp
                      refine hK.out _ _ (unhide hS7) (fun _ => ?_)
                      clear hK K
                      refine wpAnyH_ready (rs := [0]) (by kernel_rfl) (by simp) (AllReadyH.cons rfl (fun K hK => ?_) AllReadyH.nil)
                      go_simp
                      refine hK.out _ _ (unhide hS7) (fun _ => ?_)
                      clear hK K
                      refine wpAnyH_ready (rs := [8]) (by kernel_rfl) (by simp) (AllReadyH.cons rfl (fun K hK => ?_) AllReadyH.nil)
                      refine step_run (by rfl) (.tmp 48) (.tmp 55) 87 (by rfl) (by rfl) (by rfl) (unhide HRUN) ?_
                      refine hK.out _ _ (unhide hS8) (fun _ => ?_)
                      clear hK K
                      refine wpAnyH_ready (rs := [9]) (by kernel_rfl) (by simp) (AllReadyH.cons rfl (fun K hK => ?_) AllReadyH.nil)
                      go_simp
                      refine hK.out _ _ (unhide hS9) (fun _ => ?_)
                      clear hK K
                      exact wpAnyH_done (by kernel_rfl) (unhide HFIN) _
              case hdone =>
                rintro D ys Wd hD hys hI9 hK
                obtain ⟨⟨hNx, ao, cap, hBg, hGo⟩, hPi, hLi⟩ := hI9
                have hk : j * hN W + i < hN W * hN H := by
                  have h1 : (j + 1) * hN W ≤ hN H * hN W := Nat.mul_le_mul_right _ (by omega)
                  rw [Nat.succ_mul, Nat.mul_comm (hN H)] at h1
                  omega
                have hgg := gnum_grp (s := s) (bs := bs) hys
                rw [hgg] at hBg hGo
                have hGl : ((grp s W H bs i j).map numOf).length = min 2 W * min 2 H := by rw [List.length_map, grp_len]
                have hG4 : ((grp s W H bs i j).map numOf).length ≤ 4 := by
                  have h9 : min 2 W * min 2 H ≤ 2 * 2 := Nat.mul_le_mul (by omega) (by omega)
                  omega
                have hG1 : 1 ≤ ((grp s W H bs i j).map numOf).length := by
                  rw [hGl]
                  exact Nat.mul_pos (by omega) (by omega)
                have hGb : ∀ y ∈ (grp s W H bs i j).map numOf, 0 ≤ y ∧ y < 4294967296 := fun y hy => by
                  obtain ⟨c, hc, rfl⟩ := List.mem_map.1 hy
                  unfold grp at hc
                  obtain ⟨q, _, rfl⟩ := List.mem_map.1 hc
                  have h9 := numOf_le _ ((unhide HB).cut (pq W (2 * i) (2 * j) (min 2 W) q * s) s) 4 (by simp; omega)
                  exact h9
                obtain ⟨kk1, kk2, kk3⟩ := unhide HKS
                have hmn := meanN_lt (chs8 f) ((grp s W H bs i j).map numOf) hG1
                rw [kk1] at hmn
                have hp32 := pow8s hs4
                obtain ⟨ix1, ix2⟩ := idx_at (j := j) hlt3
                have hnb : nb (chs8 f) s W H bs (j * hN W + i + 1) = nb (chs8 f) s W H bs (j * hN W + i) ++ low (meanN (chs8 f) 0 ((grp s W H bs i j).map numOf)) s := by
                  rw [nb, ix1, ix2]
                  rfl
                have hLev := (unhide H3).2.1.ext hNx.ext
                have hSz := (unhide H3).2.2.2.1.ext hNx.ext
                have hKr := (unhide H3).2.2.2.2.ext hNx.ext
                have hks9 : (j * hN W + i) * s + s ≤ hN W * hN H * s := by
                  rw [← Nat.succ_mul]
                  exact Nat.mul_le_mul_right _ hk
                have e9 : (j : Int) * ((hN W : Nat) : Int) + (i : Int) = ((j * hN W + i : Nat) : Int) := by simp
                have m9 : j * hN W ≤ 64 * 64 := Nat.mul_le_mul (by omega) hhW
                have e8 : (j : Int) * ((hN W : Nat) : Int) = ((j * hN W : Nat) : Int) := by simp
                have z1 : (j : Int) * ((hN W : Nat) : Int) ≤ 4096 := by omega
                have z0 : 0 ≤ (j : Int) * ((hN W : Nat) : Int) := by omega
                have zw : IntKind.i64.wrap ((j : Int) * ((hN W : Nat) : Int)) = (j : Int) * ((hN W : Nat) : Int) := wrap_id (by omega) (by omega)
                have zw2 : IntKind.i64.wrap ((j : Int) * ((hN W : Nat) : Int) + (i : Int)) = (j : Int) * ((hN W : Nat) : Int) + (i : Int) := wrap_id (by omega) (by omega)
                have HCell : Hid (∀ wx, Calls Try.prog 28 #[.slice (some ⟨g, 0, none⟩) (hN W * hN H * s) (hN W * hN H * s), .int .i64 ((j : Int) * ((hN W : Nat) : Int) + (i : Int)), .int .i64 (s : Int)] wx fun e w' => e = .returned (.slice (some ⟨g, (j * hN W + i) * s, none⟩) s (hN W * hN H * s - (j * hN W + i) * s)) ∧ w' = wx) := fun wx => by
                  have h9 : hN W * hN H ≤ 64 * 64 := Nat.mul_le_mul hhW hhH
                  have h8 : hN W * hN H * s ≤ 4096 * 4 := Nat.mul_le_mul h9 hs4
                  have h7 := cell_any g 0 (hN W * hN H * s) (hN W * hN H * s) (j * hN W + i) s wx (by omega) hs4 (Nat.mul_le_mul_right _ hk) (Nat.le_refl _) (by omega)
                  rw [Nat.zero_add] at h7
                  rw [e9]
                  exact h7
                have HMean : Hid (∀ wx, Ext Wd wx → Calls Try.prog 65 #[.slice ao ((grp s W H bs i j).map numOf).length cap, .slice (some ⟨kb, 0, none⟩) (chs8 f).length (chs8 f).length] wx fun e w' => e = .returned (.int .u32 (meanN (chs8 f) 0 ((grp s W H bs i j).map numOf))) ∧ Ext wx w') := fun wx hx =>
                  mean_any _ (chs8 f) ao cap _ wx (hGo.row.ext hx) (hKr.ext hx) hG1 hG4 hGb kk3 (by omega) kk2
                have hmul : hN W * hN H - (j * hN W + i) = (hN W * hN H - (j * hN W + i + 1)) + 1 := by omega
                have HLay : Hid (∀ wx, Ext Wd wx → Calls Try.prog 64 #[.slice (some ⟨g, (j * hN W + i) * s, none⟩) s (hN W * hN H * s - (j * hN W + i) * s), .int .u32 (meanN (chs8 f) 0 ((grp s W H bs i j).map numOf))] wx fun e w' => e = .returned (.tuple #[]) ∧
                    NxI w4 w' Bm #[.int .i64 ((hN W : Nat) : Int), .int .i64 ((hN H : Nat) : Int), .slice (some ⟨g, 0, none⟩) (hN W * hN H * s) (hN W * hN H * s)] g (hN W * hN H * s) (D :: ds) (nb (chs8 f) s W H bs (j * hN W + i + 1) ++ List.replicate ((hN W * hN H - (j * hN W + i + 1)) * s) 0) ∧
                    w'.cell? ⟨Bm, 2, none⟩ = some (.slice (some ⟨g, 0, none⟩) (hN W * hN H * s) (hN W * hN H * s)) ∧ w'.cell? ⟨Bm, 0, none⟩ = some (.int .i64 ((hN W : Nat) : Int)) ∧ w'.cell? ⟨Bs, 0, none⟩ = some (.int .i64 (s : Int)) ∧ w'.cell? ⟨wr.heap.size, 0, none⟩ = some (.slice ao ((grp s W H bs i j).map numOf).length cap)) := fun wx hx => by
                  have hNy := hNx.exts hx
                  have hBg9 := hBg.ext hx
                  have hSz9 := hSz.ext hx
                  have hxl : (nb (chs8 f) s W H bs (j * hN W + i) ++ List.replicate ((hN W * hN H - (j * hN W + i)) * s) 0).length = hN W * hN H * s := by
                    rw [List.length_append, nb_len, List.length_replicate, ← Nat.add_mul]
                    congr 1
                    omega
                  refine (lay_any hNy.own ((j * hN W + i) * s) s (hN W * hN H * s - (j * hN W + i) * s) hs4 (by rw [hxl]; exact hks9) _ hmn.1 (by omega)).mono ?_
                  rintro e w' ⟨rfl, ho9, hg9⟩
                  have hB9 : ∀ {b : Nat} {cs : Array Value} {t : TypeId}, Blk wx b cs t → t ≠ 5 → Blk w' b cs t := fun {b cs t} hB ht => hB.grown hg9 (blk_neU hB ht hNy.own)
                  have hsm9 := hB9 hNy.sml (by decide)
                  have e7 : layB (nb (chs8 f) s W H bs (j * hN W + i) ++ List.replicate ((hN W * hN H - (j * hN W + i)) * s) 0) ((j * hN W + i) * s) (low (meanN (chs8 f) 0 ((grp s W H bs i j).map numOf)) s) = nb (chs8 f) s W H bs (j * hN W + i + 1) ++ List.replicate ((hN W * hN H - (j * hN W + i + 1)) * s) 0 := by
                    have h1 := lay_nb (nb (chs8 f) s W H bs (j * hN W + i)) (low (meanN (chs8 f) 0 ((grp s W H bs i j).map numOf)) s) ((hN W * hN H - (j * hN W + i)) * s)
                    rw [nb_len, low_length] at h1
                    rw [h1, hnb]
                    congr 2
                    rw [hmul, Nat.succ_mul]
                    omega
                  rw [e7] at ho9
                  have hkp := keeps_own hNy.own hg9
                  have hD9 : wx.heap[D]? = some (.deferred (some [])) := (hx.block D (Array.getElem?_eq_some_iff.1 hK).1).trans hK
                  refine ⟨rfl, ⟨below_grown hNy.ext hg9 hNy.ext.size (hNy.own.lt g rfl).1, hsm9, ho9, List.nodup_cons.2 ⟨fun hm => by have := hDl D hm; omega, hNy.nod⟩, fun D' hD' => ?_⟩, hsm9.three.2.2, hsm9.three.1, (hB9 hSz9 (by decide)).cell (i := 0) rfl, (hB9 hBg9 (by decide)).cell (i := 0) rfl⟩
                  rcases List.mem_cons.1 hD' with rfl | h8
                  · exact ⟨by omega, hkp.same D' _ hD9 rfl⟩
                  · exact ⟨(hNy.mrk D' h8).1, hkp.same D' _ (hNy.mrk D' h8).2 rfl⟩
                have HS9 : Hid (∀ wx, Ext Wd wx → wx.cell? ⟨Bm, 2, none⟩ = some (.slice (some ⟨g, 0, none⟩) (hN W * hN H * s) (hN W * hN H * s)) ∧ wx.cell? ⟨Bm, 0, none⟩ = some (.int .i64 ((hN W : Nat) : Int)) ∧ wx.cell? ⟨Bs, 0, none⟩ = some (.int .i64 (s : Int)) ∧ wx.cell? ⟨wr.heap.size, 0, none⟩ = some (.slice ao ((grp s W H bs i j).map numOf).length cap)) := fun wx hx =>
                  ⟨(hNx.sml.ext hx).three.2.2, (hNx.sml.ext hx).three.1, (hSz.ext hx).cell (i := 0) rfl, (hBg.ext hx).cell (i := 0) rfl⟩
                generalize ((grp s W H bs i j).map numOf).length = gl at *
                generalize meanN (chs8 f) 0 ((grp s W H bs i j).map numOf) = mn at *
                clear hLev hSz hKr hBg hGo hPi hLi hNx hgg hGl hG4 hG1 hGb kk1 kk2 kk3 hmn hp32 ix1 ix2 hnb hys hK e9 e8 m9 hP0 hL0 hG0 hN0 hX0 hP1 hL1
                go_wp2_with fail
                go_region_held3 (fun w' => w'.cell? ⟨Bm, 2, none⟩ = some (.slice (some ⟨g, 0, none⟩) (hN W * hN H * s) (hN W * hN H * s)) ∧ w'.cell? ⟨Bm, 0, none⟩ = some (.int .i64 ((hN W : Nat) : Int)) ∧ w'.cell? ⟨Bs, 0, none⟩ = some (.int .i64 (s : Int)) ∧ w'.cell? ⟨wr.heap.size, 0, none⟩ = some (.slice ao gl cap))
                  (first | with_reducible exact hs9 | with_reducible exact unhide HS9 _ bx | with_reducible exact unhide HS9 _ (ext_0 Wd))
                  (first
                    | (go_at_call 28; refine (unhide HCell _).mono ?_; rintro e wz ⟨rfl, rfl⟩)
                    | (go_at_call 65; refine (unhide HMean _ (ext_0 Wd)).mono ?_; rintro e wm ⟨rfl, hxm⟩; have bx : Ext Wd wm := (ext_0 Wd).trans hxm; clear hxm)
                    | (go_at_call 64; refine (unhide HLay _ bx).mono ?_; rintro e wl ⟨rfl, hnx9, hs9⟩; have HNX := hide hnx9; clear hnx9))
                all_goals
                  go_wp2
                  refine ⟨⟨D :: ds, i + 1, rfl, by simp, by omega, ?_⟩, ?_⟩
                  · exact unhide HNX
                  · simp [intOf]
                    omega
              case hstop =>
                rintro D c pre Wq _ _ h _
                exact h.elim
            ·
              go_wp2_with (first | (go_at_call 27; refine (places_any (W : Int) (H : Int) (2 * (i : Int)) (2 * (j : Int)) (W : Int) (2 : Int) bo bs.length bcap _).mono ?_; rintro e wp ⟨rfl, rfl⟩))
              clear sm0 sm1 sm2 l0 l1 l2
              have hG0 : Blk (((wr.alloc (.cells #[.slice none 0 0] 87)).alloc (.cells #[.int .i64 (W : Int), .int .i64 (H : Int), .slice bo bs.length bcap] 48)).alloc (.cells #[.int .i64 (2 * (i : Int)), .int .i64 (2 * (j : Int)), .int .i64 (W : Int), .int .i64 (2 : Int)] 26)) wr.heap.size #[.slice none 0 0] 87 := ((Blk.new _ _ _).alloc _).alloc _
              have hL0 : Blk (((wr.alloc (.cells #[.slice none 0 0] 87)).alloc (.cells #[.int .i64 (W : Int), .int .i64 (H : Int), .slice bo bs.length bcap] 48)).alloc (.cells #[.int .i64 (2 * (i : Int)), .int .i64 (2 * (j : Int)), .int .i64 (W : Int), .int .i64 (2 : Int)] 26)) (wr.heap.size + 1) #[.int .i64 (W : Int), .int .i64 (H : Int), .slice bo bs.length bcap] 48 := (Blk.at (by simp)).alloc _
              have hP0 : Blk (((wr.alloc (.cells #[.slice none 0 0] 87)).alloc (.cells #[.int .i64 (W : Int), .int .i64 (H : Int), .slice bo bs.length bcap] 48)).alloc (.cells #[.int .i64 (2 * (i : Int)), .int .i64 (2 * (j : Int)), .int .i64 (W : Int), .int .i64 (2 : Int)] 26)) (wr.heap.size + 1 + 1) #[.int .i64 (2 * (i : Int)), .int .i64 (2 * (j : Int)), .int .i64 (W : Int), .int .i64 (2 : Int)] 26 := Blk.at (by simp)
              have hX0 := (((Ext.refl wr).alloc (.cells #[.slice none 0 0] 87)).alloc (.cells #[.int .i64 (W : Int), .int .i64 (H : Int), .slice bo bs.length bcap] 48)).alloc (.cells #[.int .i64 (2 * (i : Int)), .int .i64 (2 * (j : Int)), .int .i64 (W : Int), .int .i64 (2 : Int)] 26)
              generalize (((wr.alloc (.cells #[.slice none 0 0] 87)).alloc (.cells #[.int .i64 (W : Int), .int .i64 (H : Int), .slice bo bs.length bcap] 48)).alloc (.cells #[.int .i64 (2 * (i : Int)), .int .i64 (2 * (j : Int)), .int .i64 (W : Int), .int .i64 (2 : Int)] 26)) = W0 at hG0 hL0 hP0 hX0 ⊢
              have eP : (#[.int .i64 (2 * (i : Int)), .int .i64 (2 * (j : Int)), .int .i64 (W : Int), .int .i64 (2 : Int)] : Array Value) = #[.int .i64 ((2 * i : Nat) : Int), .int .i64 ((2 * j : Nat) : Int), .int .i64 ((min 2 W : Nat) : Int), .int .i64 ((min 2 H : Nat) : Int)] := by
                have e1 : ((2 * i : Nat) : Int) = 2 * (i : Int) := by omega
                have e2 : ((2 * j : Nat) : Int) = 2 * (j : Int) := by omega
                have e3 : ((min 2 W : Nat) : Int) = (W : Int) := by omega
                have e4 : ((min 2 H : Nat) : Int) = (2 : Int) := by omega
                rw [e1, e2, e3, e4]
              rw [eP] at hP0
              clear eP
              have hN0 := (unhide HI).exts hX0
              have hDl := hN0.lt
              have hG1 := hG0.lt
              have hL1 := hL0.lt
              have hP1 := hP0.lt
              have h44 := hN0.ext.size
              have hwr4 := (unhide HI).ext.size
              have hxx : 2 * i + min 2 W ≤ W := by
                unfold hN at hlt3
                omega
              have hyy : 2 * j + min 2 H ≤ H := by
                unfold hN at hlt
                omega
              refine (wpIn_wide (n := 9)).1 ?_
              apply wpIn_rangeFunc_ownF (α := Plc (W * H)) rfl (by omega) (gf := 51) (lb := #[.pointer (some ⟨wr.heap.size + 1 + 1, 0, none⟩), .pointer (some ⟨wr.heap.size + 1, 0, none⟩)]) rfl trivial (enters_of Try.func51 (by kernel_rfl) rfl)
                (iter_stops (9 - 1) (by omega) W H (2 * i) (2 * j) (min 2 W) (min 2 H) hW hH hxx hyy _ (wr.heap.size + 1 + 1) (wr.heap.size + 1) W0 hP0 hL0) Kept.trans (fun W l o o' hl _ _ _ => kept_put (by omega) (by omega)) (Below.refl _ _) (fun _ => rfl)
                (fun pre W' => RgI w4 W' Bm #[.int .i64 ((hN W : Nat) : Int), .int .i64 ((hN H : Nat) : Int), .slice (some ⟨g, 0, none⟩) (hN W * hN H * s) (hN W * hN H * s)] g (hN W * hN H * s) ds (nb (chs8 f) s W H bs (j * hN W + i) ++ List.replicate ((hN W * hN H - (j * hN W + i)) * s) 0) wr.heap.size (gnum s bs pre) ∧ Blk W' (wr.heap.size + 1 + 1) #[.int .i64 ((2 * i : Nat) : Int), .int .i64 ((2 * j : Nat) : Int), .int .i64 ((min 2 W : Nat) : Int), .int .i64 ((min 2 H : Nat) : Int)] 26 ∧ Blk W' (wr.heap.size + 1) #[.int .i64 (W : Int), .int .i64 (H : Int), .slice bo bs.length bcap] 48)
                (fun _ _ _ => False)
                (fun pre A B' row hs hg hr => ⟨⟨hs.1.nx.kept hg (fun r e => hr r e) h44 hDl, by
                  obtain ⟨ao, cap, h1, h2⟩ := hs.1.grp
                  exact ⟨ao, cap, blk_kept h1 hg (fun r e => (hr r e).2), own_kept h2 hg (fun r e => (hr r e).2)⟩⟩, blk_kept hs.2.1 hg (fun r e => (hr r e).2), blk_kept hs.2.2 hg (fun r e => (hr r e).2)⟩)
                (fun _ _ _ _ _ hs _ _ => hs)
                ⟨⟨hN0, none, 0, hG0, Own.nil _ _ _ _⟩, hP0, hL0⟩
              case hassign =>
                intro l x Wq K hK
                have HK := hide hK
                clear hK
                gi_wp2
                exact unhide HK
              case hbody =>
                rintro l pre x Wq hR hlt5
                obtain ⟨⟨hNx, ao, cap, hBg, hGo⟩, hPi, hLi⟩ := hR
                rw [gnum_len] at hBg hGo
                have hq := x.2
                have hqs : (x.1 + 1) * s ≤ bs.length := by
                  rw [unhide HLEN]
                  exact Nat.mul_le_mul_right _ hq
                have hLev := (unhide H3).2.1.ext hNx.ext
                have hSz := (unhide H3).2.2.2.1.ext hNx.ext
                have hSrc := (unhide HR).ext ((unhide H3).1.trans hNx.ext)
                have HCell : Hid (∀ wx, Calls Try.prog 28 #[.slice bo bs.length bcap, .int .i64 (x.1 : Int), .int .i64 (s : Int)] wx fun e w' => e = .returned (.slice (some ⟨b0, off0 + x.1 * s, none⟩) s (bcap - x.1 * s)) ∧ w' = wx) := fun wx => by
                  rw [unhide HBO]
                  exact cell_any b0 off0 bs.length bcap x.1 s wx (by omega) hs4 hqs hbc hbm2
                have hcl := cellL_len (s := s) (q := x.1) (xs := bs) hqs
                have HNum : Hid (Calls Try.prog 63 #[.slice (some ⟨b0, off0 + x.1 * s, none⟩) s (bcap - x.1 * s)] Wq.drew fun e w' => e = .returned (.int .u32 (numOf (cellL s bs x.1))) ∧ w' = Wq.drew) := by
                  have hs2 := hSrc
                  rw [unhide HBO] at hs2
                  obtain ⟨b9, o9, e9, hp9⟩ := hs2.part (x.1 * s) s (by omega) (by rw [Nat.succ_mul] at hqs; exact hqs)
                  cases e9
                  have h9 := number_any (some ⟨b0, off0 + x.1 * s, none⟩) (bcap - x.1 * s) (cellL s bs x.1) Wq.drew (by rw [hcl]; exact hp9.ext (ext_0 Wq)) ((unhide HB).cut _ _) (by omega)
                  rw [hcl] at h9
                  exact h9
                obtain ⟨iu, hiu, zu0, zu1, zu2⟩ := info_parts infoU
                have hlt6 : pre.length < 4 := by
                  have h9 : min 2 W * min 2 H ≤ 2 * 2 := Nat.mul_le_mul (by omega) (by omega)
                  omega
                have hszq := hNx.ext.size
                obtain ⟨ao8, cap8, w8, hrun8, ho8, hg8⟩ := app_one (P := Try.prog) (t := 87) (ty := 87) Try.underlying87 hiu zu0 zu1 zu2 (w := Wq.drew) (hGo.kept (ext_0 Wq)) (numOf (cellL s bs x.1)) (by exact hszq) (by rw [gnum_len]; unfold maxLen; omega) (by rw [gnum_len]; omega)
                rw [gnum_len] at hrun8 ho8
                have hrun9 : (Builtin.append_ #[87, 87] 87 #[.slice ao pre.length cap, .slice (some ⟨Wq.heap.size, 0, none⟩) 1 1]).run Try.prog (Wq.drew.alloc (.cells #[.int .u32 (numOf (cellL s bs x.1))] 88)) = .ok (.slice ao8 (pre.length + 1) cap8) w8 := hrun8
                have HRUN := hide hrun9
                have hx7 : Ext Wq (Wq.drew.alloc (.cells #[.int .u32 (numOf (cellL s bs x.1))] 88)) := (ext_0 Wq).alloc _
                -- what append turns
                have hGo7 := hGo.kept hx7
                have hne8 : ∀ {b : Nat} {cs : Array Value} {t : TypeId}, Blk Wq b cs t → t ≠ 88 → Blk w8 b cs t := fun {b cs t} hB ht => blk_by2 (hB.ext hx7) hGo7 ht hg8
                have hBg8 := hne8 hBg (by decide)
                have cg := hBg.cell (i := 0) rfl
                have cg7 : (Wq.alloc (.cells #[.int .u32 (numOf (cellL s bs x.1))] 88)).drew.cell? ⟨wr.heap.size, 0, none⟩ = some (.slice ao pre.length cap) := (hBg.ext hx7).cell (i := 0) rfl
                have cg8 := hBg8.cell (i := 0) rfl
                have fg8 := hBg8.free 0
                have hg9 := grownBy_set w8 wr.heap.size 0 (.slice ao8 (pre.length + 1) cap8)
                have hS0 : Wq.drew.cell? ⟨w.heap.size, 2, none⟩ = some (.slice bo bs.length bcap) ∧ Wq.drew.cell? ⟨Bs, 0, none⟩ = some (.int .i64 (s : Int)) := ⟨hLev.three.2.2, hSz.cell (i := 0) rfl⟩
                have hS7 := hide (And.intro (hLev.ext hx7).three.2.2 ((hSz.ext hx7).cell (i := 0) rfl))
                have hLev8 := hne8 hLev (by decide)
                have hSz8 := hne8 hSz (by decide)
                have hS8 := hide (And.intro hLev8.three.2.2 (hSz8.cell (i := 0) rfl))
                have hwl := hLev.lt
                have hneL : w.heap.size ≠ wr.heap.size := by
                  have := (unhide H3).2.1.lt
                  omega
                have hneS : Bs ≠ wr.heap.size := by
                  have := (unhide H3).2.2.2.1.lt
                  omega
                have hS9 := hide (And.intro (hLev8.other (r := wr.heap.size) 0 (.slice ao8 (pre.length + 1) cap8) hneL).three.2.2 ((hSz8.other (r := wr.heap.size) 0 (.slice ao8 (pre.length + 1) cap8) hneS).cell (i := 0) rfl))
                have hwrG : wr.heap.size < Wq.heap.size := hBg.lt
                have hNx0 := (unhide HI)
                have hBm := hNx0.sml.lt
                have hgl := (hNx0.own.lt g rfl).2
                have HFIN : Hid (KeepsOthers Wq (w8.setCell ⟨wr.heap.size, 0, none⟩ (.slice ao8 (pre.length + 1) cap8)) ∧ Kept (wr.heap.size + 1 + 1) (wr.heap.size + 1) Wq (w8.setCell ⟨wr.heap.size, 0, none⟩ (.slice ao8 (pre.length + 1) cap8)) ∧ RgI w4 (w8.setCell ⟨wr.heap.size, 0, none⟩ (.slice ao8 (pre.length + 1) cap8)) Bm #[.int .i64 ((hN W : Nat) : Int), .int .i64 ((hN H : Nat) : Int), .slice (some ⟨g, 0, none⟩) (hN W * hN H * s) (hN W * hN H * s)] g (hN W * hN H * s) ds (nb (chs8 f) s W H bs (j * hN W + i) ++ List.replicate ((hN W * hN H - (j * hN W + i)) * s) 0) wr.heap.size (gnum s bs (pre ++ [x])) ∧ Blk (w8.setCell ⟨wr.heap.size, 0, none⟩ (.slice ao8 (pre.length + 1) cap8)) (wr.heap.size + 1 + 1) #[.int .i64 ((2 * i : Nat) : Int), .int .i64 ((2 * j : Nat) : Int), .int .i64 ((min 2 W : Nat) : Int), .int .i64 ((min 2 H : Nat) : Int)] 26 ∧ Blk (w8.setCell ⟨wr.heap.size, 0, none⟩ (.slice ao8 (pre.length + 1) cap8)) (wr.heap.size + 1) #[.int .i64 (W : Int), .int .i64 (H : Int), .slice bo bs.length bcap] 48) := by
                  have hk8 : KeepsOthers Wq w8 := (keeps_ext hx7).trans (keeps_own hGo7 hg8)
                  have hk9 : KeepsOthers Wq (w8.setCell ⟨wr.heap.size, 0, none⟩ (.slice ao8 (pre.length + 1) cap8)) := hk8.trans (KeepsOthers.setCell _ _ _)
                  have hPi9 := (hne8 hPi (by decide)).other (r := wr.heap.size) 0 (.slice ao8 (pre.length + 1) cap8) (by omega)
                  have hLi9 := (hne8 hLi (by decide)).other (r := wr.heap.size) 0 (.slice ao8 (pre.length + 1) cap8) (by omega)
                  refine ⟨hk9, ⟨(show _ from hPi9).trans (show _ from hPi).symm, (show _ from hLi9).trans (show _ from hLi).symm⟩, ⟨⟨?_, ?_, ?_, hNx.nod, fun D hD9 => ⟨(hNx.mrk D hD9).1, hk9.same D _ (hNx.mrk D hD9).2 rfl⟩⟩, ao8, cap8, ?_, ?_⟩, hPi9, hLi9⟩
                  · have h8 : Ext w4 w8 := (hNx.ext.trans hx7).grown hg8 (hNx.ext.trans hx7).size (fun r e => (hGo7.lt r e).1)
                    exact below_grown h8 hg9 h8.size (by omega)
                  · exact (hne8 hNx.sml (by decide)).other (r := wr.heap.size) 0 (.slice ao8 (pre.length + 1) cap8) (by omega)
                  · exact (own_by2 (hNx.own.kept hx7) hGo7 (by decide) hg8).grown hg9 (fun b hb e => by simp [Value.ownBlock] at hb; omega)
                  · rw [gnum_len, List.length_append]
                    have := hBg8.set 0 (.slice ao8 (pre.length + 1) cap8)
                    simpa using this
                  · rw [gnum_snoc, List.length_append, gnum_len]
                    exact ho8.grown hg9 (fun b hb => own_neT ho8 hBg8 (by decide) b hb)
                gi_wp2
                refine region_in (S := fun w' => w'.cell? ⟨w.heap.size, 2, none⟩ = some (.slice bo bs.length bcap) ∧ w'.cell? ⟨Bs, 0, none⟩ = some (.int .i64 (s : Int))) (by kernel_rfl) (by kernel_rfl) (by rintro ⟨_, _, h⟩; exact h) hS0 (fun hHeld => ?_)
                refine wpAnyH_take (i := 1) (v := .pointer (some ⟨w.heap.size, 2, none⟩)) rfl (by kernel_rfl) (by kernel_rfl) (by kernel_rfl) (fun _ _ _ h => h) (Or.inl ⟨by rfl, fun _ _ => rfl⟩) hHeld ?_
                refine wpAnyH_take (i := 2) (v := .slice bo bs.length bcap) rfl (by kernel_rfl) (by kernel_rfl) (by kernel_rfl) (fun _ _ _ h => h) (Or.inl ⟨by rfl, fun w9 h9 => by (have h91 := h9.1; go_simp)⟩) hHeld ?_
                refine wpAnyH_take (i := 3) (v := .int .i64 (x.1 : Int)) rfl (by kernel_rfl) (by kernel_rfl) (by kernel_rfl) (fun _ _ _ h => h) (Or.inl ⟨by rfl, fun _ _ => rfl⟩) hHeld ?_
                refine wpAnyH_take (i := 4) (v := .int .i64 (s : Int)) rfl (by kernel_rfl) (by kernel_rfl) (by kernel_rfl) (fun _ _ _ h => h) (Or.inl ⟨by rfl, fun w9 h9 => by (have h91 := h9.2; go_simp)⟩) hHeld ?_
                refine wpAnyH_ready (rs := [0, 5]) (by kernel_rfl) (by simp) (AllReadyH.cons rfl (fun K hK => ?_) (AllReadyH.cons rfl (fun K hK => ?_) AllReadyH.nil))
                ·
                  go_simp
                  refine hK.out _ _ hHeld (fun _ => ?_)
                  clear hK K
                  refine wpAnyH_ready (rs := [5]) (by kernel_rfl) (by simp) (AllReadyH.cons rfl (fun K hK => ?_) AllReadyH.nil)
                  go_simp
                  refine (unhide HCell _).mono ?_
                  rintro e w5 ⟨rfl, rfl⟩
                  refine hK.out _ _ hHeld (fun _ => ?_)
                  clear hK K
                  refine wpAnyH_ready (rs := [6]) (by kernel_rfl) (by simp) (AllReadyH.cons rfl (fun K hK => ?_) AllReadyH.nil)
                  go_simp
                  refine (unhide HNum).mono ?_
                  rintro e w6 ⟨rfl, rfl⟩
                  refine hK.out _ _ hHeld (fun _ => ?_)
                  clear hK K
                  refine wpAnyH_ready (rs := [7]) (by kernel_rfl) (by simp) (AllReadyH.cons rfl (fun K hK => ?_) AllReadyH.nil)
                  go_simp
                  refine hK.out _ _ (unhide hS7) (fun _ => ?_)
                  clear hK K
                  refine wpAnyH_ready (rs := [8]) (by kernel_rfl) (by simp) (AllReadyH.cons rfl (fun K hK => ?_) AllReadyH.nil)
                  refine step_run (by rfl) (.tmp 48) (.tmp 55) 87 (by rfl) (by rfl) (by rfl) (unhide HRUN) ?_
                  refine hK.out _ _ (unhide hS8) (fun _ => ?_)
                  clear hK K
                  refine wpAnyH_ready (rs := [9]) (by kernel_rfl) (by simp) (AllReadyH.cons rfl (fun K hK => ?_) AllReadyH.nil)
                  go_simp
                  refine hK.out _ _ (unhide hS9) (fun _ => ?_)
                  clear hK K
                  exact wpAnyH_done (by kernel_rfl) (unhide HFIN) _
                ·
                  go_simp
                  refine (unhide HCell _).mono ?_
                  rintro e w5 ⟨rfl, rfl⟩
                  refine hK.out _ _ hHeld (fun _ => ?_)
                  clear hK K
                  refine wpAnyH_ready (rs := [0, 6]) (by kernel_rfl) (by simp) (AllReadyH.cons rfl (fun K hK => ?_) (AllReadyH.cons rfl (fun K hK => ?_) AllReadyH.nil))
                  ·
                    go_simp
                    refine hK.out _ _ hHeld (fun _ => ?_)
                    clear hK K
                    refine wpAnyH_ready (rs := [6]) (by kernel_rfl) (by simp) (AllReadyH.cons rfl (fun K hK => ?_) AllReadyH.nil)
                    go_simp
                    refine (unhide HNum).mono ?_
                    rintro e w6 ⟨rfl, rfl⟩
                    refine hK.out _ _ hHeld (fun _ => ?_)
                    clear hK K
                    refine wpAnyH_ready (rs := [7]) (by kernel_rfl) (by simp) (AllReadyH.cons rfl (fun K hK => ?_) AllReadyH.nil)
                    go_simp
                    refine hK.out _ _ (unhide hS7) (fun _ => ?_)
                    clear hK K
                    refine wpAnyH_ready (rs := [8]) (by kernel_rfl) (by simp) (AllReadyH.cons rfl (fun K hK => ?_) AllReadyH.nil)
                    refine step_run (by rfl) (.tmp 48) (.tmp 55) 87 (by rfl) (by rfl) (by rfl) (unhide HRUN) ?_
                    refine hK.out _ _ (unhide hS8) (fun _ => ?_)
                    clear hK K
                    refine wpAnyH_ready (rs := [9]) (by kernel_rfl) (by simp) (AllReadyH.cons rfl (fun K hK => ?_) AllReadyH.nil)
                    go_simp
                    refine hK.out _ _ (unhide hS9) (fun _ => ?_)
                    clear hK K
                    exact wpAnyH_done (by kernel_rfl) (unhide HFIN) _
                  ·
                    go_simp
                    refine (unhide HNum).mono ?_
                    rintro e w6 ⟨rfl, rfl⟩
                    refine hK.out _ _ hHeld (fun _ => ?_)
                    clear hK K
                    refine wpAnyH_ready (rs := [0, 7]) (by kernel_rfl) (by simp) (AllReadyH.cons rfl (fun K hK => ?_) (AllReadyH.cons rfl (fun K hK => ?_) AllReadyH.nil))
                    ·
                      go_simp
                      refine hK.out _ _ hHeld (fun _ => ?_)
                      clear hK K
                      refine wpAnyH_ready (rs := [7]) (by kernel_rfl) (by simp) (AllReadyH.cons rfl (fun K hK => ?_) AllReadyH.nil)
                      go_simp
                      refine hK.out _ _ (unhide hS7) (fun _ => ?_)
                      clear hK K
                      refine wpAnyH_ready (rs := [8]) (by kernel_rfl) (by simp) (AllReadyH.cons rfl (fun K hK => ?_) AllReadyH.nil)
                      refine step_run (by rfl) (.tmp 48) (.tmp 55) 87 (by rfl) (by rfl) (by rfl) (unhide HRUN) ?_
                      refine hK.out _ _ (unhide hS8) (fun _ => ?_)
                      clear hK K
                      refine wpAnyH_ready (rs := [9]) (by kernel_rfl) (by simp) (AllReadyH.cons rfl (fun K hK => ?_) AllReadyH.nil)
                      go_simp
                      refine hK.out _ _ (unhide hS9) (fun _ => ?_)
                      clear hK K
                      exact wpAnyH_done (by kernel_rfl) (unhide HFIN) _
                    ·
                      go_simp
                      refine hK.out _ _ (unhide hS7) (fun _ => ?_)
                      clear hK K
                      refine wpAnyH_ready (rs := [0]) (by kernel_rfl) (by simp) (AllReadyH.cons rfl (fun K hK => ?_) AllReadyH.nil)
                      go_simp
                      refine hK.out _ _ (unhide hS7) (fun _ => ?_)
                      clear hK K
                      refine wpAnyH_ready (rs := [8]) (by kernel_rfl) (by simp) (AllReadyH.cons rfl (fun K hK => ?_) AllReadyH.nil)
                      refine step_run (by rfl) (.tmp 48) (.tmp 55) 87 (by rfl) (by rfl) (by rfl) (unhide HRUN) ?_
                      refine hK.out _ _ (unhide hS8) (fun _ => ?_)
                      clear hK K
                      refine wpAnyH_ready (rs := [9]) (by kernel_rfl) (by simp) (AllReadyH.cons rfl (fun K hK => ?_) AllReadyH.nil)
                      go_simp
                      refine hK.out _ _ (unhide hS9) (fun _ => ?_)
                      clear hK K
                      exact wpAnyH_done (by kernel_rfl) (unhide HFIN) _
              case hdone =>
                rintro D ys Wd hD hys hI9 hK
                obtain ⟨⟨hNx, ao, cap, hBg, hGo⟩, hPi, hLi⟩ := hI9
                have hk : j * hN W + i < hN W * hN H := by
                  have h1 : (j + 1) * hN W ≤ hN H * hN W := Nat.mul_le_mul_right _ (by omega)
                  rw [Nat.succ_mul, Nat.mul_comm (hN H)] at h1
                  omega
                have hgg := gnum_grp (s := s) (bs := bs) hys
                rw [hgg] at hBg hGo
                have hGl : ((grp s W H bs i j).map numOf).length = min 2 W * min 2 H := by rw [List.length_map, grp_len]
                have hG4 : ((grp s W H bs i j).map numOf).length ≤ 4 := by
                  have h9 : min 2 W * min 2 H ≤ 2 * 2 := Nat.mul_le_mul (by omega) (by omega)
                  omega
                have hG1 : 1 ≤ ((grp s W H bs i j).map numOf).length := by
                  rw [hGl]
                  exact Nat.mul_pos (by omega) (by omega)
                have hGb : ∀ y ∈ (grp s W H bs i j).map numOf, 0 ≤ y ∧ y < 4294967296 := fun y hy => by
                  obtain ⟨c, hc, rfl⟩ := List.mem_map.1 hy
                  unfold grp at hc
                  obtain ⟨q, _, rfl⟩ := List.mem_map.1 hc
                  have h9 := numOf_le _ ((unhide HB).cut (pq W (2 * i) (2 * j) (min 2 W) q * s) s) 4 (by simp; omega)
                  exact h9
                obtain ⟨kk1, kk2, kk3⟩ := unhide HKS
                have hmn := meanN_lt (chs8 f) ((grp s W H bs i j).map numOf) hG1
                rw [kk1] at hmn
                have hp32 := pow8s hs4
                obtain ⟨ix1, ix2⟩ := idx_at (j := j) hlt3
                have hnb : nb (chs8 f) s W H bs (j * hN W + i + 1) = nb (chs8 f) s W H bs (j * hN W + i) ++ low (meanN (chs8 f) 0 ((grp s W H bs i j).map numOf)) s := by
                  rw [nb, ix1, ix2]
                  rfl
                have hLev := (unhide H3).2.1.ext hNx.ext
                have hSz := (unhide H3).2.2.2.1.ext hNx.ext
                have hKr := (unhide H3).2.2.2.2.ext hNx.ext
                have hks9 : (j * hN W + i) * s + s ≤ hN W * hN H * s := by
                  rw [← Nat.succ_mul]
                  exact Nat.mul_le_mul_right _ hk
                have e9 : (j : Int) * ((hN W : Nat) : Int) + (i : Int) = ((j * hN W + i : Nat) : Int) := by simp
                have m9 : j * hN W ≤ 64 * 64 := Nat.mul_le_mul (by omega) hhW
                have e8 : (j : Int) * ((hN W : Nat) : Int) = ((j * hN W : Nat) : Int) := by simp
                have z1 : (j : Int) * ((hN W : Nat) : Int) ≤ 4096 := by omega
                have z0 : 0 ≤ (j : Int) * ((hN W : Nat) : Int) := by omega
                have zw : IntKind.i64.wrap ((j : Int) * ((hN W : Nat) : Int)) = (j : Int) * ((hN W : Nat) : Int) := wrap_id (by omega) (by omega)
                have zw2 : IntKind.i64.wrap ((j : Int) * ((hN W : Nat) : Int) + (i : Int)) = (j : Int) * ((hN W : Nat) : Int) + (i : Int) := wrap_id (by omega) (by omega)
                have HCell : Hid (∀ wx, Calls Try.prog 28 #[.slice (some ⟨g, 0, none⟩) (hN W * hN H * s) (hN W * hN H * s), .int .i64 ((j : Int) * ((hN W : Nat) : Int) + (i : Int)), .int .i64 (s : Int)] wx fun e w' => e = .returned (.slice (some ⟨g, (j * hN W + i) * s, none⟩) s (hN W * hN H * s - (j * hN W + i) * s)) ∧ w' = wx) := fun wx => by
                  have h9 : hN W * hN H ≤ 64 * 64 := Nat.mul_le_mul hhW hhH
                  have h8 : hN W * hN H * s ≤ 4096 * 4 := Nat.mul_le_mul h9 hs4
                  have h7 := cell_any g 0 (hN W * hN H * s) (hN W * hN H * s) (j * hN W + i) s wx (by omega) hs4 (Nat.mul_le_mul_right _ hk) (Nat.le_refl _) (by omega)
                  rw [Nat.zero_add] at h7
                  rw [e9]
                  exact h7
                have HMean : Hid (∀ wx, Ext Wd wx → Calls Try.prog 65 #[.slice ao ((grp s W H bs i j).map numOf).length cap, .slice (some ⟨kb, 0, none⟩) (chs8 f).length (chs8 f).length] wx fun e w' => e = .returned (.int .u32 (meanN (chs8 f) 0 ((grp s W H bs i j).map numOf))) ∧ Ext wx w') := fun wx hx =>
                  mean_any _ (chs8 f) ao cap _ wx (hGo.row.ext hx) (hKr.ext hx) hG1 hG4 hGb kk3 (by omega) kk2
                have hmul : hN W * hN H - (j * hN W + i) = (hN W * hN H - (j * hN W + i + 1)) + 1 := by omega
                have HLay : Hid (∀ wx, Ext Wd wx → Calls Try.prog 64 #[.slice (some ⟨g, (j * hN W + i) * s, none⟩) s (hN W * hN H * s - (j * hN W + i) * s), .int .u32 (meanN (chs8 f) 0 ((grp s W H bs i j).map numOf))] wx fun e w' => e = .returned (.tuple #[]) ∧
                    NxI w4 w' Bm #[.int .i64 ((hN W : Nat) : Int), .int .i64 ((hN H : Nat) : Int), .slice (some ⟨g, 0, none⟩) (hN W * hN H * s) (hN W * hN H * s)] g (hN W * hN H * s) (D :: ds) (nb (chs8 f) s W H bs (j * hN W + i + 1) ++ List.replicate ((hN W * hN H - (j * hN W + i + 1)) * s) 0) ∧
                    w'.cell? ⟨Bm, 2, none⟩ = some (.slice (some ⟨g, 0, none⟩) (hN W * hN H * s) (hN W * hN H * s)) ∧ w'.cell? ⟨Bm, 0, none⟩ = some (.int .i64 ((hN W : Nat) : Int)) ∧ w'.cell? ⟨Bs, 0, none⟩ = some (.int .i64 (s : Int)) ∧ w'.cell? ⟨wr.heap.size, 0, none⟩ = some (.slice ao ((grp s W H bs i j).map numOf).length cap)) := fun wx hx => by
                  have hNy := hNx.exts hx
                  have hBg9 := hBg.ext hx
                  have hSz9 := hSz.ext hx
                  have hxl : (nb (chs8 f) s W H bs (j * hN W + i) ++ List.replicate ((hN W * hN H - (j * hN W + i)) * s) 0).length = hN W * hN H * s := by
                    rw [List.length_append, nb_len, List.length_replicate, ← Nat.add_mul]
                    congr 1
                    omega
                  refine (lay_any hNy.own ((j * hN W + i) * s) s (hN W * hN H * s - (j * hN W + i) * s) hs4 (by rw [hxl]; exact hks9) _ hmn.1 (by omega)).mono ?_
                  rintro e w' ⟨rfl, ho9, hg9⟩
                  have hB9 : ∀ {b : Nat} {cs : Array Value} {t : TypeId}, Blk wx b cs t → t ≠ 5 → Blk w' b cs t := fun {b cs t} hB ht => hB.grown hg9 (blk_neU hB ht hNy.own)
                  have hsm9 := hB9 hNy.sml (by decide)
                  have e7 : layB (nb (chs8 f) s W H bs (j * hN W + i) ++ List.replicate ((hN W * hN H - (j * hN W + i)) * s) 0) ((j * hN W + i) * s) (low (meanN (chs8 f) 0 ((grp s W H bs i j).map numOf)) s) = nb (chs8 f) s W H bs (j * hN W + i + 1) ++ List.replicate ((hN W * hN H - (j * hN W + i + 1)) * s) 0 := by
                    have h1 := lay_nb (nb (chs8 f) s W H bs (j * hN W + i)) (low (meanN (chs8 f) 0 ((grp s W H bs i j).map numOf)) s) ((hN W * hN H - (j * hN W + i)) * s)
                    rw [nb_len, low_length] at h1
                    rw [h1, hnb]
                    congr 2
                    rw [hmul, Nat.succ_mul]
                    omega
                  rw [e7] at ho9
                  have hkp := keeps_own hNy.own hg9
                  have hD9 : wx.heap[D]? = some (.deferred (some [])) := (hx.block D (Array.getElem?_eq_some_iff.1 hK).1).trans hK
                  refine ⟨rfl, ⟨below_grown hNy.ext hg9 hNy.ext.size (hNy.own.lt g rfl).1, hsm9, ho9, List.nodup_cons.2 ⟨fun hm => by have := hDl D hm; omega, hNy.nod⟩, fun D' hD' => ?_⟩, hsm9.three.2.2, hsm9.three.1, (hB9 hSz9 (by decide)).cell (i := 0) rfl, (hB9 hBg9 (by decide)).cell (i := 0) rfl⟩
                  rcases List.mem_cons.1 hD' with rfl | h8
                  · exact ⟨by omega, hkp.same D' _ hD9 rfl⟩
                  · exact ⟨(hNy.mrk D' h8).1, hkp.same D' _ (hNy.mrk D' h8).2 rfl⟩
                have HS9 : Hid (∀ wx, Ext Wd wx → wx.cell? ⟨Bm, 2, none⟩ = some (.slice (some ⟨g, 0, none⟩) (hN W * hN H * s) (hN W * hN H * s)) ∧ wx.cell? ⟨Bm, 0, none⟩ = some (.int .i64 ((hN W : Nat) : Int)) ∧ wx.cell? ⟨Bs, 0, none⟩ = some (.int .i64 (s : Int)) ∧ wx.cell? ⟨wr.heap.size, 0, none⟩ = some (.slice ao ((grp s W H bs i j).map numOf).length cap)) := fun wx hx =>
                  ⟨(hNx.sml.ext hx).three.2.2, (hNx.sml.ext hx).three.1, (hSz.ext hx).cell (i := 0) rfl, (hBg.ext hx).cell (i := 0) rfl⟩
                generalize ((grp s W H bs i j).map numOf).length = gl at *
                generalize meanN (chs8 f) 0 ((grp s W H bs i j).map numOf) = mn at *
                clear hLev hSz hKr hBg hGo hPi hLi hNx hgg hGl hG4 hG1 hGb kk1 kk2 kk3 hmn hp32 ix1 ix2 hnb hys hK e9 e8 m9 hP0 hL0 hG0 hN0 hX0 hP1 hL1
                go_wp2_with fail
                go_region_held3 (fun w' => w'.cell? ⟨Bm, 2, none⟩ = some (.slice (some ⟨g, 0, none⟩) (hN W * hN H * s) (hN W * hN H * s)) ∧ w'.cell? ⟨Bm, 0, none⟩ = some (.int .i64 ((hN W : Nat) : Int)) ∧ w'.cell? ⟨Bs, 0, none⟩ = some (.int .i64 (s : Int)) ∧ w'.cell? ⟨wr.heap.size, 0, none⟩ = some (.slice ao gl cap))
                  (first | with_reducible exact hs9 | with_reducible exact unhide HS9 _ bx | with_reducible exact unhide HS9 _ (ext_0 Wd))
                  (first
                    | (go_at_call 28; refine (unhide HCell _).mono ?_; rintro e wz ⟨rfl, rfl⟩)
                    | (go_at_call 65; refine (unhide HMean _ (ext_0 Wd)).mono ?_; rintro e wm ⟨rfl, hxm⟩; have bx : Ext Wd wm := (ext_0 Wd).trans hxm; clear hxm)
                    | (go_at_call 64; refine (unhide HLay _ bx).mono ?_; rintro e wl ⟨rfl, hnx9, hs9⟩; have HNX := hide hnx9; clear hnx9))
                all_goals
                  go_wp2
                  refine ⟨⟨D :: ds, i + 1, rfl, by simp, by omega, ?_⟩, ?_⟩
                  · exact unhide HNX
                  · simp [intOf]
                    omega
              case hstop =>
                rintro D c pre Wq _ _ h _
                exact h.elim
          · rcases (by omega : (H : Int) < 2 ∨ (2 : Int) ≤ (H : Int)) with hh2 | hh2
            ·
              go_wp2_with (first | (go_at_call 27; refine (places_any (W : Int) (H : Int) (2 * (i : Int)) (2 * (j : Int)) (2 : Int) (H : Int) bo bs.length bcap _).mono ?_; rintro e wp ⟨rfl, rfl⟩))
              clear sm0 sm1 sm2 l0 l1 l2
              have hG0 : Blk (((wr.alloc (.cells #[.slice none 0 0] 87)).alloc (.cells #[.int .i64 (W : Int), .int .i64 (H : Int), .slice bo bs.length bcap] 48)).alloc (.cells #[.int .i64 (2 * (i : Int)), .int .i64 (2 * (j : Int)), .int .i64 (2 : Int), .int .i64 (H : Int)] 26)) wr.heap.size #[.slice none 0 0] 87 := ((Blk.new _ _ _).alloc _).alloc _
              have hL0 : Blk (((wr.alloc (.cells #[.slice none 0 0] 87)).alloc (.cells #[.int .i64 (W : Int), .int .i64 (H : Int), .slice bo bs.length bcap] 48)).alloc (.cells #[.int .i64 (2 * (i : Int)), .int .i64 (2 * (j : Int)), .int .i64 (2 : Int), .int .i64 (H : Int)] 26)) (wr.heap.size + 1) #[.int .i64 (W : Int), .int .i64 (H : Int), .slice bo bs.length bcap] 48 := (Blk.at (by simp)).alloc _
              have hP0 : Blk (((wr.alloc (.cells #[.slice none 0 0] 87)).alloc (.cells #[.int .i64 (W : Int), .int .i64 (H : Int), .slice bo bs.length bcap] 48)).alloc (.cells #[.int .i64 (2 * (i : Int)), .int .i64 (2 * (j : Int)), .int .i64 (2 : Int), .int .i64 (H : Int)] 26)) (wr.heap.size + 1 + 1) #[.int .i64 (2 * (i : Int)), .int .i64 (2 * (j : Int)), .int .i64 (2 : Int), .int .i64 (H : Int)] 26 := Blk.at (by simp)
              have hX0 := (((Ext.refl wr).alloc (.cells #[.slice none 0 0] 87)).alloc (.cells #[.int .i64 (W : Int), .int .i64 (H : Int), .slice bo bs.length bcap] 48)).alloc (.cells #[.int .i64 (2 * (i : Int)), .int .i64 (2 * (j : Int)), .int .i64 (2 : Int), .int .i64 (H : Int)] 26)
              generalize (((wr.alloc (.cells #[.slice none 0 0] 87)).alloc (.cells #[.int .i64 (W : Int), .int .i64 (H : Int), .slice bo bs.length bcap] 48)).alloc (.cells #[.int .i64 (2 * (i : Int)), .int .i64 (2 * (j : Int)), .int .i64 (2 : Int), .int .i64 (H : Int)] 26)) = W0 at hG0 hL0 hP0 hX0 ⊢
              have eP : (#[.int .i64 (2 * (i : Int)), .int .i64 (2 * (j : Int)), .int .i64 (2 : Int), .int .i64 (H : Int)] : Array Value) = #[.int .i64 ((2 * i : Nat) : Int), .int .i64 ((2 * j : Nat) : Int), .int .i64 ((min 2 W : Nat) : Int), .int .i64 ((min 2 H : Nat) : Int)] := by
                have e1 : ((2 * i : Nat) : Int) = 2 * (i : Int) := by omega
                have e2 : ((2 * j : Nat) : Int) = 2 * (j : Int) := by omega
                have e3 : ((min 2 W : Nat) : Int) = (2 : Int) := by omega
                have e4 : ((min 2 H : Nat) : Int) = (H : Int) := by omega
                rw [e1, e2, e3, e4]
              rw [eP] at hP0
              clear eP
              have hN0 := (unhide HI).exts hX0
              have hDl := hN0.lt
              have hG1 := hG0.lt
              have hL1 := hL0.lt
              have hP1 := hP0.lt
              have h44 := hN0.ext.size
              have hwr4 := (unhide HI).ext.size
              have hxx : 2 * i + min 2 W ≤ W := by
                unfold hN at hlt3
                omega
              have hyy : 2 * j + min 2 H ≤ H := by
                unfold hN at hlt
                omega
              refine (wpIn_wide (n := 9)).1 ?_
              apply wpIn_rangeFunc_ownF (α := Plc (W * H)) rfl (by omega) (gf := 51) (lb := #[.pointer (some ⟨wr.heap.size + 1 + 1, 0, none⟩), .pointer (some ⟨wr.heap.size + 1, 0, none⟩)]) rfl trivial (enters_of Try.func51 (by kernel_rfl) rfl)
                (iter_stops (9 - 1) (by omega) W H (2 * i) (2 * j) (min 2 W) (min 2 H) hW hH hxx hyy _ (wr.heap.size + 1 + 1) (wr.heap.size + 1) W0 hP0 hL0) Kept.trans (fun W l o o' hl _ _ _ => kept_put (by omega) (by omega)) (Below.refl _ _) (fun _ => rfl)
                (fun pre W' => RgI w4 W' Bm #[.int .i64 ((hN W : Nat) : Int), .int .i64 ((hN H : Nat) : Int), .slice (some ⟨g, 0, none⟩) (hN W * hN H * s) (hN W * hN H * s)] g (hN W * hN H * s) ds (nb (chs8 f) s W H bs (j * hN W + i) ++ List.replicate ((hN W * hN H - (j * hN W + i)) * s) 0) wr.heap.size (gnum s bs pre) ∧ Blk W' (wr.heap.size + 1 + 1) #[.int .i64 ((2 * i : Nat) : Int), .int .i64 ((2 * j : Nat) : Int), .int .i64 ((min 2 W : Nat) : Int), .int .i64 ((min 2 H : Nat) : Int)] 26 ∧ Blk W' (wr.heap.size + 1) #[.int .i64 (W : Int), .int .i64 (H : Int), .slice bo bs.length bcap] 48)
                (fun _ _ _ => False)
                (fun pre A B' row hs hg hr => ⟨⟨hs.1.nx.kept hg (fun r e => hr r e) h44 hDl, by
                  obtain ⟨ao, cap, h1, h2⟩ := hs.1.grp
                  exact ⟨ao, cap, blk_kept h1 hg (fun r e => (hr r e).2), own_kept h2 hg (fun r e => (hr r e).2)⟩⟩, blk_kept hs.2.1 hg (fun r e => (hr r e).2), blk_kept hs.2.2 hg (fun r e => (hr r e).2)⟩)
                (fun _ _ _ _ _ hs _ _ => hs)
                ⟨⟨hN0, none, 0, hG0, Own.nil _ _ _ _⟩, hP0, hL0⟩
              case hassign =>
                intro l x Wq K hK
                have HK := hide hK
                clear hK
                gi_wp2
                exact unhide HK
              case hbody =>
                rintro l pre x Wq hR hlt5
                obtain ⟨⟨hNx, ao, cap, hBg, hGo⟩, hPi, hLi⟩ := hR
                rw [gnum_len] at hBg hGo
                have hq := x.2
                have hqs : (x.1 + 1) * s ≤ bs.length := by
                  rw [unhide HLEN]
                  exact Nat.mul_le_mul_right _ hq
                have hLev := (unhide H3).2.1.ext hNx.ext
                have hSz := (unhide H3).2.2.2.1.ext hNx.ext
                have hSrc := (unhide HR).ext ((unhide H3).1.trans hNx.ext)
                have HCell : Hid (∀ wx, Calls Try.prog 28 #[.slice bo bs.length bcap, .int .i64 (x.1 : Int), .int .i64 (s : Int)] wx fun e w' => e = .returned (.slice (some ⟨b0, off0 + x.1 * s, none⟩) s (bcap - x.1 * s)) ∧ w' = wx) := fun wx => by
                  rw [unhide HBO]
                  exact cell_any b0 off0 bs.length bcap x.1 s wx (by omega) hs4 hqs hbc hbm2
                have hcl := cellL_len (s := s) (q := x.1) (xs := bs) hqs
                have HNum : Hid (Calls Try.prog 63 #[.slice (some ⟨b0, off0 + x.1 * s, none⟩) s (bcap - x.1 * s)] Wq.drew fun e w' => e = .returned (.int .u32 (numOf (cellL s bs x.1))) ∧ w' = Wq.drew) := by
                  have hs2 := hSrc
                  rw [unhide HBO] at hs2
                  obtain ⟨b9, o9, e9, hp9⟩ := hs2.part (x.1 * s) s (by omega) (by rw [Nat.succ_mul] at hqs; exact hqs)
                  cases e9
                  have h9 := number_any (some ⟨b0, off0 + x.1 * s, none⟩) (bcap - x.1 * s) (cellL s bs x.1) Wq.drew (by rw [hcl]; exact hp9.ext (ext_0 Wq)) ((unhide HB).cut _ _) (by omega)
                  rw [hcl] at h9
                  exact h9
                obtain ⟨iu, hiu, zu0, zu1, zu2⟩ := info_parts infoU
                have hlt6 : pre.length < 4 := by
                  have h9 : min 2 W * min 2 H ≤ 2 * 2 := Nat.mul_le_mul (by omega) (by omega)
                  omega
                have hszq := hNx.ext.size
                obtain ⟨ao8, cap8, w8, hrun8, ho8, hg8⟩ := app_one (P := Try.prog) (t := 87) (ty := 87) Try.underlying87 hiu zu0 zu1 zu2 (w := Wq.drew) (hGo.kept (ext_0 Wq)) (numOf (cellL s bs x.1)) (by exact hszq) (by rw [gnum_len]; unfold maxLen; omega) (by rw [gnum_len]; omega)
                rw [gnum_len] at hrun8 ho8
                have hrun9 : (Builtin.append_ #[87, 87] 87 #[.slice ao pre.length cap, .slice (some ⟨Wq.heap.size, 0, none⟩) 1 1]).run Try.prog (Wq.drew.alloc (.cells #[.int .u32 (numOf (cellL s bs x.1))] 88)) = .ok (.slice ao8 (pre.length + 1) cap8) w8 := hrun8
                have HRUN := hide hrun9
                have hx7 : Ext Wq (Wq.drew.alloc (.cells #[.int .u32 (numOf (cellL s bs x.1))] 88)) := (ext_0 Wq).alloc _
                -- what append turns
                have hGo7 := hGo.kept hx7
                have hne8 : ∀ {b : Nat} {cs : Array Value} {t : TypeId}, Blk Wq b cs t → t ≠ 88 → Blk w8 b cs t := fun {b cs t} hB ht => blk_by2 (hB.ext hx7) hGo7 ht hg8
                have hBg8 := hne8 hBg (by decide)
                have cg := hBg.cell (i := 0) rfl
                have cg7 : (Wq.alloc (.cells #[.int .u32 (numOf (cellL s bs x.1))] 88)).drew.cell? ⟨wr.heap.size, 0, none⟩ = some (.slice ao pre.length cap) := (hBg.ext hx7).cell (i := 0) rfl
                have cg8 := hBg8.cell (i := 0) rfl
                have fg8 := hBg8.free 0
                have hg9 := grownBy_set w8 wr.heap.size 0 (.slice ao8 (pre.length + 1) cap8)
                have hS0 : Wq.drew.cell? ⟨w.heap.size, 2, none⟩ = some (.slice bo bs.length bcap) ∧ Wq.drew.cell? ⟨Bs, 0, none⟩ = some (.int .i64 (s : Int)) := ⟨hLev.three.2.2, hSz.cell (i := 0) rfl⟩
                have hS7 := hide (And.intro (hLev.ext hx7).three.2.2 ((hSz.ext hx7).cell (i := 0) rfl))
                have hLev8 := hne8 hLev (by decide)
                have hSz8 := hne8 hSz (by decide)
                have hS8 := hide (And.intro hLev8.three.2.2 (hSz8.cell (i := 0) rfl))
                have hwl := hLev.lt
                have hneL : w.heap.size ≠ wr.heap.size := by
                  have := (unhide H3).2.1.lt
                  omega
                have hneS : Bs ≠ wr.heap.size := by
                  have := (unhide H3).2.2.2.1.lt
                  omega
                have hS9 := hide (And.intro (hLev8.other (r := wr.heap.size) 0 (.slice ao8 (pre.length + 1) cap8) hneL).three.2.2 ((hSz8.other (r := wr.heap.size) 0 (.slice ao8 (pre.length + 1) cap8) hneS).cell (i := 0) rfl))
                have hwrG : wr.heap.size < Wq.heap.size := hBg.lt
                have hNx0 := (unhide HI)
                have hBm := hNx0.sml.lt
                have hgl := (hNx0.own.lt g rfl).2
                have HFIN : Hid (KeepsOthers Wq (w8.setCell ⟨wr.heap.size, 0, none⟩ (.slice ao8 (pre.length + 1) cap8)) ∧ Kept (wr.heap.size + 1 + 1) (wr.heap.size + 1) Wq (w8.setCell ⟨wr.heap.size, 0, none⟩ (.slice ao8 (pre.length + 1) cap8)) ∧ RgI w4 (w8.setCell ⟨wr.heap.size, 0, none⟩ (.slice ao8 (pre.length + 1) cap8)) Bm #[.int .i64 ((hN W : Nat) : Int), .int .i64 ((hN H : Nat) : Int), .slice (some ⟨g, 0, none⟩) (hN W * hN H * s) (hN W * hN H * s)] g (hN W * hN H * s) ds (nb (chs8 f) s W H bs (j * hN W + i) ++ List.replicate ((hN W * hN H - (j * hN W + i)) * s) 0) wr.heap.size (gnum s bs (pre ++ [x])) ∧ Blk (w8.setCell ⟨wr.heap.size, 0, none⟩ (.slice ao8 (pre.length + 1) cap8)) (wr.heap.size + 1 + 1) #[.int .i64 ((2 * i : Nat) : Int), .int .i64 ((2 * j : Nat) : Int), .int .i64 ((min 2 W : Nat) : Int), .int .i64 ((min 2 H : Nat) : Int)] 26 ∧ Blk (w8.setCell ⟨wr.heap.size, 0, none⟩ (.slice ao8 (pre.length + 1) cap8)) (wr.heap.size + 1) #[.int .i64 (W : Int), .int .i64 (H : Int), .slice bo bs.length bcap] 48) := by
                  have hk8 : KeepsOthers Wq w8 := (keeps_ext hx7).trans (keeps_own hGo7 hg8)
                  have hk9 : KeepsOthers Wq (w8.setCell ⟨wr.heap.size, 0, none⟩ (.slice ao8 (pre.length + 1) cap8)) := hk8.trans (KeepsOthers.setCell _ _ _)
                  have hPi9 := (hne8 hPi (by decide)).other (r := wr.heap.size) 0 (.slice ao8 (pre.length + 1) cap8) (by omega)
                  have hLi9 := (hne8 hLi (by decide)).other (r := wr.heap.size) 0 (.slice ao8 (pre.length + 1) cap8) (by omega)
                  refine ⟨hk9, ⟨(show _ from hPi9).trans (show _ from hPi).symm, (show _ from hLi9).trans (show _ from hLi).symm⟩, ⟨⟨?_, ?_, ?_, hNx.nod, fun D hD9 => ⟨(hNx.mrk D hD9).1, hk9.same D _ (hNx.mrk D hD9).2 rfl⟩⟩, ao8, cap8, ?_, ?_⟩, hPi9, hLi9⟩
                  · have h8 : Ext w4 w8 := (hNx.ext.trans hx7).grown hg8 (hNx.ext.trans hx7).size (fun r e => (hGo7.lt r e).1)
                    exact below_grown h8 hg9 h8.size (by omega)
                  · exact (hne8 hNx.sml (by decide)).other (r := wr.heap.size) 0 (.slice ao8 (pre.length + 1) cap8) (by omega)
                  · exact (own_by2 (hNx.own.kept hx7) hGo7 (by decide) hg8).grown hg9 (fun b hb e => by simp [Value.ownBlock] at hb; omega)
                  · rw [gnum_len, List.length_append]
                    have := hBg8.set 0 (.slice ao8 (pre.length + 1) cap8)
                    simpa using this
                  · rw [gnum_snoc, List.length_append, gnum_len]
                    exact ho8.grown hg9 (fun b hb => own_neT ho8 hBg8 (by decide) b hb)
                gi_wp2
                refine region_in (S := fun w' => w'.cell? ⟨w.heap.size, 2, none⟩ = some (.slice bo bs.length bcap) ∧ w'.cell? ⟨Bs, 0, none⟩ = some (.int .i64 (s : Int))) (by kernel_rfl) (by kernel_rfl) (by rintro ⟨_, _, h⟩; exact h) hS0 (fun hHeld => ?_)
                refine wpAnyH_take (i := 1) (v := .pointer (some ⟨w.heap.size, 2, none⟩)) rfl (by kernel_rfl) (by kernel_rfl) (by kernel_rfl) (fun _ _ _ h => h) (Or.inl ⟨by rfl, fun _ _ => rfl⟩) hHeld ?_
                refine wpAnyH_take (i := 2) (v := .slice bo bs.length bcap) rfl (by kernel_rfl) (by kernel_rfl) (by kernel_rfl) (fun _ _ _ h => h) (Or.inl ⟨by rfl, fun w9 h9 => by (have h91 := h9.1; go_simp)⟩) hHeld ?_
                refine wpAnyH_take (i := 3) (v := .int .i64 (x.1 : Int)) rfl (by kernel_rfl) (by kernel_rfl) (by kernel_rfl) (fun _ _ _ h => h) (Or.inl ⟨by rfl, fun _ _ => rfl⟩) hHeld ?_
                refine wpAnyH_take (i := 4) (v := .int .i64 (s : Int)) rfl (by kernel_rfl) (by kernel_rfl) (by kernel_rfl) (fun _ _ _ h => h) (Or.inl ⟨by rfl, fun w9 h9 => by (have h91 := h9.2; go_simp)⟩) hHeld ?_
                refine wpAnyH_ready (rs := [0, 5]) (by kernel_rfl) (by simp) (AllReadyH.cons rfl (fun K hK => ?_) (AllReadyH.cons rfl (fun K hK => ?_) AllReadyH.nil))
                ·
                  go_simp
                  refine hK.out _ _ hHeld (fun _ => ?_)
                  clear hK K
                  refine wpAnyH_ready (rs := [5]) (by kernel_rfl) (by simp) (AllReadyH.cons rfl (fun K hK => ?_) AllReadyH.nil)
                  go_simp
                  refine (unhide HCell _).mono ?_
                  rintro e w5 ⟨rfl, rfl⟩
                  refine hK.out _ _ hHeld (fun _ => ?_)
                  clear hK K
                  refine wpAnyH_ready (rs := [6]) (by kernel_rfl) (by simp) (AllReadyH.cons rfl (fun K hK => ?_) AllReadyH.nil)
                  go_simp
                  refine (unhide HNum).mono ?_
                  rintro e w6 ⟨rfl, rfl⟩
                  refine hK.out _ _ hHeld (fun _ => ?_)
                  clear hK K
                  refine wpAnyH_ready (rs := [7]) (by kernel_rfl) (by simp) (AllReadyH.cons rfl (fun K hK => ?_) AllReadyH.nil)
                  go_simp
                  refine hK.out _ _ (unhide hS7) (fun _ => ?_)
                  clear hK K
                  refine wpAnyH_ready (rs := [8]) (by kernel_rfl) (by simp) (AllReadyH.cons rfl (fun K hK => ?_) AllReadyH.nil)
                  refine step_run (by rfl) (.tmp 48) (.tmp 55) 87 (by rfl) (by rfl) (by rfl) (unhide HRUN) ?_
                  refine hK.out _ _ (unhide hS8) (fun _ => ?_)
                  clear hK K
                  refine wpAnyH_ready (rs := [9]) (by kernel_rfl) (by simp) (AllReadyH.cons rfl (fun K hK => ?_) AllReadyH.nil)
                  go_simp
                  refine hK.out _ _ (unhide hS9) (fun _ => ?_)
                  clear hK K
                  exact wpAnyH_done (by kernel_rfl) (unhide HFIN) _
                ·
                  go_simp
                  refine (unhide HCell _).mono ?_
                  rintro e w5 ⟨rfl, rfl⟩
                  refine hK.out _ _ hHeld (fun _ => ?_)
                  clear hK K
                  refine wpAnyH_ready (rs := [0, 6]) (by kernel_rfl) (by simp) (AllReadyH.cons rfl (fun K hK => ?_) (AllReadyH.cons rfl (fun K hK => ?_) AllReadyH.nil))
                  ·
                    go_simp
                    refine hK.out _ _ hHeld (fun _ => ?_)
                    clear hK K
                    refine wpAnyH_ready (rs := [6]) (by kernel_rfl) (by simp) (AllReadyH.cons rfl (fun K hK => ?_) AllReadyH.nil)
                    go_simp
                    refine (unhide HNum).mono ?_
                    rintro e w6 ⟨rfl, rfl⟩
                    refine hK.out _ _ hHeld (fun _ => ?_)
                    clear hK K
                    refine wpAnyH_ready (rs := [7]) (by kernel_rfl) (by simp) (AllReadyH.cons rfl (fun K hK => ?_) AllReadyH.nil)
                    go_simp
                    refine hK.out _ _ (unhide hS7) (fun _ => ?_)
                    clear hK K
                    refine wpAnyH_ready (rs := [8]) (by kernel_rfl) (by simp) (AllReadyH.cons rfl (fun K hK => ?_) AllReadyH.nil)
                    refine step_run (by rfl) (.tmp 48) (.tmp 55) 87 (by rfl) (by rfl) (by rfl) (unhide HRUN) ?_
                    refine hK.out _ _ (unhide hS8) (fun _ => ?_)
                    clear hK K
                    refine wpAnyH_ready (rs := [9]) (by kernel_rfl) (by simp) (AllReadyH.cons rfl (fun K hK => ?_) AllReadyH.nil)
                    go_simp
                    refine hK.out _ _ (unhide hS9) (fun _ => ?_)
                    clear hK K
                    exact wpAnyH_done (by kernel_rfl) (unhide HFIN) _
                  ·
                    go_simp
                    refine (unhide HNum).mono ?_
                    rintro e w6 ⟨rfl, rfl⟩
                    refine hK.out _ _ hHeld (fun _ => ?_)
                    clear hK K
                    refine wpAnyH_ready (rs := [0, 7]) (by kernel_rfl) (by simp) (AllReadyH.cons rfl (fun K hK => ?_) (AllReadyH.cons rfl (fun K hK => ?_) AllReadyH.nil))
                    ·
                      go_simp
                      refine hK.out _ _ hHeld (fun _ => ?_)
                      clear hK K
                      refine wpAnyH_ready (rs := [7]) (by kernel_rfl) (by simp) (AllReadyH.cons rfl (fun K hK => ?_) AllReadyH.nil)
                      go_simp
                      refine hK.out _ _ (unhide hS7) (fun _ => ?_)
                      clear hK K
                      refine wpAnyH_ready (rs := [8]) (by kernel_rfl) (by simp) (AllReadyH.cons rfl (fun K hK => ?_) AllReadyH.nil)
                      refine step_run (by rfl) (.tmp 48) (.tmp 55) 87 (by rfl) (by rfl) (by rfl) (unhide HRUN) ?_
                      refine hK.out _ _ (unhide hS8) (fun _ => ?_)
                      clear hK K
                      refine wpAnyH_ready (rs := [9]) (by kernel_rfl) (by simp) (AllReadyH.cons rfl (fun K hK => ?_) AllReadyH.nil)
                      go_simp
                      refine hK.out _ _ (unhide hS9) (fun _ => ?_)
                      clear hK K
                      exact wpAnyH_done (by kernel_rfl) (unhide HFIN) _
                    ·
                      go_simp
                      refine hK.out _ _ (unhide hS7) (fun _ => ?_)
                      clear hK K
                      refine wpAnyH_ready (rs := [0]) (by kernel_rfl) (by simp) (AllReadyH.cons rfl (fun K hK => ?_) AllReadyH.nil)
                      go_simp
                      refine hK.out _ _ (unhide hS7) (fun _ => ?_)
                      clear hK K
                      refine wpAnyH_ready (rs := [8]) (by kernel_rfl) (by simp) (AllReadyH.cons rfl (fun K hK => ?_) AllReadyH.nil)
                      refine step_run (by rfl) (.tmp 48) (.tmp 55) 87 (by rfl) (by rfl) (by rfl) (unhide HRUN) ?_
                      refine hK.out _ _ (unhide hS8) (fun _ => ?_)
                      clear hK K
                      refine wpAnyH_ready (rs := [9]) (by kernel_rfl) (by simp) (AllReadyH.cons rfl (fun K hK => ?_) AllReadyH.nil)
                      go_simp
                      refine hK.out _ _ (unhide hS9) (fun _ => ?_)
                      clear hK K
                      exact wpAnyH_done (by kernel_rfl) (unhide HFIN) _
              case hdone =>
                rintro D ys Wd hD hys hI9 hK
                obtain ⟨⟨hNx, ao, cap, hBg, hGo⟩, hPi, hLi⟩ := hI9
                have hk : j * hN W + i < hN W * hN H := by
                  have h1 : (j + 1) * hN W ≤ hN H * hN W := Nat.mul_le_mul_right _ (by omega)
                  rw [Nat.succ_mul, Nat.mul_comm (hN H)] at h1
                  omega
                have hgg := gnum_grp (s := s) (bs := bs) hys
                rw [hgg] at hBg hGo
                have hGl : ((grp s W H bs i j).map numOf).length = min 2 W * min 2 H := by rw [List.length_map, grp_len]
                have hG4 : ((grp s W H bs i j).map numOf).length ≤ 4 := by
                  have h9 : min 2 W * min 2 H ≤ 2 * 2 := Nat.mul_le_mul (by omega) (by omega)
                  omega
                have hG1 : 1 ≤ ((grp s W H bs i j).map numOf).length := by
                  rw [hGl]
                  exact Nat.mul_pos (by omega) (by omega)
                have hGb : ∀ y ∈ (grp s W H bs i j).map numOf, 0 ≤ y ∧ y < 4294967296 := fun y hy => by
                  obtain ⟨c, hc, rfl⟩ := List.mem_map.1 hy
                  unfold grp at hc
                  obtain ⟨q, _, rfl⟩ := List.mem_map.1 hc
                  have h9 := numOf_le _ ((unhide HB).cut (pq W (2 * i) (2 * j) (min 2 W) q * s) s) 4 (by simp; omega)
                  exact h9
                obtain ⟨kk1, kk2, kk3⟩ := unhide HKS
                have hmn := meanN_lt (chs8 f) ((grp s W H bs i j).map numOf) hG1
                rw [kk1] at hmn
                have hp32 := pow8s hs4
                obtain ⟨ix1, ix2⟩ := idx_at (j := j) hlt3
                have hnb : nb (chs8 f) s W H bs (j * hN W + i + 1) = nb (chs8 f) s W H bs (j * hN W + i) ++ low (meanN (chs8 f) 0 ((grp s W H bs i j).map numOf)) s := by
                  rw [nb, ix1, ix2]
                  rfl
                have hLev := (unhide H3).2.1.ext hNx.ext
                have hSz := (unhide H3).2.2.2.1.ext hNx.ext
                have hKr := (unhide H3).2.2.2.2.ext hNx.ext
                have hks9 : (j * hN W + i) * s + s ≤ hN W * hN H * s := by
                  rw [← Nat.succ_mul]
                  exact Nat.mul_le_mul_right _ hk
                have e9 : (j : Int) * ((hN W : Nat) : Int) + (i : Int) = ((j * hN W + i : Nat) : Int) := by simp
                have m9 : j * hN W ≤ 64 * 64 := Nat.mul_le_mul (by omega) hhW
                have e8 : (j : Int) * ((hN W : Nat) : Int) = ((j * hN W : Nat) : Int) := by simp
                have z1 : (j : Int) * ((hN W : Nat) : Int) ≤ 4096 := by omega
                have z0 : 0 ≤ (j : Int) * ((hN W : Nat) : Int) := by omega
                have zw : IntKind.i64.wrap ((j : Int) * ((hN W : Nat) : Int)) = (j : Int) * ((hN W : Nat) : Int) := wrap_id (by omega) (by omega)
                have zw2 : IntKind.i64.wrap ((j : Int) * ((hN W : Nat) : Int) + (i : Int)) = (j : Int) * ((hN W : Nat) : Int) + (i : Int) := wrap_id (by omega) (by omega)
                have HCell : Hid (∀ wx, Calls Try.prog 28 #[.slice (some ⟨g, 0, none⟩) (hN W * hN H * s) (hN W * hN H * s), .int .i64 ((j : Int) * ((hN W : Nat) : Int) + (i : Int)), .int .i64 (s : Int)] wx fun e w' => e = .returned (.slice (some ⟨g, (j * hN W + i) * s, none⟩) s (hN W * hN H * s - (j * hN W + i) * s)) ∧ w' = wx) := fun wx => by
                  have h9 : hN W * hN H ≤ 64 * 64 := Nat.mul_le_mul hhW hhH
                  have h8 : hN W * hN H * s ≤ 4096 * 4 := Nat.mul_le_mul h9 hs4
                  have h7 := cell_any g 0 (hN W * hN H * s) (hN W * hN H * s) (j * hN W + i) s wx (by omega) hs4 (Nat.mul_le_mul_right _ hk) (Nat.le_refl _) (by omega)
                  rw [Nat.zero_add] at h7
                  rw [e9]
                  exact h7
                have HMean : Hid (∀ wx, Ext Wd wx → Calls Try.prog 65 #[.slice ao ((grp s W H bs i j).map numOf).length cap, .slice (some ⟨kb, 0, none⟩) (chs8 f).length (chs8 f).length] wx fun e w' => e = .returned (.int .u32 (meanN (chs8 f) 0 ((grp s W H bs i j).map numOf))) ∧ Ext wx w') := fun wx hx =>
                  mean_any _ (chs8 f) ao cap _ wx (hGo.row.ext hx) (hKr.ext hx) hG1 hG4 hGb kk3 (by omega) kk2
                have hmul : hN W * hN H - (j * hN W + i) = (hN W * hN H - (j * hN W + i + 1)) + 1 := by omega
                have HLay : Hid (∀ wx, Ext Wd wx → Calls Try.prog 64 #[.slice (some ⟨g, (j * hN W + i) * s, none⟩) s (hN W * hN H * s - (j * hN W + i) * s), .int .u32 (meanN (chs8 f) 0 ((grp s W H bs i j).map numOf))] wx fun e w' => e = .returned (.tuple #[]) ∧
                    NxI w4 w' Bm #[.int .i64 ((hN W : Nat) : Int), .int .i64 ((hN H : Nat) : Int), .slice (some ⟨g, 0, none⟩) (hN W * hN H * s) (hN W * hN H * s)] g (hN W * hN H * s) (D :: ds) (nb (chs8 f) s W H bs (j * hN W + i + 1) ++ List.replicate ((hN W * hN H - (j * hN W + i + 1)) * s) 0) ∧
                    w'.cell? ⟨Bm, 2, none⟩ = some (.slice (some ⟨g, 0, none⟩) (hN W * hN H * s) (hN W * hN H * s)) ∧ w'.cell? ⟨Bm, 0, none⟩ = some (.int .i64 ((hN W : Nat) : Int)) ∧ w'.cell? ⟨Bs, 0, none⟩ = some (.int .i64 (s : Int)) ∧ w'.cell? ⟨wr.heap.size, 0, none⟩ = some (.slice ao ((grp s W H bs i j).map numOf).length cap)) := fun wx hx => by
                  have hNy := hNx.exts hx
                  have hBg9 := hBg.ext hx
                  have hSz9 := hSz.ext hx
                  have hxl : (nb (chs8 f) s W H bs (j * hN W + i) ++ List.replicate ((hN W * hN H - (j * hN W + i)) * s) 0).length = hN W * hN H * s := by
                    rw [List.length_append, nb_len, List.length_replicate, ← Nat.add_mul]
                    congr 1
                    omega
                  refine (lay_any hNy.own ((j * hN W + i) * s) s (hN W * hN H * s - (j * hN W + i) * s) hs4 (by rw [hxl]; exact hks9) _ hmn.1 (by omega)).mono ?_
                  rintro e w' ⟨rfl, ho9, hg9⟩
                  have hB9 : ∀ {b : Nat} {cs : Array Value} {t : TypeId}, Blk wx b cs t → t ≠ 5 → Blk w' b cs t := fun {b cs t} hB ht => hB.grown hg9 (blk_neU hB ht hNy.own)
                  have hsm9 := hB9 hNy.sml (by decide)
                  have e7 : layB (nb (chs8 f) s W H bs (j * hN W + i) ++ List.replicate ((hN W * hN H - (j * hN W + i)) * s) 0) ((j * hN W + i) * s) (low (meanN (chs8 f) 0 ((grp s W H bs i j).map numOf)) s) = nb (chs8 f) s W H bs (j * hN W + i + 1) ++ List.replicate ((hN W * hN H - (j * hN W + i + 1)) * s) 0 := by
                    have h1 := lay_nb (nb (chs8 f) s W H bs (j * hN W + i)) (low (meanN (chs8 f) 0 ((grp s W H bs i j).map numOf)) s) ((hN W * hN H - (j * hN W + i)) * s)
                    rw [nb_len, low_length] at h1
                    rw [h1, hnb]
                    congr 2
                    rw [hmul, Nat.succ_mul]
                    omega
                  rw [e7] at ho9
                  have hkp := keeps_own hNy.own hg9
                  have hD9 : wx.heap[D]? = some (.deferred (some [])) := (hx.block D (Array.getElem?_eq_some_iff.1 hK).1).trans hK
                  refine ⟨rfl, ⟨below_grown hNy.ext hg9 hNy.ext.size (hNy.own.lt g rfl).1, hsm9, ho9, List.nodup_cons.2 ⟨fun hm => by have := hDl D hm; omega, hNy.nod⟩, fun D' hD' => ?_⟩, hsm9.three.2.2, hsm9.three.1, (hB9 hSz9 (by decide)).cell (i := 0) rfl, (hB9 hBg9 (by decide)).cell (i := 0) rfl⟩
                  rcases List.mem_cons.1 hD' with rfl | h8
                  · exact ⟨by omega, hkp.same D' _ hD9 rfl⟩
                  · exact ⟨(hNy.mrk D' h8).1, hkp.same D' _ (hNy.mrk D' h8).2 rfl⟩
                have HS9 : Hid (∀ wx, Ext Wd wx → wx.cell? ⟨Bm, 2, none⟩ = some (.slice (some ⟨g, 0, none⟩) (hN W * hN H * s) (hN W * hN H * s)) ∧ wx.cell? ⟨Bm, 0, none⟩ = some (.int .i64 ((hN W : Nat) : Int)) ∧ wx.cell? ⟨Bs, 0, none⟩ = some (.int .i64 (s : Int)) ∧ wx.cell? ⟨wr.heap.size, 0, none⟩ = some (.slice ao ((grp s W H bs i j).map numOf).length cap)) := fun wx hx =>
                  ⟨(hNx.sml.ext hx).three.2.2, (hNx.sml.ext hx).three.1, (hSz.ext hx).cell (i := 0) rfl, (hBg.ext hx).cell (i := 0) rfl⟩
                generalize ((grp s W H bs i j).map numOf).length = gl at *
                generalize meanN (chs8 f) 0 ((grp s W H bs i j).map numOf) = mn at *
                clear hLev hSz hKr hBg hGo hPi hLi hNx hgg hGl hG4 hG1 hGb kk1 kk2 kk3 hmn hp32 ix1 ix2 hnb hys hK e9 e8 m9 hP0 hL0 hG0 hN0 hX0 hP1 hL1
                go_wp2_with fail
                go_region_held3 (fun w' => w'.cell? ⟨Bm, 2, none⟩ = some (.slice (some ⟨g, 0, none⟩) (hN W * hN H * s) (hN W * hN H * s)) ∧ w'.cell? ⟨Bm, 0, none⟩ = some (.int .i64 ((hN W : Nat) : Int)) ∧ w'.cell? ⟨Bs, 0, none⟩ = some (.int .i64 (s : Int)) ∧ w'.cell? ⟨wr.heap.size, 0, none⟩ = some (.slice ao gl cap))
                  (first | with_reducible exact hs9 | with_reducible exact unhide HS9 _ bx | with_reducible exact unhide HS9 _ (ext_0 Wd))
                  (first
                    | (go_at_call 28; refine (unhide HCell _).mono ?_; rintro e wz ⟨rfl, rfl⟩)
                    | (go_at_call 65; refine (unhide HMean _ (ext_0 Wd)).mono ?_; rintro e wm ⟨rfl, hxm⟩; have bx : Ext Wd wm := (ext_0 Wd).trans hxm; clear hxm)
                    | (go_at_call 64; refine (unhide HLay _ bx).mono ?_; rintro e wl ⟨rfl, hnx9, hs9⟩; have HNX := hide hnx9; clear hnx9))
                all_goals
                  go_wp2
                  refine ⟨⟨D :: ds, i + 1, rfl, by simp, by omega, ?_⟩, ?_⟩
                  · exact unhide HNX
                  · simp [intOf]
                    omega
              case hstop =>
                rintro D c pre Wq _ _ h _
                exact h.elim
            ·
              go_wp2_with (first | (go_at_call 27; refine (places_any (W : Int) (H : Int) (2 * (i : Int)) (2 * (j : Int)) (2 : Int) (2 : Int) bo bs.length bcap _).mono ?_; rintro e wp ⟨rfl, rfl⟩))
              clear sm0 sm1 sm2 l0 l1 l2
              have hG0 : Blk (((wr.alloc (.cells #[.slice none 0 0] 87)).alloc (.cells #[.int .i64 (W : Int), .int .i64 (H : Int), .slice bo bs.length bcap] 48)).alloc (.cells #[.int .i64 (2 * (i : Int)), .int .i64 (2 * (j : Int)), .int .i64 (2 : Int), .int .i64 (2 : Int)] 26)) wr.heap.size #[.slice none 0 0] 87 := ((Blk.new _ _ _).alloc _).alloc _
              have hL0 : Blk (((wr.alloc (.cells #[.slice none 0 0] 87)).alloc (.cells #[.int .i64 (W : Int), .int .i64 (H : Int), .slice bo bs.length bcap] 48)).alloc (.cells #[.int .i64 (2 * (i : Int)), .int .i64 (2 * (j : Int)), .int .i64 (2 : Int), .int .i64 (2 : Int)] 26)) (wr.heap.size + 1) #[.int .i64 (W : Int), .int .i64 (H : Int), .slice bo bs.length bcap] 48 := (Blk.at (by simp)).alloc _
              have hP0 : Blk (((wr.alloc (.cells #[.slice none 0 0] 87)).alloc (.cells #[.int .i64 (W : Int), .int .i64 (H : Int), .slice bo bs.length bcap] 48)).alloc (.cells #[.int .i64 (2 * (i : Int)), .int .i64 (2 * (j : Int)), .int .i64 (2 : Int), .int .i64 (2 : Int)] 26)) (wr.heap.size + 1 + 1) #[.int .i64 (2 * (i : Int)), .int .i64 (2 * (j : Int)), .int .i64 (2 : Int), .int .i64 (2 : Int)] 26 := Blk.at (by simp)
              have hX0 := (((Ext.refl wr).alloc (.cells #[.slice none 0 0] 87)).alloc (.cells #[.int .i64 (W : Int), .int .i64 (H : Int), .slice bo bs.length bcap] 48)).alloc (.cells #[.int .i64 (2 * (i : Int)), .int .i64 (2 * (j : Int)), .int .i64 (2 : Int), .int .i64 (2 : Int)] 26)
              generalize (((wr.alloc (.cells #[.slice none 0 0] 87)).alloc (.cells #[.int .i64 (W : Int), .int .i64 (H : Int), .slice bo bs.length bcap] 48)).alloc (.cells #[.int .i64 (2 * (i : Int)), .int .i64 (2 * (j : Int)), .int .i64 (2 : Int), .int .i64 (2 : Int)] 26)) = W0 at hG0 hL0 hP0 hX0 ⊢
              have eP : (#[.int .i64 (2 * (i : Int)), .int .i64 (2 * (j : Int)), .int .i64 (2 : Int), .int .i64 (2 : Int)] : Array Value) = #[.int .i64 ((2 * i : Nat) : Int), .int .i64 ((2 * j : Nat) : Int), .int .i64 ((min 2 W : Nat) : Int), .int .i64 ((min 2 H : Nat) : Int)] := by
                have e1 : ((2 * i : Nat) : Int) = 2 * (i : Int) := by omega
                have e2 : ((2 * j : Nat) : Int) = 2 * (j : Int) := by omega
                have e3 : ((min 2 W : Nat) : Int) = (2 : Int) := by omega
                have e4 : ((min 2 H : Nat) : Int) = (2 : Int) := by omega
                rw [e1, e2, e3, e4]
              rw [eP] at hP0
              clear eP
              have hN0 := (unhide HI).exts hX0
              have hDl := hN0.lt
              have hG1 := hG0.lt
              have hL1 := hL0.lt
              have hP1 := hP0.lt
              have h44 := hN0.ext.size
              have hwr4 := (unhide HI).ext.size
              have hxx : 2 * i + min 2 W ≤ W := by
                unfold hN at hlt3
                omega
              have hyy : 2 * j + min 2 H ≤ H := by
                unfold hN at hlt
                omega
              refine (wpIn_wide (n := 9)).1 ?_
              apply wpIn_rangeFunc_ownF (α := Plc (W * H)) rfl (by omega) (gf := 51) (lb := #[.pointer (some ⟨wr.heap.size + 1 + 1, 0, none⟩), .pointer (some ⟨wr.heap.size + 1, 0, none⟩)]) rfl trivial (enters_of Try.func51 (by kernel_rfl) rfl)
                (iter_stops (9 - 1) (by omega) W H (2 * i) (2 * j) (min 2 W) (min 2 H) hW hH hxx hyy _ (wr.heap.size + 1 + 1) (wr.heap.size + 1) W0 hP0 hL0) Kept.trans (fun W l o o' hl _ _ _ => kept_put (by omega) (by omega)) (Below.refl _ _) (fun _ => rfl)
                (fun pre W' => RgI w4 W' Bm #[.int .i64 ((hN W : Nat) : Int), .int .i64 ((hN H : Nat) : Int), .slice (some ⟨g, 0, none⟩) (hN W * hN H * s) (hN W * hN H * s)] g (hN W * hN H * s) ds (nb (chs8 f) s W H bs (j * hN W + i) ++ List.replicate ((hN W * hN H - (j * hN W + i)) * s) 0) wr.heap.size (gnum s bs pre) ∧ Blk W' (wr.heap.size + 1 + 1) #[.int .i64 ((2 * i : Nat) : Int), .int .i64 ((2 * j : Nat) : Int), .int .i64 ((min 2 W : Nat) : Int), .int .i64 ((min 2 H : Nat) : Int)] 26 ∧ Blk W' (wr.heap.size + 1) #[.int .i64 (W : Int), .int .i64 (H : Int), .slice bo bs.length bcap] 48)
                (fun _ _ _ => False)
                (fun pre A B' row hs hg hr => ⟨⟨hs.1.nx.kept hg (fun r e => hr r e) h44 hDl, by
                  obtain ⟨ao, cap, h1, h2⟩ := hs.1.grp
                  exact ⟨ao, cap, blk_kept h1 hg (fun r e => (hr r e).2), own_kept h2 hg (fun r e => (hr r e).2)⟩⟩, blk_kept hs.2.1 hg (fun r e => (hr r e).2), blk_kept hs.2.2 hg (fun r e => (hr r e).2)⟩)
                (fun _ _ _ _ _ hs _ _ => hs)
                ⟨⟨hN0, none, 0, hG0, Own.nil _ _ _ _⟩, hP0, hL0⟩
              case hassign =>
                intro l x Wq K hK
                have HK := hide hK
                clear hK
                gi_wp2
                exact unhide HK
              case hbody =>
                rintro l pre x Wq hR hlt5
                obtain ⟨⟨hNx, ao, cap, hBg, hGo⟩, hPi, hLi⟩ := hR
                rw [gnum_len] at hBg hGo
                have hq := x.2
                have hqs : (x.1 + 1) * s ≤ bs.length := by
                  rw [unhide HLEN]
                  exact Nat.mul_le_mul_right _ hq
                have hLev := (unhide H3).2.1.ext hNx.ext
                have hSz := (unhide H3).2.2.2.1.ext hNx.ext
                have hSrc := (unhide HR).ext ((unhide H3).1.trans hNx.ext)
                have HCell : Hid (∀ wx, Calls Try.prog 28 #[.slice bo bs.length bcap, .int .i64 (x.1 : Int), .int .i64 (s : Int)] wx fun e w' => e = .returned (.slice (some ⟨b0, off0 + x.1 * s, none⟩) s (bcap - x.1 * s)) ∧ w' = wx) := fun wx => by
                  rw [unhide HBO]
                  exact cell_any b0 off0 bs.length bcap x.1 s wx (by omega) hs4 hqs hbc hbm2
                have hcl := cellL_len (s := s) (q := x.1) (xs := bs) hqs
                have HNum : Hid (Calls Try.prog 63 #[.slice (some ⟨b0, off0 + x.1 * s, none⟩) s (bcap - x.1 * s)] Wq.drew fun e w' => e = .returned (.int .u32 (numOf (cellL s bs x.1))) ∧ w' = Wq.drew) := by
                  have hs2 := hSrc
                  rw [unhide HBO] at hs2
                  obtain ⟨b9, o9, e9, hp9⟩ := hs2.part (x.1 * s) s (by omega) (by rw [Nat.succ_mul] at hqs; exact hqs)
                  cases e9
                  have h9 := number_any (some ⟨b0, off0 + x.1 * s, none⟩) (bcap - x.1 * s) (cellL s bs x.1) Wq.drew (by rw [hcl]; exact hp9.ext (ext_0 Wq)) ((unhide HB).cut _ _) (by omega)
                  rw [hcl] at h9
                  exact h9
                obtain ⟨iu, hiu, zu0, zu1, zu2⟩ := info_parts infoU
                have hlt6 : pre.length < 4 := by
                  have h9 : min 2 W * min 2 H ≤ 2 * 2 := Nat.mul_le_mul (by omega) (by omega)
                  omega
                have hszq := hNx.ext.size
                obtain ⟨ao8, cap8, w8, hrun8, ho8, hg8⟩ := app_one (P := Try.prog) (t := 87) (ty := 87) Try.underlying87 hiu zu0 zu1 zu2 (w := Wq.drew) (hGo.kept (ext_0 Wq)) (numOf (cellL s bs x.1)) (by exact hszq) (by rw [gnum_len]; unfold maxLen; omega) (by rw [gnum_len]; omega)
                rw [gnum_len] at hrun8 ho8
                have hrun9 : (Builtin.append_ #[87, 87] 87 #[.slice ao pre.length cap, .slice (some ⟨Wq.heap.size, 0, none⟩) 1 1]).run Try.prog (Wq.drew.alloc (.cells #[.int .u32 (numOf (cellL s bs x.1))] 88)) = .ok (.slice ao8 (pre.length + 1) cap8) w8 := hrun8
                have HRUN := hide hrun9
                have hx7 : Ext Wq (Wq.drew.alloc (.cells #[.int .u32 (numOf (cellL s bs x.1))] 88)) := (ext_0 Wq).alloc _
                -- what append turns
                have hGo7 := hGo.kept hx7
                have hne8 : ∀ {b : Nat} {cs : Array Value} {t : TypeId}, Blk Wq b cs t → t ≠ 88 → Blk w8 b cs t := fun {b cs t} hB ht => blk_by2 (hB.ext hx7) hGo7 ht hg8
                have hBg8 := hne8 hBg (by decide)
                have cg := hBg.cell (i := 0) rfl
                have cg7 : (Wq.alloc (.cells #[.int .u32 (numOf (cellL s bs x.1))] 88)).drew.cell? ⟨wr.heap.size, 0, none⟩ = some (.slice ao pre.length cap) := (hBg.ext hx7).cell (i := 0) rfl
                have cg8 := hBg8.cell (i := 0) rfl
                have fg8 := hBg8.free 0
                have hg9 := grownBy_set w8 wr.heap.size 0 (.slice ao8 (pre.length + 1) cap8)
                have hS0 : Wq.drew.cell? ⟨w.heap.size, 2, none⟩ = some (.slice bo bs.length bcap) ∧ Wq.drew.cell? ⟨Bs, 0, none⟩ = some (.int .i64 (s : Int)) := ⟨hLev.three.2.2, hSz.cell (i := 0) rfl⟩
                have hS7 := hide (And.intro (hLev.ext hx7).three.2.2 ((hSz.ext hx7).cell (i := 0) rfl))
                have hLev8 := hne8 hLev (by decide)
                have hSz8 := hne8 hSz (by decide)
                have hS8 := hide (And.intro hLev8.three.2.2 (hSz8.cell (i := 0) rfl))
                have hwl := hLev.lt
                have hneL : w.heap.size ≠ wr.heap.size := by
                  have := (unhide H3).2.1.lt
                  omega
                have hneS : Bs ≠ wr.heap.size := by
                  have := (unhide H3).2.2.2.1.lt
                  omega
                have hS9 := hide (And.intro (hLev8.other (r := wr.heap.size) 0 (.slice ao8 (pre.length + 1) cap8) hneL).three.2.2 ((hSz8.other (r := wr.heap.size) 0 (.slice ao8 (pre.length + 1) cap8) hneS).cell (i := 0) rfl))
                have hwrG : wr.heap.size < Wq.heap.size := hBg.lt
                have hNx0 := (unhide HI)
                have hBm := hNx0.sml.lt
                have hgl := (hNx0.own.lt g rfl).2
                have HFIN : Hid (KeepsOthers Wq (w8.setCell ⟨wr.heap.size, 0, none⟩ (.slice ao8 (pre.length + 1) cap8)) ∧ Kept (wr.heap.size + 1 + 1) (wr.heap.size + 1) Wq (w8.setCell ⟨wr.heap.size, 0, none⟩ (.slice ao8 (pre.length + 1) cap8)) ∧ RgI w4 (w8.setCell ⟨wr.heap.size, 0, none⟩ (.slice ao8 (pre.length + 1) cap8)) Bm #[.int .i64 ((hN W : Nat) : Int), .int .i64 ((hN H : Nat) : Int), .slice (some ⟨g, 0, none⟩) (hN W * hN H * s) (hN W * hN H * s)] g (hN W * hN H * s) ds (nb (chs8 f) s W H bs (j * hN W + i) ++ List.replicate ((hN W * hN H - (j * hN W + i)) * s) 0) wr.heap.size (gnum s bs (pre ++ [x])) ∧ Blk (w8.setCell ⟨wr.heap.size, 0, none⟩ (.slice ao8 (pre.length + 1) cap8)) (wr.heap.size + 1 + 1) #[.int .i64 ((2 * i : Nat) : Int), .int .i64 ((2 * j : Nat) : Int), .int .i64 ((min 2 W : Nat) : Int), .int .i64 ((min 2 H : Nat) : Int)] 26 ∧ Blk (w8.setCell ⟨wr.heap.size, 0, none⟩ (.slice ao8 (pre.length + 1) cap8)) (wr.heap.size + 1) #[.int .i64 (W : Int), .int .i64 (H : Int), .slice bo bs.length bcap] 48) := by
                  have hk8 : KeepsOthers Wq w8 := (keeps_ext hx7).trans (keeps_own hGo7 hg8)
                  have hk9 : KeepsOthers Wq (w8.setCell ⟨wr.heap.size, 0, none⟩ (.slice ao8 (pre.length + 1) cap8)) := hk8.trans (KeepsOthers.setCell _ _ _)
                  have hPi9 := (hne8 hPi (by decide)).other (r := wr.heap.size) 0 (.slice ao8 (pre.length + 1) cap8) (by omega)
                  have hLi9 := (hne8 hLi (by decide)).other (r := wr.heap.size) 0 (.slice ao8 (pre.length + 1) cap8) (by omega)
                  refine ⟨hk9, ⟨(show _ from hPi9).trans (show _ from hPi).symm, (show _ from hLi9).trans (show _ from hLi).symm⟩, ⟨⟨?_, ?_, ?_, hNx.nod, fun D hD9 => ⟨(hNx.mrk D hD9).1, hk9.same D _ (hNx.mrk D hD9).2 rfl⟩⟩, ao8, cap8, ?_, ?_⟩, hPi9, hLi9⟩
                  · have h8 : Ext w4 w8 := (hNx.ext.trans hx7).grown hg8 (hNx.ext.trans hx7).size (fun r e => (hGo7.lt r e).1)
                    exact below_grown h8 hg9 h8.size (by omega)
                  · exact (hne8 hNx.sml (by decide)).other (r := wr.heap.size) 0 (.slice ao8 (pre.length + 1) cap8) (by omega)
                  · exact (own_by2 (hNx.own.kept hx7) hGo7 (by decide) hg8).grown hg9 (fun b hb e => by simp [Value.ownBlock] at hb; omega)
                  · rw [gnum_len, List.length_append]
                    have := hBg8.set 0 (.slice ao8 (pre.length + 1) cap8)
                    simpa using this
                  · rw [gnum_snoc, List.length_append, gnum_len]
                    exact ho8.grown hg9 (fun b hb => own_neT ho8 hBg8 (by decide) b hb)
                gi_wp2
                refine region_in (S := fun w' => w'.cell? ⟨w.heap.size, 2, none⟩ = some (.slice bo bs.length bcap) ∧ w'.cell? ⟨Bs, 0, none⟩ = some (.int .i64 (s : Int))) (by kernel_rfl) (by kernel_rfl) (by rintro ⟨_, _, h⟩; exact h) hS0 (fun hHeld => ?_)
                refine wpAnyH_take (i := 1) (v := .pointer (some ⟨w.heap.size, 2, none⟩)) rfl (by kernel_rfl) (by kernel_rfl) (by kernel_rfl) (fun _ _ _ h => h) (Or.inl ⟨by rfl, fun _ _ => rfl⟩) hHeld ?_
                refine wpAnyH_take (i := 2) (v := .slice bo bs.length bcap) rfl (by kernel_rfl) (by kernel_rfl) (by kernel_rfl) (fun _ _ _ h => h) (Or.inl ⟨by rfl, fun w9 h9 => by (have h91 := h9.1; go_simp)⟩) hHeld ?_
                refine wpAnyH_take (i := 3) (v := .int .i64 (x.1 : Int)) rfl (by kernel_rfl) (by kernel_rfl) (by kernel_rfl) (fun _ _ _ h => h) (Or.inl ⟨by rfl, fun _ _ => rfl⟩) hHeld ?_
                refine wpAnyH_take (i := 4) (v := .int .i64 (s : Int)) rfl (by kernel_rfl) (by kernel_rfl) (by kernel_rfl) (fun _ _ _ h => h) (Or.inl ⟨by rfl, fun w9 h9 => by (have h91 := h9.2; go_simp)⟩) hHeld ?_
                refine wpAnyH_ready (rs := [0, 5]) (by kernel_rfl) (by simp) (AllReadyH.cons rfl (fun K hK => ?_) (AllReadyH.cons rfl (fun K hK => ?_) AllReadyH.nil))
                ·
                  go_simp
                  refine hK.out _ _ hHeld (fun _ => ?_)
                  clear hK K
                  refine wpAnyH_ready (rs := [5]) (by kernel_rfl) (by simp) (AllReadyH.cons rfl (fun K hK => ?_) AllReadyH.nil)
                  go_simp
                  refine (unhide HCell _).mono ?_
                  rintro e w5 ⟨rfl, rfl⟩
                  refine hK.out _ _ hHeld (fun _ => ?_)
                  clear hK K
                  refine wpAnyH_ready (rs := [6]) (by kernel_rfl) (by simp) (AllReadyH.cons rfl (fun K hK => ?_) AllReadyH.nil)
                  go_simp
                  refine (unhide HNum).mono ?_
                  rintro e w6 ⟨rfl, rfl⟩
                  refine hK.out _ _ hHeld (fun _ => ?_)
                  clear hK K
                  refine wpAnyH_ready (rs := [7]) (by kernel_rfl) (by simp) (AllReadyH.cons rfl (fun K hK => ?_) AllReadyH.nil)
                  go_simp
                  refine hK.out _ _ (unhide hS7) (fun _ => ?_)
                  clear hK K
                  refine wpAnyH_ready (rs := [8]) (by kernel_rfl) (by simp) (AllReadyH.cons rfl (fun K hK => ?_) AllReadyH.nil)
                  refine step_run (by rfl) (.tmp 48) (.tmp 55) 87 (by rfl) (by rfl) (by rfl) (unhide HRUN) ?_
                  refine hK.out _ _ (unhide hS8) (fun _ => ?_)
                  clear hK K
                  refine wpAnyH_ready (rs := [9]) (by kernel_rfl) (by simp) (AllReadyH.cons rfl (fun K hK => ?_) AllReadyH.nil)
                  go_simp
                  refine hK.out _ _ (unhide hS9) (fun _ => ?_)
                  clear hK K
                  exact wpAnyH_done (by kernel_rfl) (unhide HFIN) _
                ·
                  go_simp
                  refine (unhide HCell _).mono ?_
                  rintro e w5 ⟨rfl, rfl⟩
                  refine hK.out _ _ hHeld (fun _ => ?_)
                  clear hK K
                  refine wpAnyH_ready (rs := [0, 6]) (by kernel_rfl) (by simp) (AllReadyH.cons rfl (fun K hK => ?_) (AllReadyH.cons rfl (fun K hK => ?_) AllReadyH.nil))
                  ·
                    go_simp
                    refine hK.out _ _ hHeld (fun _ => ?_)
                    clear hK K
                    refine wpAnyH_ready (rs := [6]) (by kernel_rfl) (by simp) (AllReadyH.cons rfl (fun K hK => ?_) AllReadyH.nil)
                    go_simp
                    refine (unhide HNum).mono ?_
                    rintro e w6 ⟨rfl, rfl⟩
                    refine hK.out _ _ hHeld (fun _ => ?_)
                    clear hK K
                    refine wpAnyH_ready (rs := [7]) (by kernel_rfl) (by simp) (AllReadyH.cons rfl (fun K hK => ?_) AllReadyH.nil)
                    go_simp
                    refine hK.out _ _ (unhide hS7) (fun _ => ?_)
                    clear hK K
                    refine wpAnyH_ready (rs := [8]) (by kernel_rfl) (by simp) (AllReadyH.cons rfl (fun K hK => ?_) AllReadyH.nil)
                    refine step_run (by rfl) (.tmp 48) (.tmp 55) 87 (by rfl) (by rfl) (by rfl) (unhide HRUN) ?_
                    refine hK.out _ _ (unhide hS8) (fun _ => ?_)
                    clear hK K
                    refine wpAnyH_ready (rs := [9]) (by kernel_rfl) (by simp) (AllReadyH.cons rfl (fun K hK => ?_) AllReadyH.nil)
                    go_simp
                    refine hK.out _ _ (unhide hS9) (fun _ => ?_)
                    clear hK K
                    exact wpAnyH_done (by kernel_rfl) (unhide HFIN) _
                  ·
                    go_simp
                    refine (unhide HNum).mono ?_
                    rintro e w6 ⟨rfl, rfl⟩
                    refine hK.out _ _ hHeld (fun _ => ?_)
                    clear hK K
                    refine wpAnyH_ready (rs := [0, 7]) (by kernel_rfl) (by simp) (AllReadyH.cons rfl (fun K hK => ?_) (AllReadyH.cons rfl (fun K hK => ?_) AllReadyH.nil))
                    ·
                      go_simp
                      refine hK.out _ _ hHeld (fun _ => ?_)
                      clear hK K
                      refine wpAnyH_ready (rs := [7]) (by kernel_rfl) (by simp) (AllReadyH.cons rfl (fun K hK => ?_) AllReadyH.nil)
                      go_simp
                      refine hK.out _ _ (unhide hS7) (fun _ => ?_)
                      clear hK K
                      refine wpAnyH_ready (rs := [8]) (by kernel_rfl) (by simp) (AllReadyH.cons rfl (fun K hK => ?_) AllReadyH.nil)
                      refine step_run (by rfl) (.tmp 48) (.tmp 55) 87 (by rfl) (by rfl) (by rfl) (unhide HRUN) ?_
                      refine hK.out _ _ (unhide hS8) (fun _ => ?_)
                      clear hK K
                      refine wpAnyH_ready (rs := [9]) (by kernel_rfl) (by simp) (AllReadyH.cons rfl (fun K hK => ?_) AllReadyH.nil)
                      go_simp
                      refine hK.out _ _ (unhide hS9) (fun _ => ?_)
                      clear hK K
                      exact wpAnyH_done (by kernel_rfl) (unhide HFIN) _
                    ·
                      go_simp
                      refine hK.out _ _ (unhide hS7) (fun _ => ?_)
                      clear hK K
                      refine wpAnyH_ready (rs := [0]) (by kernel_rfl) (by simp) (AllReadyH.cons rfl (fun K hK => ?_) AllReadyH.nil)
                      go_simp
                      refine hK.out _ _ (unhide hS7) (fun _ => ?_)
                      clear hK K
                      refine wpAnyH_ready (rs := [8]) (by kernel_rfl) (by simp) (AllReadyH.cons rfl (fun K hK => ?_) AllReadyH.nil)
                      refine step_run (by rfl) (.tmp 48) (.tmp 55) 87 (by rfl) (by rfl) (by rfl) (unhide HRUN) ?_
                      refine hK.out _ _ (unhide hS8) (fun _ => ?_)
                      clear hK K
                      refine wpAnyH_ready (rs := [9]) (by kernel_rfl) (by simp) (AllReadyH.cons rfl (fun K hK => ?_) AllReadyH.nil)
                      go_simp
                      refine hK.out _ _ (unhide hS9) (fun _ => ?_)
                      clear hK K
                      exact wpAnyH_done (by kernel_rfl) (unhide HFIN) _
              case hdone =>
                rintro D ys Wd hD hys hI9 hK
                obtain ⟨⟨hNx, ao, cap, hBg, hGo⟩, hPi, hLi⟩ := hI9
                have hk : j * hN W + i < hN W * hN H := by
                  have h1 : (j + 1) * hN W ≤ hN H * hN W := Nat.mul_le_mul_right _ (by omega)
                  rw [Nat.succ_mul, Nat.mul_comm (hN H)] at h1
                  omega
                have hgg := gnum_grp (s := s) (bs := bs) hys
                rw [hgg] at hBg hGo
                have hGl : ((grp s W H bs i j).map numOf).length = min 2 W * min 2 H := by rw [List.length_map, grp_len]
                have hG4 : ((grp s W H bs i j).map numOf).length ≤ 4 := by
                  have h9 : min 2 W * min 2 H ≤ 2 * 2 := Nat.mul_le_mul (by omega) (by omega)
                  omega
                have hG1 : 1 ≤ ((grp s W H bs i j).map numOf).length := by
                  rw [hGl]
                  exact Nat.mul_pos (by omega) (by omega)
                have hGb : ∀ y ∈ (grp s W H bs i j).map numOf, 0 ≤ y ∧ y < 4294967296 := fun y hy => by
                  obtain ⟨c, hc, rfl⟩ := List.mem_map.1 hy
                  unfold grp at hc
                  obtain ⟨q, _, rfl⟩ := List.mem_map.1 hc
                  have h9 := numOf_le _ ((unhide HB).cut (pq W (2 * i) (2 * j) (min 2 W) q * s) s) 4 (by simp; omega)
                  exact h9
                obtain ⟨kk1, kk2, kk3⟩ := unhide HKS
                have hmn := meanN_lt (chs8 f) ((grp s W H bs i j).map numOf) hG1
                rw [kk1] at hmn
                have hp32 := pow8s hs4
                obtain ⟨ix1, ix2⟩ := idx_at (j := j) hlt3
                have hnb : nb (chs8 f) s W H bs (j * hN W + i + 1) = nb (chs8 f) s W H bs (j * hN W + i) ++ low (meanN (chs8 f) 0 ((grp s W H bs i j).map numOf)) s := by
                  rw [nb, ix1, ix2]
                  rfl
                have hLev := (unhide H3).2.1.ext hNx.ext
                have hSz := (unhide H3).2.2.2.1.ext hNx.ext
                have hKr := (unhide H3).2.2.2.2.ext hNx.ext
                have hks9 : (j * hN W + i) * s + s ≤ hN W * hN H * s := by
                  rw [← Nat.succ_mul]
                  exact Nat.mul_le_mul_right _ hk
                have e9 : (j : Int) * ((hN W : Nat) : Int) + (i : Int) = ((j * hN W + i : Nat) : Int) := by simp
                have m9 : j * hN W ≤ 64 * 64 := Nat.mul_le_mul (by omega) hhW
                have e8 : (j : Int) * ((hN W : Nat) : Int) = ((j * hN W : Nat) : Int) := by simp
                have z1 : (j : Int) * ((hN W : Nat) : Int) ≤ 4096 := by omega
                have z0 : 0 ≤ (j : Int) * ((hN W : Nat) : Int) := by omega
                have zw : IntKind.i64.wrap ((j : Int) * ((hN W : Nat) : Int)) = (j : Int) * ((hN W : Nat) : Int) := wrap_id (by omega) (by omega)
                have zw2 : IntKind.i64.wrap ((j : Int) * ((hN W : Nat) : Int) + (i : Int)) = (j : Int) * ((hN W : Nat) : Int) + (i : Int) := wrap_id (by omega) (by omega)
                have HCell : Hid (∀ wx, Calls Try.prog 28 #[.slice (some ⟨g, 0, none⟩) (hN W * hN H * s) (hN W * hN H * s), .int .i64 ((j : Int) * ((hN W : Nat) : Int) + (i : Int)), .int .i64 (s : Int)] wx fun e w' => e = .returned (.slice (some ⟨g, (j * hN W + i) * s, none⟩) s (hN W * hN H * s - (j * hN W + i) * s)) ∧ w' = wx) := fun wx => by
                  have h9 : hN W * hN H ≤ 64 * 64 := Nat.mul_le_mul hhW hhH
                  have h8 : hN W * hN H * s ≤ 4096 * 4 := Nat.mul_le_mul h9 hs4
                  have h7 := cell_any g 0 (hN W * hN H * s) (hN W * hN H * s) (j * hN W + i) s wx (by omega) hs4 (Nat.mul_le_mul_right _ hk) (Nat.le_refl _) (by omega)
                  rw [Nat.zero_add] at h7
                  rw [e9]
                  exact h7
                have HMean : Hid (∀ wx, Ext Wd wx → Calls Try.prog 65 #[.slice ao ((grp s W H bs i j).map numOf).length cap, .slice (some ⟨kb, 0, none⟩) (chs8 f).length (chs8 f).length] wx fun e w' => e = .returned (.int .u32 (meanN (chs8 f) 0 ((grp s W H bs i j).map numOf))) ∧ Ext wx w') := fun wx hx =>
                  mean_any _ (chs8 f) ao cap _ wx (hGo.row.ext hx) (hKr.ext hx) hG1 hG4 hGb kk3 (by omega) kk2
                have hmul : hN W * hN H - (j * hN W + i) = (hN W * hN H - (j * hN W + i + 1)) + 1 := by omega
                have HLay : Hid (∀ wx, Ext Wd wx → Calls Try.prog 64 #[.slice (some ⟨g, (j * hN W + i) * s, none⟩) s (hN W * hN H * s - (j * hN W + i) * s), .int .u32 (meanN (chs8 f) 0 ((grp s W H bs i j).map numOf))] wx fun e w' => e = .returned (.tuple #[]) ∧
                    NxI w4 w' Bm #[.int .i64 ((hN W : Nat) : Int), .int .i64 ((hN H : Nat) : Int), .slice (some ⟨g, 0, none⟩) (hN W * hN H * s) (hN W * hN H * s)] g (hN W * hN H * s) (D :: ds) (nb (chs8 f) s W H bs (j * hN W + i + 1) ++ List.replicate ((hN W * hN H - (j * hN W + i + 1)) * s) 0) ∧
                    w'.cell? ⟨Bm, 2, none⟩ = some (.slice (some ⟨g, 0, none⟩) (hN W * hN H * s) (hN W * hN H * s)) ∧ w'.cell? ⟨Bm, 0, none⟩ = some (.int .i64 ((hN W : Nat) : Int)) ∧ w'.cell? ⟨Bs, 0, none⟩ = some (.int .i64 (s : Int)) ∧ w'.cell? ⟨wr.heap.size, 0, none⟩ = some (.slice ao ((grp s W H bs i j).map numOf).length cap)) := fun wx hx => by
                  have hNy := hNx.exts hx
                  have hBg9 := hBg.ext hx
                  have hSz9 := hSz.ext hx
                  have hxl : (nb (chs8 f) s W H bs (j * hN W + i) ++ List.replicate ((hN W * hN H - (j * hN W + i)) * s) 0).length = hN W * hN H * s := by
                    rw [List.length_append, nb_len, List.length_replicate, ← Nat.add_mul]
                    congr 1
                    omega
                  refine (lay_any hNy.own ((j * hN W + i) * s) s (hN W * hN H * s - (j * hN W + i) * s) hs4 (by rw [hxl]; exact hks9) _ hmn.1 (by omega)).mono ?_
                  rintro e w' ⟨rfl, ho9, hg9⟩
                  have hB9 : ∀ {b : Nat} {cs : Array Value} {t : TypeId}, Blk wx b cs t → t ≠ 5 → Blk w' b cs t := fun {b cs t} hB ht => hB.grown hg9 (blk_neU hB ht hNy.own)
                  have hsm9 := hB9 hNy.sml (by decide)
                  have e7 : layB (nb (chs8 f) s W H bs (j * hN W + i) ++ List.replicate ((hN W * hN H - (j * hN W + i)) * s) 0) ((j * hN W + i) * s) (low (meanN (chs8 f) 0 ((grp s W H bs i j).map numOf)) s) = nb (chs8 f) s W H bs (j * hN W + i + 1) ++ List.replicate ((hN W * hN H - (j * hN W + i + 1)) * s) 0 := by
                    have h1 := lay_nb (nb (chs8 f) s W H bs (j * hN W + i)) (low (meanN (chs8 f) 0 ((grp s W H bs i j).map numOf)) s) ((hN W * hN H - (j * hN W + i)) * s)
                    rw [nb_len, low_length] at h1
                    rw [h1, hnb]
                    congr 2
                    rw [hmul, Nat.succ_mul]
                    omega
                  rw [e7] at ho9
                  have hkp := keeps_own hNy.own hg9
                  have hD9 : wx.heap[D]? = some (.deferred (some [])) := (hx.block D (Array.getElem?_eq_some_iff.1 hK).1).trans hK
                  refine ⟨rfl, ⟨below_grown hNy.ext hg9 hNy.ext.size (hNy.own.lt g rfl).1, hsm9, ho9, List.nodup_cons.2 ⟨fun hm => by have := hDl D hm; omega, hNy.nod⟩, fun D' hD' => ?_⟩, hsm9.three.2.2, hsm9.three.1, (hB9 hSz9 (by decide)).cell (i := 0) rfl, (hB9 hBg9 (by decide)).cell (i := 0) rfl⟩
                  rcases List.mem_cons.1 hD' with rfl | h8
                  · exact ⟨by omega, hkp.same D' _ hD9 rfl⟩
                  · exact ⟨(hNy.mrk D' h8).1, hkp.same D' _ (hNy.mrk D' h8).2 rfl⟩
                have HS9 : Hid (∀ wx, Ext Wd wx → wx.cell? ⟨Bm, 2, none⟩ = some (.slice (some ⟨g, 0, none⟩) (hN W * hN H * s) (hN W * hN H * s)) ∧ wx.cell? ⟨Bm, 0, none⟩ = some (.int .i64 ((hN W : Nat) : Int)) ∧ wx.cell? ⟨Bs, 0, none⟩ = some (.int .i64 (s : Int)) ∧ wx.cell? ⟨wr.heap.size, 0, none⟩ = some (.slice ao ((grp s W H bs i j).map numOf).length cap)) := fun wx hx =>
                  ⟨(hNx.sml.ext hx).three.2.2, (hNx.sml.ext hx).three.1, (hSz.ext hx).cell (i := 0) rfl, (hBg.ext hx).cell (i := 0) rfl⟩
                generalize ((grp s W H bs i j).map numOf).length = gl at *
                generalize meanN (chs8 f) 0 ((grp s W H bs i j).map numOf) = mn at *
                clear hLev hSz hKr hBg hGo hPi hLi hNx hgg hGl hG4 hG1 hGb kk1 kk2 kk3 hmn hp32 ix1 ix2 hnb hys hK e9 e8 m9 hP0 hL0 hG0 hN0 hX0 hP1 hL1
                go_wp2_with fail
                go_region_held3 (fun w' => w'.cell? ⟨Bm, 2, none⟩ = some (.slice (some ⟨g, 0, none⟩) (hN W * hN H * s) (hN W * hN H * s)) ∧ w'.cell? ⟨Bm, 0, none⟩ = some (.int .i64 ((hN W : Nat) : Int)) ∧ w'.cell? ⟨Bs, 0, none⟩ = some (.int .i64 (s : Int)) ∧ w'.cell? ⟨wr.heap.size, 0, none⟩ = some (.slice ao gl cap))
                  (first | with_reducible exact hs9 | with_reducible exact unhide HS9 _ bx | with_reducible exact unhide HS9 _ (ext_0 Wd))
                  (first
                    | (go_at_call 28; refine (unhide HCell _).mono ?_; rintro e wz ⟨rfl, rfl⟩)
                    | (go_at_call 65; refine (unhide HMean _ (ext_0 Wd)).mono ?_; rintro e wm ⟨rfl, hxm⟩; have bx : Ext Wd wm := (ext_0 Wd).trans hxm; clear hxm)
                    | (go_at_call 64; refine (unhide HLay _ bx).mono ?_; rintro e wl ⟨rfl, hnx9, hs9⟩; have HNX := hide hnx9; clear hnx9))
                all_goals
                  go_wp2
                  refine ⟨⟨D :: ds, i + 1, rfl, by simp, by omega, ?_⟩, ?_⟩
                  · exact unhide HNX
                  · simp [intOf]
                    omega
              case hstop =>
                rintro D c pre Wq _ _ h _
                exact h.elim
        · obtain rfl : i = hN W := by omega
          have hnlt : ¬ ((hN W : Nat) : Int) < ((hN W : Nat) : Int) := by omega
          go_wp2
          refine ⟨⟨ds, rfl, j + 1, by simp, by omega, ?_⟩, ?_⟩
          · have h9 := unhide HI
            rw [← Nat.succ_mul] at h9
            exact h9
          · simp [intOf]
            omega
    · obtain rfl : j = hN H := by omega
      have hnlt : ¬ ((hN H : Nat) : Int) < ((hN H : Nat) : Int) := by omega
      have hI := unhide HI
      rw [Nat.mul_comm (hN H), Nat.sub_self, Nat.zero_mul, List.replicate_zero, List.append_nil] at hI
      have hR9 := (unhide H3).2.2.1.ext hI.ext
      obtain ⟨r0, r1, r2⟩ := hR9.three
      have f0 := hR9.free 0
      have f1 := hR9.free 1
      have f2 := hR9.free 2
      have hg9 := grown_set3 wr (w.heap.size + 1) (.int .i64 ((hN W : Nat) : Int)) (.int .i64 ((hN H : Nat) : Int)) (.slice (some ⟨g, 0, none⟩) (hN W * hN H * s) (hN W * hN H * s))
      have hB9 := hR9.put3 (.int .i64 ((hN W : Nat) : Int)) (.int .i64 ((hN H : Nat) : Int)) (.slice (some ⟨g, 0, none⟩) (hN W * hN H * s) (hN W * hN H * s))
      have hlow := (unhide H3).2.2.1.lt
      have ho9 := hI.own.grown hg9 (fun b hb e => by have := (hI.own.lt b hb).1; omega)
      have hx9 : Ext w _ := below_grown ((unhide H3).1.trans hI.ext) hg9 ((unhide H3).1.trans hI.ext).size (by omega)
      have hk9 := keeps_grown hg9 hR9
      have H9 := hide (And.intro hB9 (And.intro ho9 (And.intro hx9 hk9)))
      clear hB9 ho9 hx9 hg9 hR9 hk9
      have HI9 := hide hI
      clear hI
      go_wp2
      obtain ⟨hB9, ho9, hx9, hk9⟩ := unhide H9
      have hI := unhide HI9
      refine leaves_marks (b0 := w4.heap.size) ds _ (by have := hI.ext.size; simpa using this) hI.nod (fun D hD => ⟨(hI.mrk D hD).1, hk9.same D _ (hI.mrk D hD).2 rfl⟩) (fun W' hW' hck => ?_)
      have hB10 := hck.blk hB9
      obtain ⟨q0, q1, q2⟩ := hB10.three
      have ho10 := (hck.own ho9).lower (b2 := w.heap.size) (unhide H3).1.size
      refine ⟨.agg #[.int .i64 ((hN W : Nat) : Int), .int .i64 ((hN H : Nat) : Int), .slice (some ⟨g, 0, none⟩) (hN W * hN H * s) (hN W * hN H * s)], ?_, g, rfl, ho10, Below.trans hx9 (hW'.mono (unhide H3).1.size)⟩
      simp [results, Try.f56, go_sem, q0, q1, q2]
end Go.Proofs.Ytpjapdifmfpcnaa
