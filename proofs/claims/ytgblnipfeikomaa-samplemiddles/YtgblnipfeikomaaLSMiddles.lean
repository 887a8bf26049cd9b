/-
  Proved: SampleMiddles answers true for every image and place and turns nothing that was there: at the middle of a pixel, of sides that are powers of 2, the nearest and the linear colour are that pixel's.
-/
import Derived.Test.YtgblnipfeikomaaFrS
namespace Go.Proofs.Ytgblnipfeikomaa
open Go.ChangeShapes Go.WideShapes Go.ChangeAt Go.RowKit
set_option linter.unusedVariables false
set_option linter.unusedSimpArgs false

theorem mid_place {W c i : Int} (hW : 1 ≤ W ∧ W ≤ 64) (hc : W * c = 64) (hi : 0 ≤ i ∧ i < W) : ((2 * i + 1) * 32768).tdiv W = (2 * i + 1) * 512 * c ∧ (0 ≤ (2 * i + 1) * 512 * c ∧ (2 * i + 1) * 512 * c ≤ 4161536) ∧ W * ((2 * i + 1) * 512 * c) = (2 * i + 1) * 32768 := by
  have hc1 : 1 ≤ c ∧ c ≤ 64 := by
    constructor
    · rcases Int.lt_or_le 0 c with h | h
      · omega
      · have := Int.mul_le_mul_of_nonneg_left h (show 0 ≤ W by omega)
        omega
    · rcases Int.lt_or_le 64 c with h | h
      · have := Int.mul_le_mul (show 1 ≤ W by omega) (show 65 ≤ c by omega) (by omega) (by omega)
        omega
      · exact h
  have e : W * ((2 * i + 1) * 512 * c) = (2 * i + 1) * 32768 := by
    have h1 : W * ((2 * i + 1) * 512 * c) = (2 * i + 1) * 512 * (W * c) := by grind
    rw [h1, hc]
    omega
  refine ⟨?_, ?_, e⟩
  · rw [← e, Int.mul_tdiv_cancel_left _ (by omega)]
  · have h1 : 0 ≤ (2 * i + 1) * 512 * c := Int.mul_nonneg (by omega) (by omega)
    have h2 := Int.mul_le_mul (show (2 * i + 1) * 512 ≤ 65024 by omega) hc1.2 (by omega) (by decide)
    omega
theorem nr_at (I : Img) (W H : Int) (bs : List Int) (u v : Int) : nrI I (W, H, bs) u v = txI I (W, H, bs) (W * u / 65536) (H * v / 65536) := rfl
theorem ln_at (I : Img) (W H : Int) (bs : List Int) (u v : Int) (c : Nat) : lnI I (W, H, bs) u v c = linI (txI I (W, H, bs) ((W * u - 32768) / 65536) ((H * v - 32768) / 65536) c) (txI I (W, H, bs) ((W * u - 32768) / 65536 + 1) ((H * v - 32768) / 65536) c) (txI I (W, H, bs) ((W * u - 32768) / 65536) ((H * v - 32768) / 65536 + 1) c) (txI I (W, H, bs) ((W * u - 32768) / 65536 + 1) ((H * v - 32768) / 65536 + 1) c) ((W * u - 32768) % 65536) ((H * v - 32768) % 65536) := rfl
theorem div_64 {W : Int} (hW : 1 ≤ W ∧ W ≤ 64) (h : (64 : Int) % W = 0) : ∃ c, W * c = 64 := ⟨64 / W, by have := Int.mul_ediv_add_emod 64 W; omega⟩
set_option maxRecDepth 10000 in
set_option maxHeartbeats 1000000 in
theorem middles_walk {W : World} {I : Img} {v : Value} {L : List Ent} (hI : ImgIn W I v L) (u q lod lv i j : Int) (hu : I32 u) (hq : I32 q) (hl : I32 lod) :
    Calls Try.prog 8 #[.agg #[.int .i64 I.f, v, .int .i64 I.ws, .int .i64 I.wt, .int .i64 I.mn, .int .i64 I.mg], .agg #[.int .i32 u, .int .i32 q, .int .i32 lod, .int .i64 lv, .int .i64 i, .int .i64 j]] W fun e w' => e = .returned (.bool true) ∧ Ext W w' := by
  obtain ⟨ao, cap, rfl, _⟩ := hI.lr.shape
  have hEQ := eqV
  have hBY : ∀ p ∈ L, Byt p.2.2.2 := fun p hp => (hI.all p hp).2.1
  have HBY := hide hBY
  have H0 := hide (And.intro (((Ext.refl W).alloc (.cells #[.int .i64 I.f, .slice ao L.length cap, .int .i64 I.ws, .int .i64 I.wt, .int .i64 I.mn, .int .i64 I.mg] 29)).alloc (.cells #[.int .i32 u, .int .i32 q, .int .i32 lod, .int .i64 lv, .int .i64 i, .int .i64 j] 32)) (And.intro ((Blk.new W #[.int .i64 I.f, .slice ao L.length cap, .int .i64 I.ws, .int .i64 I.wt, .int .i64 I.mn, .int .i64 I.mg] 29).alloc (.cells #[.int .i32 u, .int .i32 q, .int .i32 lod, .int .i64 lv, .int .i64 i, .int .i64 j] 32)) (show Blk ((W.alloc (.cells #[.int .i64 I.f, .slice ao L.length cap, .int .i64 I.ws, .int .i64 I.wt, .int .i64 I.mn, .int .i64 I.mg] 29)).alloc (.cells #[.int .i32 u, .int .i32 q, .int .i32 lod, .int .i64 lv, .int .i64 i, .int .i64 j] 32)) (W.heap.size + 1) #[.int .i32 u, .int .i32 q, .int .i32 lod, .int .i64 lv, .int .i64 i, .int .i64 j] 32 from Blk.at (by simp))))
  have HI := hide hI
  have HU := hide (And.intro hu (And.intro hq hl))
  clear hI hBY hu hq hl
  go_enter Try.func8, Try.ntmps8
  go_wp2_with fail
  generalize (W.alloc (.cells #[.int .i64 I.f, .slice ao L.length cap, .int .i64 I.ws, .int .i64 I.wt, .int .i64 I.mn, .int .i64 I.mg] 29)).alloc (.cells #[.int .i32 u, .int .i32 q, .int .i32 lod, .int .i64 lv, .int .i64 i, .int .i64 j] 32) = w0 at H0 ⊢
  refine (wakes_any _).mono ?_
  rintro e w1 ⟨rfl, hx1⟩
  have HB := hide (And.intro ((unhide H0).2.1.ext hx1) (And.intro ((unhide H0).2.2.ext hx1) ((unhide H0).1.trans hx1)))
  clear H0 hx1
  obtain ⟨q0, q1, q2, q3, q4, q5⟩ := (unhide HB).1.six
  obtain ⟨p0, p1, p2, p3, p4, p5⟩ := (unhide HB).2.1.six
  have hLen : L.length ≤ 4000000000000 := by have := (unhide HI).len; omega
  go_wp2_with fail
  refine (texel_any (I := I) ((unhide HI).lr.ext (unhide HB).2.2) hLen (unhide HI).abs (unhide HBY) lv 0 0).mono ?_
  rintro e w2 ⟨rfl, hx2⟩
  have hx3 := hx2.alloc (.cells #[.int .i32 (txV I lv 0 0 0), .int .i32 (txV I lv 0 0 1), .int .i32 (txV I lv 0 0 2), .int .i32 (txV I lv 0 0 3)] 34)
  have HB3 := hide (And.intro ((unhide HB).1.ext hx3) (And.intro ((unhide HB).2.1.ext hx3) ((unhide HB).2.2.trans hx3)))
  clear HB hx2 hx3 q0 q1 q2 q3 q4 q5 p0 p1 p2 p3 p4 p5
  go_upto_region 4 with fail
  generalize w2.alloc (.cells #[.int .i32 (txV I lv 0 0 0), .int .i32 (txV I lv 0 0 1), .int .i32 (txV I lv 0 0 2), .int .i32 (txV I lv 0 0 3)] 34) = w3 at HB3 ⊢
  by_cases hE : rfE I lv = 0
  case neg =>
    have d0 : (rfE I lv != 0) = true := by simpa using hE
    generalize rfE I lv = er at *
    clear hE
    go_wp2
    go_ret
    exact ⟨rfl, (unhide HB3).2.2⟩
  case pos =>
  rw [hE]
  obtain ⟨hok, hh⟩ := rf_cases I lv hE
  obtain ⟨k, hk, rfl, hlv, hlk⟩ := lv_open (unhide HI).abs hok hh
  have HE := hide hE
  obtain ⟨q0, q1, q2, q3, q4, q5⟩ := (unhide HB3).1.six
  obtain ⟨p0, p1, p2, p3, p4, p5⟩ := (unhide HB3).2.1.six
  obtain ⟨b, off, bo, bcap, rfl, eb, c0, c1, c2, hr⟩ := ((unhide HI).lr.ext (unhide HB3).2.2).at k hk
  have hcm : L.length ≤ cap ∧ cap ≤ 9223372036854775807 := by
    obtain ⟨_, _, e9, _, h8, h9, _⟩ := (unhide HI).lr.shape
    cases e9
    unfold maxLen at h9
    exact ⟨h8, by omega⟩
  obtain ⟨hcm1, hcm2⟩ := hcm
  have hkn : (k : Int) < (L.length : Int) := by omega
  have hW : 1 ≤ L[k].1 ∧ L[k].1 ≤ 64 := hlk.w
  have hH : 1 ≤ L[k].2.1 ∧ L[k].2.1 ≤ 64 := hlk.h
  have HLV := hide hlv
  generalize L[k].1 = Wd at *
  generalize L[k].2.1 = Ht at *
  generalize L[k].2.2.2 = bs at *
  have hx4 := (Ext.refl w3).alloc (.cells #[.int .i64 Wd, .int .i64 Ht, .slice bo bs.length bcap] 49)
  have HB4 := hide (And.intro ((unhide HB3).1.ext hx4) (And.intro ((unhide HB3).2.1.ext hx4) (And.intro (Blk.new w3 #[.int .i64 Wd, .int .i64 Ht, .slice bo bs.length bcap] 49) ((unhide HB3).2.2.trans hx4))))
  clear HB3 hx4 hlv hlk hok hh hE eb hr
  obtain ⟨W1, W2⟩ := hW
  obtain ⟨T1, T2⟩ := hH
  have tw : (64 : Int).tmod Wd = 64 % Wd := Int.tmod_eq_emod_of_nonneg (by decide)
  have th : (64 : Int).tmod Ht = 64 % Ht := Int.tmod_eq_emod_of_nonneg (by decide)
  have z1 : ¬ Wd = 0 := by omega
  have z2 : ¬ Ht = 0 := by omega
  have z3 : (Wd == 0) = false := by rw [beq_eq_false_iff_ne]; exact z1
  have z4 : (Ht == 0) = false := by rw [beq_eq_false_iff_ne]; exact z2
  go_upto_region 7 with fail
  generalize hw4 : w3.alloc (.cells #[.int .i64 Wd, .int .i64 Ht, .slice bo bs.length bcap] 49) = w4 at HB4 ⊢
  clear hw4 q0 q1 q2 q3 q4 q5 p0 p1 p2 p3 p4 p5 c0 c1 c2
  obtain ⟨q0, q1, q2, q3, q4, q5⟩ := (unhide HB4).1.six
  obtain ⟨p0, p1, p2, p3, p4, p5⟩ := (unhide HB4).2.1.six
  obtain ⟨l0, l1, l2⟩ := (unhide HB4).2.2.1.three
  have ew := Int.emod_nonneg 64 z1
  have ew2 := Int.emod_lt_of_pos 64 (show 0 < Wd by omega)
  have eh := Int.emod_nonneg 64 z2
  have eh2 := Int.emod_lt_of_pos 64 (show 0 < Ht by omega)
  by_cases dw : (64 : Int) % Wd = 0
  case neg =>
    have d1 : ((64 : Int) % Wd != 0) = true := by simpa using dw
    clear dw
    go_wp2
    go_ret
    exact ⟨rfl, (unhide HB4).2.2.2⟩
  case pos =>
  by_cases dh : (64 : Int) % Ht = 0
  case neg =>
    have d1 : ((64 : Int) % Wd != 0) = false := by simp [dw]
    have d2 : ((64 : Int) % Ht != 0) = true := by simpa using dh
    clear dw dh
    go_wp2
    go_ret
    exact ⟨rfl, (unhide HB4).2.2.2⟩
  case pos =>
  have d1 : ((64 : Int) % Wd != 0) = false := by simp [dw]
  have d2 : ((64 : Int) % Ht != 0) = false := by simp [dh]
  obtain ⟨cw, hcw⟩ := div_64 ⟨W1, W2⟩ dw
  obtain ⟨ch, hch⟩ := div_64 ⟨T1, T2⟩ dh
  have ri1 := Int.emod_nonneg (max i 0) z1
  have ri2 := Int.emod_lt_of_pos (max i 0) (show 0 < Wd by omega)
  have rj1 := Int.emod_nonneg (max j 0) z2
  have rj2 := Int.emod_lt_of_pos (max j 0) (show 0 < Ht by omega)
  obtain ⟨ui, hui⟩ : ∃ ui, max i 0 % Wd = ui := ⟨_, rfl⟩
  obtain ⟨uj, huj⟩ : ∃ uj, max j 0 % Ht = uj := ⟨_, rfl⟩
  rw [hui] at ri1 ri2
  rw [huj] at rj1 rj2
  have HUI := hide hui
  have HUJ := hide huj
  obtain ⟨a1, ⟨a2, a3⟩, a4⟩ := mid_place ⟨W1, W2⟩ hcw ⟨ri1, ri2⟩
  obtain ⟨b1, ⟨b2, b3⟩, b4⟩ := mid_place ⟨T1, T2⟩ hch ⟨rj1, rj2⟩
  clear hui huj dw dh hcw hch ew ew2 eh eh2
  generalize (2 * ui + 1) * 512 * cw = U at *
  generalize (2 * uj + 1) * 512 * ch = V at *
  have HA4 := hide a4
  have HB4' := hide b4
  clear a4 b4
  go_upto_region 9 with fail
  go_cut [8, 9] (fun x y wc => ∃ w5, w5 = wc ∧ x = .int .i64 ui ∧ y = .int .i64 uj ∧ Ext w4 wc)
  case first =>
    clear a1 b1 a2 a3 b2 b3 tw th d1 d2
    by_cases si : 0 ≤ i <;> by_cases sj : 0 ≤ j
    all_goals go_quiet (fail)
    all_goals go_wp2
    all_goals go_meet
    · have ei : max i 0 = i := by omega
      have ej : max j 0 = j := by omega
      exact ⟨_, rfl, by rw [← unhide HUI, ei], by rw [← unhide HUJ, ej], (Ext.refl _).drewN _⟩
    · have ei : max i 0 = i := by omega
      have ej : max j 0 = 0 := by omega
      exact ⟨_, rfl, by rw [← unhide HUI, ei], by rw [← unhide HUJ, ej, Int.zero_emod], (Ext.refl _).drewN _⟩
    · have ei : max i 0 = 0 := by omega
      have ej : max j 0 = j := by omega
      exact ⟨_, rfl, by rw [← unhide HUI, ei, Int.zero_emod], by rw [← unhide HUJ, ej], (Ext.refl _).drewN _⟩
    · have ei : max i 0 = 0 := by omega
      have ej : max j 0 = 0 := by omega
      exact ⟨_, rfl, by rw [← unhide HUI, ei, Int.zero_emod], by rw [← unhide HUJ, ej, Int.zero_emod], (Ext.refl _).drewN _⟩
  case rest =>
  obtain ⟨w5, rfl, rfl, rfl, hx5⟩ := hcut
  have HB5 := hide (And.intro ((unhide HB4).1.ext hx5) (And.intro ((unhide HB4).2.1.ext hx5) (And.intro ((unhide HB4).2.2.1.ext hx5) ((unhide HB4).2.2.2.trans hx5))))
  clear HB4 q0 q1 q2 q3 q4 q5 p0 p1 p2 p3 p4 p5 l0 l1 l2 HUI HUJ hx5
  go_upto_region 10 with fail
  obtain ⟨l0, l1, l2⟩ := (unhide HB5).2.2.1.three
  have g1 : IntKind.i64.wrap (2 * ui) = 2 * ui := by simp [IntKind.wrap, IntKind.bits, IntKind.signed]; omega
  have g2 : IntKind.i64.wrap (2 * ui + 1) = 2 * ui + 1 := by simp [IntKind.wrap, IntKind.bits, IntKind.signed]; omega
  have g3 : IntKind.i64.wrap ((2 * ui + 1) * 32768) = (2 * ui + 1) * 32768 := by simp [IntKind.wrap, IntKind.bits, IntKind.signed]; omega
  have g4 : IntKind.i64.wrap (2 * uj) = 2 * uj := by simp [IntKind.wrap, IntKind.bits, IntKind.signed]; omega
  have g5 : IntKind.i64.wrap (2 * uj + 1) = 2 * uj + 1 := by simp [IntKind.wrap, IntKind.bits, IntKind.signed]; omega
  have g6 : IntKind.i64.wrap ((2 * uj + 1) * 32768) = (2 * uj + 1) * 32768 := by simp [IntKind.wrap, IntKind.bits, IntKind.signed]; omega
  have g7 : IntKind.i32.wrap U = U := by simp [IntKind.wrap, IntKind.bits, IntKind.signed]; omega
  have g8 : IntKind.i32.wrap V = V := by simp [IntKind.wrap, IntKind.bits, IntKind.signed]; omega
  have g9 : IntKind.i64.wrap U = U := by simp [IntKind.wrap, IntKind.bits, IntKind.signed]; omega
  have g10 : IntKind.i64.wrap V = V := by simp [IntKind.wrap, IntKind.bits, IntKind.signed]; omega
  go_quiet (fail)
  have HB6 := hide (And.intro ((unhide HB5).1.drewN nq) (And.intro ((unhide HB5).2.1.drewN nq) ((unhide HB5).2.2.2.drewN nq)))
  clear HB5 l0 l1 l2 g1 g2 g3 g4 g5 g6 g7 g8 g9 g10 a1 b1 tw th z1 z2 z3 z4 d1 d2
  go_upto_region 11 with fail
  generalize w5.drewN nq = w6 at HB6 ⊢
  have HU2 : Hid (I32 U) := ⟨by omega, by omega⟩
  have HV2 : Hid (I32 V) := ⟨by omega, by omega⟩
  have E1 : Hid (txV I (k : Int) ui uj = txI I (levAt I (k : Int)) ui uj) := by show _ = _; unfold txV; rw [if_pos (unhide HE)]
  have E2 : Hid (nrV I (k : Int) U V = txI I (levAt I (k : Int)) ui uj) := by
    show _ = _
    unfold nrV
    rw [if_pos (unhide HE)]
    rw [unhide HLV]
    rw [nr_at, unhide HA4, unhide HB4', show (2 * ui + 1) * 32768 / 65536 = ui by omega, show (2 * uj + 1) * 32768 / 65536 = uj by omega]
  have E3 : Hid (∀ c, lnV I (k : Int) U V c = txI I (levAt I (k : Int)) ui uj c) := fun c => by
    unfold lnV
    rw [if_pos (unhide HE)]
    rw [unhide HLV, ln_at, unhide HA4, unhide HB4', show ((2 * ui + 1) * 32768 - 32768) / 65536 = ui by omega, show ((2 * uj + 1) * 32768 - 32768) / 65536 = uj by omega, show ((2 * ui + 1) * 32768 - 32768) % 65536 = 0 by omega, show ((2 * uj + 1) * 32768 - 32768) % 65536 = 0 by omega]
    exact lin_zero _ _ _ _
  obtain ⟨q0, q1, q2, q3, q4, q5⟩ := (unhide HB6).1.six
  obtain ⟨p0, p1, p2, p3, p4, p5⟩ := (unhide HB6).2.1.six
  go_wp2_with fail
  refine (texel_any (I := I) ((unhide HI).lr.ext (unhide HB6).2.2) hLen (unhide HI).abs (unhide HBY) (k : Int) ui uj).mono ?_
  rintro e w7 ⟨rfl, hx7⟩
  rw [unhide E1, unhide HE]
  generalize hT : txI I (levAt I (k : Int)) ui uj = T at *
  have hx8 := hx7.alloc (.cells #[.int .i32 (T 0), .int .i32 (T 1), .int .i32 (T 2), .int .i32 (T 3)] 34)
  have HB8 := hide (And.intro ((unhide HB6).1.ext hx8) (And.intro ((unhide HB6).2.1.ext hx8) (And.intro (Blk.new w7 #[.int .i32 (T 0), .int .i32 (T 1), .int .i32 (T 2), .int .i32 (T 3)] 34) ((unhide HB6).2.2.trans hx8))))
  clear HB6 hx7 hx8 q0 q1 q2 q3 q4 q5 p0 p1 p2 p3 p4 p5
  go_upto_region 12 with fail
  generalize hw8 : w7.alloc (.cells #[.int .i32 (T 0), .int .i32 (T 1), .int .i32 (T 2), .int .i32 (T 3)] 34) = w8 at HB8 ⊢
  clear hw8
  obtain ⟨q0, q1, q2, q3, q4, q5⟩ := (unhide HB8).1.six
  obtain ⟨p0, p1, p2, p3, p4, p5⟩ := (unhide HB8).2.1.six
  go_wp2_with fail
  refine (nearest_any (I := I) ((unhide HI).lr.ext (unhide HB8).2.2.2) hLen (unhide HI).abs (unhide HBY) (k : Int) U V (unhide HU2) (unhide HV2)).mono ?_
  rintro e w9 ⟨rfl, hx9⟩
  rw [unhide E2, unhide HE]
  have hx10 := hx9.alloc (.cells #[.int .i32 (T 0), .int .i32 (T 1), .int .i32 (T 2), .int .i32 (T 3)] 34)
  have HB10 := hide (And.intro ((unhide HB8).1.ext hx10) (And.intro ((unhide HB8).2.1.ext hx10) (And.intro ((unhide HB8).2.2.1.ext hx10) (And.intro (Blk.new w9 #[.int .i32 (T 0), .int .i32 (T 1), .int .i32 (T 2), .int .i32 (T 3)] 34) ((unhide HB8).2.2.2.trans hx10)))))
  clear HB8 hx9 hx10 q0 q1 q2 q3 q4 q5 p0 p1 p2 p3 p4 p5
  go_upto_region 13 with fail
  generalize hw10 : w9.alloc (.cells #[.int .i32 (T 0), .int .i32 (T 1), .int .i32 (T 2), .int .i32 (T 3)] 34) = w10 at HB10 ⊢
  clear hw10
  obtain ⟨q0, q1, q2, q3, q4, q5⟩ := (unhide HB10).1.six
  obtain ⟨p0, p1, p2, p3, p4, p5⟩ := (unhide HB10).2.1.six
  go_wp2_with fail
  refine (linear_any (I := I) ((unhide HI).lr.ext (unhide HB10).2.2.2.2) hLen (unhide HI).abs (unhide HBY) (k : Int) U V (unhide HU2) (unhide HV2)).mono ?_
  rintro e w11 ⟨rfl, hx11⟩
  rw [unhide E3 0, unhide E3 1, unhide E3 2, unhide E3 3, unhide HE]
  have hx12 := hx11.alloc (.cells #[.int .i32 (T 0), .int .i32 (T 1), .int .i32 (T 2), .int .i32 (T 3)] 34)
  have HB12 := hide (And.intro ((unhide HB10).2.2.1.ext hx12) (And.intro ((unhide HB10).2.2.2.1.ext hx12) (And.intro (Blk.new w11 #[.int .i32 (T 0), .int .i32 (T 1), .int .i32 (T 2), .int .i32 (T 3)] 34) ((unhide HB10).2.2.2.2.trans hx12))))
  clear HB10 hx11 hx12 q0 q1 q2 q3 q4 q5 p0 p1 p2 p3 p4 p5
  go_upto_region 14 with fail
  generalize hw12 : w11.alloc (.cells #[.int .i32 (T 0), .int .i32 (T 1), .int .i32 (T 2), .int .i32 (T 3)] 34) = w12 at HB12 ⊢
  clear hw12
  obtain ⟨x0, x1, x2, x3⟩ := (unhide HB12).1.vecs
  obtain ⟨y0, y1, y2, y3⟩ := (unhide HB12).2.1.vecs
  obtain ⟨v0, v1, v2, v3⟩ := (unhide HB12).2.2.1.vecs
  clear E1 E2 E3
  go_wp2
  go_ret
  exact ⟨by simp, (unhide HB12).2.2.2⟩

set_option maxRecDepth 10000
theorem middles_owes (H : Type) (enc : TypeId × Value → H) (W : World) (base : Nat) (args : Array Value) (ds : List (DataW H)) (p : List MemPlace) : Owes H enc Try.prog 8 Try.f8 Rows.sampleMiddlesSpec W base args ds p := by
  intro hval hA hsz
  rw [Try.params8] at hA hval hsz
  obtain ⟨v0, vs0, d0, ds0, p0, q0, hargs, rfl, rfl, h0, r0⟩ := trodAll_cons hA
  obtain ⟨v1, vs1, d1, ds1, p1, q1, rfl, rfl, rfl, h1, r1⟩ := trodAll_cons r0
  obtain ⟨rfl, rfl, rfl⟩ := trodAll_nil r1
  obtain rfl : args = #[v0, v1] := by cases args; simp_all
  obtain ⟨I, u0, L0, rfl, hI⟩ := open_img (hval 0 29 v0 rfl rfl) h0 (Wgt.arg (j := 0) hsz rfl rfl)
  obtain ⟨u, q, lod, lv, i, j, rfl, hu, hq, hl, _, _, _⟩ := open_at (hval 1 32 v1 rfl rfl) h1
  exact ⟨⟨rfl, rfl, rfl⟩, middles_walk hI u q lod lv i j hu hq hl⟩

set_option maxRecDepth 100000 in
theorem middles_lifted (os : Os) (started : os.Started) (H : Type) (enc : TypeId × Value → H) :
    ReturnsInHanded {} Try.checked os 8 .any (Rows.sampleMiddlesSpec.pre6 enc Try.prog Try.f8 [] false) (Rows.sampleMiddlesSpec.post enc Try.prog Try.f8 false true false false) :=
  lift_law (C := Try.checked) own laidOut started (by kernel_rfl) Try.func8 (T := 4) rfl Try.underlying4 rfl (by kernel_rfl)
    (ChangeSpec.witness6 (enc := enc) (C := Try.checked) false ⟨#[], #[.agg #[.int .i64 0, .slice none 0 0, .int .i64 0, .int .i64 0, .int .i64 0, .int .i64 0], .agg #[.int .i32 0, .int .i32 0, .int .i32 0, .int .i64 0, .int .i64 0, .int .i64 0]], []⟩ 8 (by kernel_rfl) (by kernel_rfl) (by kernel_rfl) (by kernel_rfl)) (middles_owes H enc)

theorem sampleMiddles_holds : Rows.SampleMiddlesSaid :=
  OpenClaim.holds_of_wide 8 Try.f8 rfl rfl rfl rfl rfl rfl rfl ⟨rfl, rfl, rfl, rfl, rfl⟩ rfl rfl rfl rfl rfl (by kernel_rfl) Try.func8 (by kernel_rfl)
    (of_decide_eq_true (by kernel_rfl)) (by unfold Func.isWrapper; rw [if_neg (of_decide_eq_false (by kernel_rfl))]; exact ⟨rfl, rfl⟩)
    (fun os started H enc _ => middles_lifted os started H enc)
#print axioms sampleMiddles_holds
end Go.Proofs.Ytgblnipfeikomaa
