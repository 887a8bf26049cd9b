/-
  Proved: SampleRepeats answers true for every image, place and number and turns nothing that was there: by Repeat whole numbers more change no colour.
-/
import Derived.Test.YtgblnipfeikomabFrS
namespace Go.Proofs.Ytgblnipfeikomab
open Go.ChangeShapes Go.WideShapes Go.ChangeAt Go.RowKit
set_option linter.unusedVariables false
set_option linter.unusedSimpArgs false

/-- The image by Repeat. -/
def repI (I : Img) : Img := ⟨I.f, I.L, 1, 1, I.mn, I.mg⟩
theorem nr_at (I : Img) (W H : Int) (bs : List Int) (u v : Int) : nrI I (W, H, bs) u v = txI I (W, H, bs) (W * u / 65536) (H * v / 65536) := rfl
theorem ln_at (I : Img) (W H : Int) (bs : List Int) (u v : Int) (c : Nat) : lnI I (W, H, bs) u v c = linI (txI I (W, H, bs) ((W * u - 32768) / 65536) ((H * v - 32768) / 65536) c) (txI I (W, H, bs) ((W * u - 32768) / 65536 + 1) ((H * v - 32768) / 65536) c) (txI I (W, H, bs) ((W * u - 32768) / 65536) ((H * v - 32768) / 65536 + 1) c) (txI I (W, H, bs) ((W * u - 32768) / 65536 + 1) ((H * v - 32768) / 65536 + 1) c) ((W * u - 32768) % 65536) ((H * v - 32768) % 65536) := rfl
theorem rep_wrap {i n m : Int} (h1 : 1 ≤ n) (h2 : n ≤ 64) : wrapI 1 (i + n * m) n = wrapI 1 i n := by
  unfold wrapI
  rw [if_neg (by omega), if_pos rfl, if_neg (by omega), if_pos rfl, Int.add_mul_emod_self_left]
theorem rep_tx {I : Img} {W H : Int} {bs : List Int} (hW : 1 ≤ W ∧ W ≤ 64) (hH : 1 ≤ H ∧ H ≤ 64) (i j m n : Int) : txI (repI I) (W, H, bs) (i + W * m) (j + H * n) = txI (repI I) (W, H, bs) i j := by
  unfold txI plN
  have e1 : wrapI (repI I).ws (i + W * m) W = wrapI (repI I).ws i W := rep_wrap hW.1 hW.2
  have e2 : wrapI (repI I).wt (j + H * n) H = wrapI (repI I).wt j H := rep_wrap hH.1 hH.2
  simp only [e1, e2]
theorem shift_div {s u m : Int} : s * (u + m * 65536) / 65536 = s * u / 65536 + s * m := by
  have : s * (u + m * 65536) = s * u + s * m * 65536 := by grind
  rw [this, Int.add_mul_ediv_right _ _ (by decide)]
theorem shift_low {s u m : Int} : (s * (u + m * 65536) - 32768) / 65536 = (s * u - 32768) / 65536 + s * m ∧ (s * (u + m * 65536) - 32768) % 65536 = (s * u - 32768) % 65536 := by
  have : s * (u + m * 65536) - 32768 = (s * u - 32768) + s * m * 65536 := by grind
  rw [this, Int.add_mul_ediv_right _ _ (by decide), Int.add_mul_emod_self_right]
  exact ⟨rfl, rfl⟩
theorem rep_ln {I : Img} {l : Lev} (hl : LvOk (repI I) l) (u v m n : Int) (c : Nat) : lnI (repI I) l (u + m * 65536) (v + n * 65536) c = lnI (repI I) l u v c := by
  obtain ⟨W, H, bs⟩ := l
  have hW : 1 ≤ W ∧ W ≤ 64 := hl.w
  have hH : 1 ≤ H ∧ H ≤ 64 := hl.h
  have hs : ∀ a b : Int, a + W * m + 1 = (a + 1) + W * m := fun a b => by omega
  have ht : ∀ a b : Int, a + H * n + 1 = (a + 1) + H * n := fun a b => by omega
  rw [ln_at, ln_at, (shift_low (s := W) (u := u) (m := m)).1, (shift_low (s := W) (u := u) (m := m)).2, (shift_low (s := H) (u := v) (m := n)).1, (shift_low (s := H) (u := v) (m := n)).2, hs _ 0, ht _ 0, rep_tx hW hH, rep_tx hW hH, rep_tx hW hH, rep_tx hW hH]
theorem rep_nr {I : Img} {l : Lev} (hl : LvOk (repI I) l) (u v m : Int) : nrI (repI I) l (u + m * 65536) v = nrI (repI I) l u v := by
  obtain ⟨W, H, bs⟩ := l
  have h := rep_tx (I := I) (bs := bs) hl.w hl.h (W * u / 65536) (H * v / 65536) m 0
  rw [Int.mul_zero, Int.add_zero] at h
  rw [nr_at, nr_at, shift_div]
  exact h
theorem rep_lnV {I : Img} {lv u v m n : Int} (c : Nat) : lnV (repI I) lv (u + m * 65536) (v + n * 65536) c = lnV (repI I) lv u v c := by
  unfold lnV
  by_cases h : rfE (repI I) lv = 0
  · rw [if_pos h, if_pos h]
    obtain ⟨hok, hh⟩ := rf_cases _ _ h
    exact rep_ln (lv_ok hok hh) u v m n c
  · rw [if_neg h, if_neg h]
theorem rep_nrV {I : Img} {lv u v m : Int} : nrV (repI I) lv (u + m * 65536) v = nrV (repI I) lv u v := by
  unfold nrV
  by_cases h : rfE (repI I) lv = 0
  · rw [if_pos h, if_pos h]
    obtain ⟨hok, hh⟩ := rf_cases _ _ h
    exact rep_nr (lv_ok hok hh) u v m
  · rw [if_neg h, if_neg h]
set_option maxRecDepth 10000 in
set_option maxHeartbeats 1000000 in
theorem repeats_walk {W : World} {I : Img} {v : Value} {L : List Ent} (hI : ImgIn W I v L) (u q lod lv i j mo : Int) (hu : I32 u) (hq : I32 q) (hl : I32 lod) :
    Calls Try.prog 3 #[.agg #[.int .i64 I.f, v, .int .i64 I.ws, .int .i64 I.wt, .int .i64 I.mn, .int .i64 I.mg], .agg #[.int .i32 u, .int .i32 q, .int .i32 lod, .int .i64 lv, .int .i64 i, .int .i64 j], .int .i64 mo] W fun e w' => e = .returned (.bool true) ∧ Ext W w' := by
  obtain ⟨ao, cap, rfl, _⟩ := hI.lr.shape
  have hEQ := eqV
  have hBY : ∀ p ∈ L, Byt p.2.2.2 := fun p hp => (hI.all p hp).2.1
  have HBY := hide hBY
  have H0 := hide (And.intro (((Ext.refl W).alloc (.cells #[.int .i64 I.f, .slice ao L.length cap, .int .i64 I.ws, .int .i64 I.wt, .int .i64 I.mn, .int .i64 I.mg] 24)).alloc (.cells #[.int .i32 u, .int .i32 q, .int .i32 lod, .int .i64 lv, .int .i64 i, .int .i64 j] 27)) (And.intro ((Blk.new W #[.int .i64 I.f, .slice ao L.length cap, .int .i64 I.ws, .int .i64 I.wt, .int .i64 I.mn, .int .i64 I.mg] 24).alloc (.cells #[.int .i32 u, .int .i32 q, .int .i32 lod, .int .i64 lv, .int .i64 i, .int .i64 j] 27)) (show Blk ((W.alloc (.cells #[.int .i64 I.f, .slice ao L.length cap, .int .i64 I.ws, .int .i64 I.wt, .int .i64 I.mn, .int .i64 I.mg] 24)).alloc (.cells #[.int .i32 u, .int .i32 q, .int .i32 lod, .int .i64 lv, .int .i64 i, .int .i64 j] 27)) (W.heap.size + 1) #[.int .i32 u, .int .i32 q, .int .i32 lod, .int .i64 lv, .int .i64 i, .int .i64 j] 27 from Blk.at (by simp))))
  have HI := hide hI
  have HU := hide (And.intro hu (And.intro hq hl))
  clear hI hBY hu hq hl
  go_enter Try.func3, Try.ntmps3
  go_wp2_with fail
  generalize (W.alloc (.cells #[.int .i64 I.f, .slice ao L.length cap, .int .i64 I.ws, .int .i64 I.wt, .int .i64 I.mn, .int .i64 I.mg] 24)).alloc (.cells #[.int .i32 u, .int .i32 q, .int .i32 lod, .int .i64 lv, .int .i64 i, .int .i64 j] 27) = w0 at H0 ⊢
  refine (wakes_any _).mono ?_
  rintro e w1 ⟨rfl, hx1⟩
  have HB := hide (And.intro ((unhide H0).2.1.ext hx1) (And.intro ((unhide H0).2.2.ext hx1) ((unhide H0).1.trans hx1)))
  clear H0 hx1
  have hP := ((unhide HB).1.set 2 (.int .i64 1)).set 3 (.int .i64 1)
  have hR1 : Blk ((w1.setCell ⟨W.heap.size, 2, none⟩ (.int .i64 1)).setCell ⟨W.heap.size, 3, none⟩ (.int .i64 1)) W.heap.size #[.int .i64 (repI I).f, .slice ao L.length cap, .int .i64 (repI I).ws, .int .i64 (repI I).wt, .int .i64 (repI I).mn, .int .i64 (repI I).mg] 24 := by simpa [repI] using hP
  have hR2 : Blk ((w1.setCell ⟨W.heap.size, 2, none⟩ (.int .i64 1)).setCell ⟨W.heap.size, 3, none⟩ (.int .i64 1)) (W.heap.size + 1) #[.int .i32 u, .int .i32 q, .int .i32 lod, .int .i64 lv, .int .i64 i, .int .i64 j] 27 := ((unhide HB).2.1.other (r := W.heap.size) _ _ (by omega)).other (r := W.heap.size) _ _ (by omega)
  have hR3 : Ext W ((w1.setCell ⟨W.heap.size, 2, none⟩ (.int .i64 1)).setCell ⟨W.heap.size, 3, none⟩ (.int .i64 1)) := below_grown (unhide HB).2.2 ((grownBy_set _ _ _ _).trans (grownBy_set _ _ _ _)) (unhide HB).2.2.size (Nat.le_refl _)
  have HB2 := hide (And.intro hR1 (And.intro hR2 hR3))
  obtain ⟨q0, q1, q2, q3, q4, q5⟩ := (unhide HB).1.six
  obtain ⟨z0, z1, z2, z3, z4, z5⟩ := (unhide HB).1.frees
  clear HB hP hR1 hR2 hR3
  have hab : (repI I).L = absL L := (unhide HI).abs
  have HAB := hide hab
  clear hab
  go_upto_region 4 with fail
  generalize (w1.setCell ⟨W.heap.size, 2, none⟩ (.int .i64 1)).setCell ⟨W.heap.size, 3, none⟩ (.int .i64 1) = w2 at HB2 ⊢
  clear q0 q1 q2 q3 q4 q5 z0 z1 z2 z3 z4 z5
  have hm1 := Int.emod_nonneg (max mo 0) (show (1000 : Int) ≠ 0 by decide)
  have hm2 := Int.emod_lt_of_pos (max mo 0) (show (0 : Int) < 1000 by decide)
  obtain ⟨m, hm⟩ : ∃ m, max mo 0 % 1000 = m := ⟨_, rfl⟩
  rw [hm] at hm1 hm2
  have HM := hide hm
  clear hm
  go_cut [7] (fun x wc => ∃ w3, w3 = wc ∧ x = .int .i64 (m * 65536) ∧ w2 = wc)
  case first =>
    by_cases sm : 0 ≤ mo
    · have em : max mo 0 = mo := by omega
      have hm := unhide HM
      rw [em] at hm
      go_wp2
      go_meet
      exact ⟨_, rfl, by first | rfl | rw [hm], rfl⟩
    · have em : max mo 0 = 0 := by omega
      have hm := unhide HM
      rw [em] at hm
      go_wp2
      go_meet
      exact ⟨_, rfl, by rw [← hm]; rfl, rfl⟩
  case rest =>
  obtain ⟨w3, rfl, rfl, rfl⟩ := hcut
  obtain ⟨u1, u2⟩ := (unhide HU).1
  obtain ⟨v1, v2⟩ := (unhide HU).2.1
  obtain ⟨q0, q1, q2, q3, q4, q5⟩ := (unhide HB2).1.six
  obtain ⟨p0, p1, p2, p3, p4, p5⟩ := (unhide HB2).2.1.six
  by_cases cu : 1073741824 < u
  · go_wp2
    go_ret
    exact ⟨rfl, (unhide HB2).2.2⟩
  by_cases cv : 1073741824 < q
  · go_wp2
    go_ret
    exact ⟨rfl, (unhide HB2).2.2⟩
  have hLen : L.length ≤ 4000000000000 := by have := (unhide HI).len; omega
  have HUU : Hid (I32 (u + m * 65536)) := ⟨by omega, by omega⟩
  have HVV : Hid (I32 (q + m * 65536)) := ⟨by omega, by omega⟩
  go_wp2_with fail
  refine (linear_any (I := repI I) ((unhide HI).lr.ext (unhide HB2).2.2) hLen (unhide HAB) (unhide HBY) lv u q (unhide HU).1 (unhide HU).2.1).mono ?_
  rintro e w4 ⟨rfl, hx4⟩
  have E1 : Hid (∀ c, lnV (repI I) lv (u + m * 65536) (q + m * 65536) c = lnV (repI I) lv u q c) := fun c => rep_lnV c
  have E2 : Hid (nrV (repI I) lv (u + m * 65536) q = nrV (repI I) lv u q) := rep_nrV
  have HER := hide (show rfE (repI I) lv = rfE (repI I) lv from rfl)
  generalize hA : lnV (repI I) lv u q = A at *
  generalize hC : nrV (repI I) lv u q = C at *
  generalize hER : rfE (repI I) lv = er at *
  have hx5 := hx4.alloc (.cells #[.int .i32 (A 0), .int .i32 (A 1), .int .i32 (A 2), .int .i32 (A 3)] 31)
  have HB5 := hide (And.intro ((unhide HB2).1.ext hx5) (And.intro ((unhide HB2).2.1.ext hx5) (And.intro (Blk.new w4 #[.int .i32 (A 0), .int .i32 (A 1), .int .i32 (A 2), .int .i32 (A 3)] 31) ((unhide HB2).2.2.trans hx5))))
  clear HB2 hx4 hx5 q0 q1 q2 q3 q4 q5 p0 p1 p2 p3 p4 p5
  go_upto_region 8 with fail
  generalize hw5 : w4.alloc (.cells #[.int .i32 (A 0), .int .i32 (A 1), .int .i32 (A 2), .int .i32 (A 3)] 31) = w5 at HB5 ⊢
  clear hw5
  obtain ⟨q0, q1, q2, q3, q4, q5⟩ := (unhide HB5).1.six
  obtain ⟨p0, p1, p2, p3, p4, p5⟩ := (unhide HB5).2.1.six
  go_wp2_with fail
  refine (linear_any (I := repI I) ((unhide HI).lr.ext (unhide HB5).2.2.2) hLen (unhide HAB) (unhide HBY) lv (u + m * 65536) (q + m * 65536) (unhide HUU) (unhide HVV)).mono ?_
  rintro e w6 ⟨rfl, hx6⟩
  rw [unhide E1 0, unhide E1 1, unhide E1 2, unhide E1 3, hER]
  have hx7 := hx6.alloc (.cells #[.int .i32 (A 0), .int .i32 (A 1), .int .i32 (A 2), .int .i32 (A 3)] 31)
  have HB7 := hide (And.intro ((unhide HB5).1.ext hx7) (And.intro ((unhide HB5).2.1.ext hx7) (And.intro ((unhide HB5).2.2.1.ext hx7) (And.intro (Blk.new w6 #[.int .i32 (A 0), .int .i32 (A 1), .int .i32 (A 2), .int .i32 (A 3)] 31) ((unhide HB5).2.2.2.trans hx7)))))
  clear HB5 hx6 hx7 q0 q1 q2 q3 q4 q5 p0 p1 p2 p3 p4 p5
  go_upto_region 9 with fail
  generalize hw7 : w6.alloc (.cells #[.int .i32 (A 0), .int .i32 (A 1), .int .i32 (A 2), .int .i32 (A 3)] 31) = w7 at HB7 ⊢
  clear hw7
  obtain ⟨q0, q1, q2, q3, q4, q5⟩ := (unhide HB7).1.six
  obtain ⟨p0, p1, p2, p3, p4, p5⟩ := (unhide HB7).2.1.six
  go_wp2_with fail
  refine (nearest_any (I := repI I) ((unhide HI).lr.ext (unhide HB7).2.2.2.2) hLen (unhide HAB) (unhide HBY) lv u q (unhide HU).1 (unhide HU).2.1).mono ?_
  rintro e w8 ⟨rfl, hx8⟩
  rw [hC, hER]
  have hx9 := hx8.alloc (.cells #[.int .i32 (C 0), .int .i32 (C 1), .int .i32 (C 2), .int .i32 (C 3)] 31)
  have HB9 := hide (And.intro ((unhide HB7).1.ext hx9) (And.intro ((unhide HB7).2.1.ext hx9) (And.intro ((unhide HB7).2.2.1.ext hx9) (And.intro ((unhide HB7).2.2.2.1.ext hx9) (And.intro (Blk.new w8 #[.int .i32 (C 0), .int .i32 (C 1), .int .i32 (C 2), .int .i32 (C 3)] 31) ((unhide HB7).2.2.2.2.trans hx9))))))
  clear HB7 hx8 hx9 q0 q1 q2 q3 q4 q5 p0 p1 p2 p3 p4 p5
  go_upto_region 10 with fail
  generalize hw9 : w8.alloc (.cells #[.int .i32 (C 0), .int .i32 (C 1), .int .i32 (C 2), .int .i32 (C 3)] 31) = w9 at HB9 ⊢
  clear hw9
  obtain ⟨q0, q1, q2, q3, q4, q5⟩ := (unhide HB9).1.six
  obtain ⟨p0, p1, p2, p3, p4, p5⟩ := (unhide HB9).2.1.six
  go_wp2_with fail
  refine (nearest_any (I := repI I) ((unhide HI).lr.ext (unhide HB9).2.2.2.2.2) hLen (unhide HAB) (unhide HBY) lv (u + m * 65536) q (unhide HUU) (unhide HU).2.1).mono ?_
  rintro e w10 ⟨rfl, hx10⟩
  rw [unhide E2, hER]
  have hx11 := hx10.alloc (.cells #[.int .i32 (C 0), .int .i32 (C 1), .int .i32 (C 2), .int .i32 (C 3)] 31)
  have HB11 := hide (And.intro ((unhide HB9).2.2.1.ext hx11) (And.intro ((unhide HB9).2.2.2.1.ext hx11) (And.intro ((unhide HB9).2.2.2.2.1.ext hx11) (And.intro (Blk.new w10 #[.int .i32 (C 0), .int .i32 (C 1), .int .i32 (C 2), .int .i32 (C 3)] 31) ((unhide HB9).2.2.2.2.2.trans hx11)))))
  clear HB9 hx10 hx11 q0 q1 q2 q3 q4 q5 p0 p1 p2 p3 p4 p5
  go_upto_region 11 with fail
  generalize hw11 : w10.alloc (.cells #[.int .i32 (C 0), .int .i32 (C 1), .int .i32 (C 2), .int .i32 (C 3)] 31) = w11 at HB11 ⊢
  clear hw11
  obtain ⟨x0, x1, x2, x3⟩ := (unhide HB11).1.vecs
  obtain ⟨y0, y1, y2, y3⟩ := (unhide HB11).2.1.vecs
  obtain ⟨v0, v1', v2', v3⟩ := (unhide HB11).2.2.1.vecs
  obtain ⟨t0, t1, t2, t3⟩ := (unhide HB11).2.2.2.1.vecs
  clear E1 E2 HER hA hC hER
  go_wp2
  go_ret
  exact ⟨by simp, (unhide HB11).2.2.2.2⟩

set_option maxRecDepth 10000
theorem repeats_owes (H : Type) (enc : TypeId × Value → H) (W : World) (base : Nat) (args : Array Value) (ds : List (DataW H)) (p : List MemPlace) : Owes H enc Try.prog 3 Try.f3 Rows.sampleRepeatsSpec W base args ds p := by
  intro hval hA hsz
  rw [Try.params3] at hA hval hsz
  obtain ⟨v0, vs0, d0, ds0, p0, q0, hargs, rfl, rfl, h0, r0⟩ := trodAll_cons hA
  obtain ⟨v1, vs1, d1, ds1, p1, q1, rfl, rfl, rfl, h1, r1⟩ := trodAll_cons r0
  obtain ⟨v2, vs2, d2, ds2, p2, q2, rfl, rfl, rfl, h2, r2⟩ := trodAll_cons r1
  obtain ⟨rfl, rfl, rfl⟩ := trodAll_nil r2
  obtain rfl : args = #[v0, v1, v2] := by cases args; simp_all
  obtain ⟨I, u0, L0, rfl, hI⟩ := open_img (hval 0 24 v0 rfl rfl) h0 (Wgt.arg (j := 0) hsz rfl rfl)
  obtain ⟨u, q, lod, lv, i, j, rfl, hu, hq, hl, _, _, _⟩ := open_at (hval 1 27 v1 rfl rfl) h1
  obtain ⟨mo, rfl, rfl, rfl, wmo⟩ := open_int Try.underlying3 (hval 2 3 v2 rfl rfl) h2
  exact ⟨⟨rfl, rfl, rfl⟩, repeats_walk hI u q lod lv i j mo hu hq hl⟩

set_option maxRecDepth 100000 in
theorem repeats_lifted (os : Os) (started : os.Started) (H : Type) (enc : TypeId × Value → H) :
    ReturnsInHanded {} Try.checked os 3 .any (Rows.sampleRepeatsSpec.pre6 enc Try.prog Try.f3 [] false) (Rows.sampleRepeatsSpec.post enc Try.prog Try.f3 false true false false) :=
  lift_law (C := Try.checked) own laidOut started (by kernel_rfl) Try.func3 (T := 4) rfl Try.underlying4 rfl (by kernel_rfl)
    (ChangeSpec.witness6 (enc := enc) (C := Try.checked) false ⟨#[], #[.agg #[.int .i64 0, .slice none 0 0, .int .i64 0, .int .i64 0, .int .i64 0, .int .i64 0], .agg #[.int .i32 0, .int .i32 0, .int .i32 0, .int .i64 0, .int .i64 0, .int .i64 0], .int .i64 0], []⟩ 8 (by kernel_rfl) (by kernel_rfl) (by kernel_rfl) (by kernel_rfl)) (repeats_owes H enc)

theorem sampleRepeats_holds : Rows.SampleRepeatsSaid :=
  OpenClaim.holds_of_wide 3 Try.f3 rfl rfl rfl rfl rfl rfl rfl ⟨rfl, rfl, rfl, rfl, rfl⟩ rfl rfl rfl rfl rfl (by kernel_rfl) Try.func3 (by kernel_rfl)
    (of_decide_eq_true (by kernel_rfl)) (by unfold Func.isWrapper; rw [if_neg (of_decide_eq_false (by kernel_rfl))]; exact ⟨rfl, rfl⟩)
    (fun os started H enc _ => repeats_lifted os started H enc)
#print axioms sampleRepeats_holds
end Go.Proofs.Ytgblnipfeikomab
