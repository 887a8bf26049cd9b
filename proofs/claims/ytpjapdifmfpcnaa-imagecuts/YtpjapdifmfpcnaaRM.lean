/-
  Images: the document's Get, of a piece that lies in a level.
-/
import Derived.Test.YtpjapdifmfpcnaaRL
namespace Go.Proofs.Ytpjapdifmfpcnaa
open Go.RowKit
set_option linter.unusedVariables false
set_option linter.unusedSimpArgs false

section
variable {w : World} {v : Value} {L : List Ent} {I : Img}
set_option maxRecDepth 10000 in
set_option maxHeartbeats 4000000 in
theorem refGet_good (h : LR w v L) (hL : L.length ≤ 1000) (hA : I.L = absL L) (k X Y pw ph s W H : Nat) (hk : k < L.length) (hs : sizI I.f = (s : Int)) (hs0 : s ≠ 0) (hW : L[k].1 = (W : Int)) (hH : L[k].2.1 = (H : Int)) (hW6 : W ≤ 64) (hH6 : H ≤ 64)
    (hx : X + pw ≤ W) (hy : Y + ph ≤ H) (hlen : L[k].2.2.2.length = W * H * s) (hE : pieceE I k X Y pw ph = 0) :
    Calls Try.prog 14 #[.agg #[.int .i64 I.f, v, .int .i64 I.ws, .int .i64 I.wt, .int .i64 I.mn, .int .i64 I.mg], .int .i64 (k : Int), .agg #[.int .i64 (X : Int), .int .i64 (Y : Int), .int .i64 (pw : Int), .int .i64 (ph : Int)]] w fun e w' => ∃ ao cap, e = .returned (.tuple #[.slice ao (pw * ph * s) cap, .int .i64 0]) ∧
      Own .u8 w' w.heap.size 5 (.slice ao (pw * ph * s) cap) (getK s L[k].2.2.2 (pq W X Y pw) (pw * ph)) ∧ Ext w w' := by
  obtain ⟨_, _, _, hs4⟩ := chs_sum hs hs0
  obtain ⟨ao, cap, rfl, hao, hlc, hcm, _⟩ := h.shape
  have hcm2 : cap ≤ 9223372036854775807 := by unfold maxLen at hcm; omega
  obtain ⟨i0, hi, hz0, hz1, hz2⟩ := info_parts info5
  obtain ⟨b, off, bo, bcap, eao, eb, c0, c1, c2, hr⟩ := h.at k hk
  rw [hW] at c0
  rw [hH] at c1
  have HA := hide hA
  have HH := hide h
  obtain ⟨hok, hh, hin⟩ := pieceE_zero hE
  have HTH : Hid (thB (absL L) k = true) := by
    show _ = _
    rw [th_has (s := sizI I.f) (by rw [← hA]; exact (okB_iff.1 hok).2.2.1) k, ← hA]
    exact hh
  have HIN : Hid (inP (W : Int) (H : Int) X Y pw ph = true) := by
    show _ = _
    rw [hA, Int.toNat_natCast, absL_getD L k hk] at hin
    have e1 : (absE L[k]).1 = L[k].1 := rfl
    have e2 : (absE L[k]).2.1 = L[k].2.1 := rfl
    rw [e1, e2, hW, hH] at hin
    exact hin
  have HOK := hide hok
  have HSZ : Hid (∀ wx, Calls Try.prog 29 #[.int .i64 I.f] wx fun e w' => e = .returned (.int .i64 (s : Int)) ∧ w' = wx) := fun wx => by rw [← hs]; exact refSize_any I.f wx
  have hX1 := ((Ext.refl w).alloc (.cells #[.int .i64 I.f, .slice ao L.length cap, .int .i64 I.ws, .int .i64 I.wt, .int .i64 I.mn, .int .i64 I.mg] 24)).alloc (.cells #[.int .i64 (X : Int), .int .i64 (Y : Int), .int .i64 (pw : Int), .int .i64 (ph : Int)] 26)
  have hB1 := (Blk.new w #[.int .i64 I.f, .slice ao L.length cap, .int .i64 I.ws, .int .i64 I.wt, .int .i64 I.mn, .int .i64 I.mg] 24).alloc (.cells #[.int .i64 (X : Int), .int .i64 (Y : Int), .int .i64 (pw : Int), .int .i64 (ph : Int)] 26)
  have hP1 : Blk ((w.alloc (.cells #[.int .i64 I.f, .slice ao L.length cap, .int .i64 I.ws, .int .i64 I.wt, .int .i64 I.mn, .int .i64 I.mg] 24)).alloc (.cells #[.int .i64 (X : Int), .int .i64 (Y : Int), .int .i64 (pw : Int), .int .i64 (ph : Int)] 26)) (w.heap.size + 1) #[.int .i64 (X : Int), .int .i64 (Y : Int), .int .i64 (pw : Int), .int .i64 (ph : Int)] 26 := Blk.at (by simp)
  have H1 := hide (And.intro hX1 (And.intro hB1 hP1))
  have hkn : (k : Int) < (L.length : Int) := by omega
  have m1 : pw * ph ≤ 64 * 64 := Nat.mul_le_mul (by omega) (by omega)
  have m2 : pw * ph * s ≤ 4096 * 4 := Nat.mul_le_mul m1 hs4
  subst eao
  generalize L[k].2.2.2 = bs at *
  have HLEN := hide hlen
  have HR := hide hr
  have HC := hide (And.intro c0 (And.intro c1 c2))
  clear h hA hao hcm hX1 hB1 hP1 hE hok hh hin hs hlen hW hH eb c0 c1 c2 hr
  go_enter Try.func14, Try.ntmps14
  go_wp2_with fail
  refine (refRight_any (I := I) ((unhide HH).ext (unhide H1).1) (unhide HA)).mono ?_
  rintro e w3 ⟨rfl, hx3⟩
  rw [unhide HOK]
  have H3 := hide (And.intro ((unhide H1).1.trans hx3) (And.intro ((unhide H1).2.1.ext hx3) ((unhide H1).2.2.ext hx3)))
  clear H1 hx3
  obtain ⟨q0, q1, q2, q3, q4, q5⟩ := (unhide H3).2.1.six
  go_wp2_with fail
  refine (refThere_any (I := I) ((unhide HH).ext (unhide H3).1) k).mono ?_
  rintro e w4 ⟨rfl, hx4⟩
  rw [unhide HTH]
  have H4 := hide (And.intro ((unhide H3).1.trans hx4) (And.intro ((unhide H3).2.1.ext hx4) ((unhide H3).2.2.ext hx4)))
  clear H3 hx4 q0 q1 q2 q3 q4 q5 HTH
  have hc4 : ∀ j u, w.cell? ⟨b, j, none⟩ = some u → w4.cell? ⟨b, j, none⟩ = some u := fun j u hu => by
    rw [(unhide H4).1.cell (p := ⟨b, j, none⟩) (World.block_lt_of_cell? w _ hu)]
    exact hu
  have c0 := hc4 _ _ (unhide HC).1
  have c1 := hc4 _ _ (unhide HC).2.1
  have c2 := hc4 _ _ (unhide HC).2.2
  have m0 := cell_later (unhide H4).2.1.six.2.1
  have m1' := cell_later c0
  have m2' := cell_later c1
  have m3 := cell_later c2
  obtain ⟨p0, p1, p2, p3⟩ := (unhide H4).2.2.four
  have n0 := cell_later p0
  have n1 := cell_later p1
  have n2 := cell_later p2
  have n3 := cell_later p3
  have hne := Later.some w4
  clear c0 c1 c2 p0 p1 p2 p3 hc4
  go_wp2
  refine wp_region_later (by kernel_rfl) (by kernel_rfl) ?_
  repeat (go_big_quiet_step (first | (go_at_call 33; refine calls_later (refWithin_any W H X Y pw ph _ bo bs.length bcap rfl (by omega) (by omega) _))))
  refine wpQuiet_nil ?_
  rintro _ ⟨x, rfl⟩
  have hxx := x.ext
  have hc5 : ∀ j u, w.cell? ⟨b, j, none⟩ = some u → x.w.cell? ⟨b, j, none⟩ = some u := fun j u hu => by
    rw [((unhide H4).1.trans hxx).cell (p := ⟨b, j, none⟩) (World.block_lt_of_cell? w _ hu)]
    exact hu
  have c0 := hc5 _ _ (unhide HC).1
  have c1 := hc5 _ _ (unhide HC).2.1
  have c2 := hc5 _ _ (unhide HC).2.2
  have H5 := hide (And.intro ((unhide H4).1.trans hxx) (And.intro ((unhide H4).2.1.ext hxx) (And.intro ((unhide H4).2.2.ext hxx) ((unhide HR).ext ((unhide H4).1.trans hxx)))))
  clear m0 m1' m2' m3 n0 n1 n2 n3 hne hc5 HC HR H4
  generalize x.w = w5 at *
  clear hxx x
  rw [unhide HIN]
  obtain ⟨q0, q1, q2, q3, q4, q5⟩ := (unhide H5).2.1.six
  have hx6 := (Ext.refl w5).alloc (.cells #[.int .i64 (W : Int), .int .i64 (H : Int), .slice bo bs.length bcap] 48)
  have r0 := ((unhide H5).2.1.ext hx6).six.1
  have H6 := hide (And.intro ((unhide H5).1.trans hx6) (And.intro ((unhide H5).2.2.1.ext hx6) (And.intro ((unhide H5).2.2.2.ext hx6) (Blk.new w5 #[.int .i64 (W : Int), .int .i64 (H : Int), .slice bo bs.length bcap] 48))))
  have hz5 := (unhide H5).2.2.1.lt
  clear hx6 H5
  obtain ⟨p0, p1, p2, p3⟩ := (unhide H6).2.1.four
  go_wp2_with (first | (go_at_call 29; refine (unhide HSZ _).mono ?_; rintro e ws ⟨rfl, rfl⟩))
  generalize hBl : w5.heap.size = Bl at H6 hz5 ⊢
  generalize w5.alloc (.cells #[.int .i64 (W : Int), .int .i64 (H : Int), .slice bo bs.length bcap] 48) = w6 at H6 ⊢
  clear hBl p0 p1 p2 p3 q0 q1 q2 q3 q4 q5 r0 c0 c1 c2 HSZ HIN
  obtain ⟨_, _, eb9, _, hbc, hbm⟩ := (unhide H6).2.2.1.shape
  cases eb9
  have hbm2 : bcap ≤ 9223372036854775807 := by unfold maxLen at hbm; omega
  go_loopw [10, 11] (fun ov yv wr => ∃ j : Nat, j ≤ ph ∧ yv = .int .i64 ((Y : Int) + (j : Int)) ∧ Own .u8 wr w6.heap.size 5 ov (getK s bs (pq W X Y pw) (j * pw)) ∧ Ext w6 wr) (fun _ yv _ => Y + ph - (intOf yv).toNat)
  case atStart => exact ⟨0, by omega, by simp, by rw [Nat.zero_mul]; exact Own.nil _ _ _ _, Ext.refl _⟩
  case round =>
    obtain ⟨j, hj, rfl, hown, hxr⟩ := hrel
    obtain ⟨p0, p1, p2, p3⟩ := ((unhide H6).2.1.ext hxr).four
    have HO := hide (And.intro hown hxr)
    by_cases hlt : j < ph
    · have hlt2 : (Y : Int) + (j : Int) < (Y : Int) + (ph : Int) := by omega
      obtain ⟨oo, oc, rfl⟩ := hown.shape
      clear hown hxr
      go_wp2_with fail
      go_loopw [10, 12] (fun ov xv wq => ∃ i : Nat, i ≤ pw ∧ xv = .int .i64 ((X : Int) + (i : Int)) ∧ Own .u8 wq w6.heap.size 5 ov (getK s bs (pq W X Y pw) (j * pw + i)) ∧ Ext w6 wq) (fun _ xv _ => X + pw - (intOf xv).toNat)
      case atStart => exact ⟨0, by omega, by simp, by rw [Nat.add_zero]; exact (unhide HO).1, (unhide HO).2⟩
      case round =>
        clear HO p0 p1 p2 p3
        obtain ⟨i, hi9, rfl, hown, hxr⟩ := hrel
        obtain ⟨p0, p1, p2, p3⟩ := ((unhide H6).2.1.ext hxr).four
        obtain ⟨l0, l1, l2⟩ := ((unhide H6).2.2.2.ext hxr).three
        obtain ⟨oo2, oc2, rfl⟩ := hown.shape
        by_cases hlt3 : i < pw
        · have hlt4 : (X : Int) + (i : Int) < (X : Int) + (pw : Int) := by omega
          have hk9 : j * pw + i < pw * ph := by
            have h1 : (j + 1) * pw ≤ ph * pw := Nat.mul_le_mul_right _ (by omega)
            rw [Nat.succ_mul, Nat.mul_comm ph] at h1
            omega
          have hpq := pq_row (W := W) (X := X) (Y := Y) (w := pw) (j := j) (i := i) hlt3
          have hpl := pq_lt hx hy hk9
          obtain ⟨q, hq⟩ : ∃ q, q = pq W X Y pw (j * pw + i) := ⟨_, rfl⟩
          rw [← hq] at hpq hpl
          have hqs : (q + 1) * s ≤ bs.length := by
            rw [unhide HLEN]
            exact Nat.mul_le_mul_right _ hpl
          have hqs2 := hqs
          rw [Nat.succ_mul] at hqs2
          have hm : (Y + j) * W ≤ 64 * 64 := Nat.mul_le_mul (by omega) hW6
          have em : ((Y : Int) + (j : Int)) * (W : Int) = (((Y + j) * W : Nat) : Int) := by simp
          have z1 : ((Y : Int) + (j : Int)) * (W : Int) ≤ 4096 := by omega
          have z0 : 0 ≤ ((Y : Int) + (j : Int)) * (W : Int) := by omega
          have eq1 : ((Y : Int) + (j : Int)) * (W : Int) + ((X : Int) + (i : Int)) = (q : Int) := by rw [hpq, em]; simp
          have eq2 : (((Y : Int) + (j : Int)) * (W : Int) + ((X : Int) + (i : Int))) * (s : Int) = ((q * s : Nat) : Int) := by rw [eq1]; simp
          have z2 : (((Y : Int) + (j : Int)) * (W : Int) + ((X : Int) + (i : Int))) * (s : Int) ≤ 9223372036854775807 := by omega
          have z3 : 0 ≤ (((Y : Int) + (j : Int)) * (W : Int) + ((X : Int) + (i : Int))) * (s : Int) := by omega
          have hcl := cellL_len (s := s) (q := q) (xs := bs) hqs
          have hgl : (getK s bs (pq W X Y pw) (j * pw + i)).length = (j * pw + i) * s := getK_len _ (fun n hn => by
            rw [unhide HLEN]
            exact Nat.mul_le_mul_right _ (pq_lt hx hy (by omega)))
          have hgm : (j * pw + i) * s ≤ pw * ph * s := Nat.mul_le_mul_right _ (by omega)
          have hsn : getK s bs (pq W X Y pw) (j * pw + (i + 1)) = getK s bs (pq W X Y pw) (j * pw + i) ++ cellL s bs q := by
            rw [show j * pw + (i + 1) = (j * pw + i) + 1 by omega, getK, hq]
          have HEQ := hide eq2
          have HSN := hide hsn
          have HO := hide (And.intro hown hxr)
          have hpos : 0 < bs.length := by
            have h1 : 1 * 1 ≤ (q + 1) * s := Nat.mul_le_mul (by omega) (by omega)
            omega
          obtain ⟨b9, o9, e9, hp9⟩ := ((unhide H6).2.2.1.ext hxr).part (q * s) s (by omega) hqs2
          subst e9
          have HP9 : Hid (Row .u8 wr (.slice (some ⟨b9, o9 + q * s, none⟩) s (bcap - q * s)) (cellL s bs q)) := hp9
          have HGL := hide hgl
          have HCL := hide hcl
          clear hown hxr hp9 em eq1 eq2 hm hpq hpl hq hqs hsn hgl hcl
          go_upto_region 16 with fail
          go_cut [13] (fun p wc => p = .int .i64 ((q * s : Nat) : Int) ∧ wr = wc)
          case first =>
            go_wp2
            go_meet
            exact ⟨by rw [unhide HEQ], rfl⟩
          case rest =>
          obtain ⟨rfl, rfl⟩ := hcut
          obtain ⟨a, ha⟩ : ∃ a, a = q * s := ⟨_, rfl⟩
          rw [← ha] at HP9 hqs2 ⊢
          clear ha HEQ z0 z1 z2 z3
          have hab : (a : Int) ≤ (a : Int) + (s : Int) := by omega
          have hac : (a : Int) + (s : Int) ≤ (bcap : Int) := by omega
          have hne2 : ¬ bcap = a := by omega
          have hne3 : ¬ (bcap : Int) = (a : Int) := by omega
          have hsa : ((a : Int) + (s : Int) - (a : Int)) = (s : Int) := by omega
          have HP8 : Hid (Row .u8 wr (.slice (some ⟨b9, o9 + a, none⟩) (a + s - a) (bcap - a)) (cellL s bs q)) := by rw [Nat.add_sub_cancel_left]; exact unhide HP9
          go_wp2_with (at_builtin; refine wpList_append_Own rfl (.tmp 70) (.tmp 77) 27 rfl w6.heap.size 5 i0 .u8 1 Try.underlying27 hi hz0 hz1 hz2 _ (getK s bs (pq W X Y pw) (j * pw + i)) rfl (unhide HO).1 _ (cellL s bs q) rfl (unhide HP8) ?c1 ?c2 ?c3 ?_)
          case c1 => rw [unhide HGL, unhide HCL]; unfold maxLen; omega
          case c2 => rw [unhide HGL, unhide HCL]; omega
          case c3 => exact (unhide HO).2.size
          intro v' w8 hown8 hg8
          rw [← unhide HSN] at hown8
          have hx8 : Ext w6 w8 := (unhide HO).2.grown hg8 (unhide HO).2.size (fun r e => ((unhide HO).1.lt r e).1)
          obtain ⟨oo3, oc3, rfl⟩ := hown8.shape
          have H8 := hide (And.intro hown8 hx8)
          clear hown8 hg8 hx8
          go_wp2
          go_roundw
          case rel => exact ⟨i + 1, by omega, by go_num, (unhide H8).1, (unhide H8).2⟩
          case measure => simp [intOf]; omega
        · obtain rfl : i = pw := by omega
          have hnl : ¬ (X : Int) + (i : Int) < (X : Int) + (i : Int) := by omega
          have HO := hide (And.intro hown hxr)
          clear hown hxr
          go_wp2
          go_roundw
          case rel => exact ⟨j + 1, by omega, by go_num, by rw [Nat.succ_mul]; exact (unhide HO).1, (unhide HO).2⟩
          case measure => simp [intOf]; omega
    · obtain rfl : j = ph := by omega
      have hnl : ¬ (Y : Int) + (j : Int) < (Y : Int) + (j : Int) := by omega
      have hgl : (getK s bs (pq W X Y pw) (pw * j)).length = pw * j * s := getK_len _ (fun n hn => by
        rw [unhide HLEN]
        exact Nat.mul_le_mul_right _ (pq_lt hx hy hn))
      rw [Nat.mul_comm j pw] at hown HO
      obtain ⟨oo2, oc2, rfl⟩ := hown.shape
      rw [hgl] at HO ⊢
      clear hown hxr hgl
      go_wp2
      go_ret2
      exact ⟨oo2, oc2, rfl, (unhide HO).1.lower (unhide H6).1.size, (unhide H6).1.trans (unhide HO).2⟩
end
end Go.Proofs.Ytpjapdifmfpcnaa
