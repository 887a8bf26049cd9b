/-
  Images: the document's Sub.
-/
import Derived.Test.YtpjapdifmfpcnaaRM
import Derived.Test.YtpjapdifmfpcnaaRB
namespace Go.Proofs.Ytpjapdifmfpcnaa
open Go.RowKit
set_option linter.unusedVariables false
set_option linter.unusedSimpArgs false

/-- 'copy' into a part of a row of the call's own, the part as long as what is copied or longer. -/
theorem copy_in2 {w : World} {base g n c : Nat} {xs ys : List Int} (ho : Own .u8 w base 5 (.slice (some ⟨g, 0, none⟩) n c) xs) (p dl sl : Nat) (hd : ys.length ≤ dl) (hsl : sl = ys.length) (hp : p + ys.length ≤ xs.length) {bo : Option Addr} {bcap : Nat} (hr : Row .u8 w (.slice bo ys.length bcap) ys) (hne : 0 < ys.length) (cap2 : Nat) :
    ∃ w', (∀ ty, (Builtin.copy_ #[27, 27] ty #[.slice (some ⟨g, p, none⟩) dl cap2, .slice bo sl bcap]).run Try.prog w = .ok (goInt ys.length) w') ∧ Own .u8 w' base 5 (.slice (some ⟨g, 0, none⟩) n c) (layB xs p ys) ∧ w.grownBy w' (some g) := by
  subst hsl
  have hl : n = xs.length := by obtain ⟨_, _, e⟩ := ho.shape; cases e; rfl
  subst hl
  obtain ⟨hlen, hown⟩ := ho
  rcases hown with ⟨e, _⟩ | ⟨g2, c2, cur, e, hbase, hblk, hnc, hccm, hsz, hcur⟩
  · cases e
  cases e
  obtain ⟨b, off, rfl, hc⟩ := hr.at 0 hne
  simp only [Nat.mul_one] at hsz hcur
  have hl2 : (ys.map (Value.int .u8)).length = ys.length := by simp
  have hrun := fun ty => run_copy_row (P := Try.prog) w 27 27 ty 5 g p dl cap2 ⟨b, off, none⟩ ys.length bcap cur 5 (ys.map (Value.int .u8)) Try.underlying27 size8 hblk (by rw [hl2]; exact (Nat.min_eq_left hd).symm)
    (by
      refine Row.news fun i hi => ?_
      rw [hc i hi]
      simp [hi]) (by rw [hl2, hsz]; omega) (ints_oneCell _ _)
  rw [hl2] at hrun
  refine ⟨_, hrun, ?_, ⟨rfl, rfl, rfl, by simp [World.setRow], fun k _ hk => setRow_other w g k _ (fun e => hk (by rw [e]))⟩⟩
  have hnew := setRow_heap w g cur (cur.toList.take p ++ ys.map (Value.int .u8) ++ cur.toList.drop (p + ys.length)).toArray 5 (0, 0) hblk
  have hlb := layB_len hp
  refine ⟨by simp, .inr ⟨g, c, _, by rw [hlb], hbase, hnew, by rw [hlb]; exact hnc, hccm, ?_, ?_⟩⟩
  · simp
    omega
  · rw [hlb, Nat.mul_one]
    unfold layB
    have e1 : cur.toList.take p = (xs.take p).map (Value.int .u8) := by
      rw [List.map_take, ← hcur, List.take_take, Nat.min_eq_left (by omega)]
    have e2 : (cur.toList.drop (p + ys.length)).take (xs.length - (p + ys.length)) = (xs.drop (p + ys.length)).map (Value.int .u8) := by
      rw [List.map_drop, ← hcur, List.drop_take]
    simp only [List.map_append, List.append_assoc]
    rw [e1, ← e2]
    have l1 : ((xs.take p).map (Value.int .u8)).length = p := by simp; omega
    rw [← List.append_assoc, List.take_append, List.take_of_length_le (by rw [List.length_append, l1, hl2]; omega), List.length_append, l1, hl2, List.append_assoc]

section
variable {w : World} {v : Value} {L : List Ent} {I : Img}
theorem refGet_all (h : LR w v L) (hL : L.length ≤ 1000) (hA : I.L = absL L) (lv X Y pw ph : Int) :
    Calls Try.prog 14 #[.agg #[.int .i64 I.f, v, .int .i64 I.ws, .int .i64 I.wt, .int .i64 I.mn, .int .i64 I.mg], .int .i64 lv, .agg #[.int .i64 X, .int .i64 Y, .int .i64 pw, .int .i64 ph]] w fun e w' => ∃ ao cap, e = .returned (.tuple #[.slice ao (getB I lv X Y pw ph).length cap, .int .i64 (pieceE I lv X Y pw ph)]) ∧
      Own .u8 w' w.heap.size 5 (.slice ao (getB I lv X Y pw ph).length cap) (getB I lv X Y pw ph) ∧ Ext w w' := by
  by_cases hE : pieceE I lv X Y pw ph = 0
  · obtain ⟨k, x, y, a, b, s, W, H, hk, rfl, rfl, rfl, rfl, rfl, hs, hs0, hW, hH, w1, h1, w6, h6, hx, hy, hlen, hlv⟩ := piece_open hA hE
    have eg : getB I k x y a b = getK s L[k].2.2.2 (pq W x y a) (a * b) := by
      unfold getB
      rw [if_pos hE, hlv, hs]
      show getK _ L[k].2.2.2 (pq L[k].1.toNat _ _ _) _ = _
      rw [hW]
      rfl
    have el : (getB I k x y a b).length = a * b * s := by
      rw [eg]
      refine getK_len _ (fun j hj => ?_)
      rw [hlen]
      exact Nat.mul_le_mul_right _ (pq_lt hx hy hj)
    refine (refGet_good h hL hA k x y a b s W H hk hs hs0 hW hH w6 h6 hx hy hlen hE).mono ?_
    rintro e w' ⟨ao, cap, rfl, ho, hxt⟩
    refine ⟨ao, cap, ?_, ?_, hxt⟩
    · rw [el, hE]
    · rw [el, eg]
      exact ho
  · have eg : getB I lv X Y pw ph = [] := by unfold getB; rw [if_neg hE]
    refine (refGet_bad h hL hA lv X Y pw ph hE).mono ?_
    rintro e w' ⟨rfl, hxt⟩
    rw [eg]
    exact ⟨none, 0, rfl, Own.nil _ _ _ _, hxt⟩

set_option maxRecDepth 10000 in
set_option maxHeartbeats 1000000 in
theorem refSub_bad (h : LR w v L) (hL : L.length ≤ 1000) (hA : I.L = absL L) (lv X Y pw ph : Int) (qo : Option Addr) (qn qcap : Nat) (hE : pieceE I lv X Y pw ph ≠ 0) :
    Calls Try.prog 10 #[.agg #[.int .i64 I.f, v, .int .i64 I.ws, .int .i64 I.wt, .int .i64 I.mn, .int .i64 I.mg], .int .i64 lv, .agg #[.int .i64 X, .int .i64 Y, .int .i64 pw, .int .i64 ph], .slice qo qn qcap] w fun e w' => e = .returned (.tuple #[.agg #[.int .i64 zimg.f, .slice none 0 0, .int .i64 zimg.ws, .int .i64 zimg.wt, .int .i64 zimg.mn, .int .i64 zimg.mg], .int .i64 (pieceE I lv X Y pw ph)]) ∧ Ext w w' := by
  obtain ⟨ao, cap, rfl, hao, hlc, hcm, _⟩ := h.shape
  have HH := hide h
  have HA := hide hA
  have hX1 := (((Ext.refl w).alloc (.cells #[.int .i64 I.f, .slice ao L.length cap, .int .i64 I.ws, .int .i64 I.wt, .int .i64 I.mn, .int .i64 I.mg] 24)).alloc (.cells #[.int .i64 X, .int .i64 Y, .int .i64 pw, .int .i64 ph] 26)).alloc (.cells #[.int .i64 0, .slice none 0 0, .int .i64 0, .int .i64 0, .int .i64 0, .int .i64 0] 24)
  have hR1 : Blk (((w.alloc (.cells #[.int .i64 I.f, .slice ao L.length cap, .int .i64 I.ws, .int .i64 I.wt, .int .i64 I.mn, .int .i64 I.mg] 24)).alloc (.cells #[.int .i64 X, .int .i64 Y, .int .i64 pw, .int .i64 ph] 26)).alloc (.cells #[.int .i64 0, .slice none 0 0, .int .i64 0, .int .i64 0, .int .i64 0, .int .i64 0] 24)) (w.heap.size + 1 + 1) #[.int .i64 0, .slice none 0 0, .int .i64 0, .int .i64 0, .int .i64 0, .int .i64 0] 24 := Blk.at (by simp)
  have H1 := hide (And.intro hX1 hR1)
  have hne : (pieceE I lv X Y pw ph != 0) = true := by rw [bne_iff_ne]; exact hE
  clear h hA hao hcm hX1 hR1 hE
  go_enter Try.func10, Try.ntmps10
  go_wp2_with fail
  refine (refGet_all (I := I) ((unhide HH).ext (unhide H1).1) hL (unhide HA) lv X Y pw ph).mono ?_
  rintro e w2 ⟨ao2, cap2, rfl, _, hx2⟩
  have HX := hide (And.intro ((unhide H1).1.trans hx2) ((unhide H1).2.ext hx2))
  clear hx2
  obtain ⟨z0, z1, z2, z3, z4, z5⟩ := (unhide HX).2.six
  obtain ⟨f0, f1, f2, f3, f4, f5⟩ := (unhide HX).2.frees
  have hB7 := (unhide HX).2.put6 (.int .i64 0) (.slice none 0 0) (.int .i64 0) (.int .i64 0) (.int .i64 0) (.int .i64 0)
  have hg7 := grown_put6 w2 (w.heap.size + 1 + 1) (.int .i64 0) (.slice none 0 0) (.int .i64 0) (.int .i64 0) (.int .i64 0) (.int .i64 0)
  have hX7 : Ext w _ := below_grown (unhide HX).1 hg7 (unhide HX).1.size (by omega)
  have H7 := hide (And.intro hB7 hX7)
  clear hB7 hg7 hX7
  generalize (getB I lv X Y pw ph).length = gn at *
  go_wp2
  obtain ⟨r0, r1, r2, r3, r4, r5⟩ := (unhide H7).1.six
  refine bodyPost_ret (v := .tuple #[.agg #[.int .i64 0, .slice none 0 0, .int .i64 0, .int .i64 0, .int .i64 0, .int .i64 0], .int .i64 (pieceE I lv X Y pw ph)]) (by simp [results, Try.results10, go_sem, r0, r1, r2, r3, r4, r5]) rfl ?_
  exact ⟨rfl, (unhide H7).2⟩

set_option maxRecDepth 10000 in
set_option maxHeartbeats 1000000 in
theorem refSub_short (h : LR w v L) (hL : L.length ≤ 1000) (hA : I.L = absL L) (k X Y pw ph s W H : Nat) (hk : k < L.length) (hs : sizI I.f = (s : Int)) (hs0 : s ≠ 0) (hW : L[k].1 = (W : Int)) (hH : L[k].2.1 = (H : Int)) (hW1 : 1 ≤ W) (hH1 : 1 ≤ H) (hW6 : W ≤ 64) (hH6 : H ≤ 64)
    (hx : X + pw ≤ W) (hy : Y + ph ≤ H) (hlen : L[k].2.2.2.length = W * H * s) (hE : pieceE I k X Y pw ph = 0) (qo : Option Addr) (qcap : Nat) (qs : List Int) (hq : Row .u8 w (.slice qo qs.length qcap) qs) (hne : qs.length ≠ pw * ph * s) :
    Calls Try.prog 10 #[.agg #[.int .i64 I.f, v, .int .i64 I.ws, .int .i64 I.wt, .int .i64 I.mn, .int .i64 I.mg], .int .i64 (k : Int), .agg #[.int .i64 (X : Int), .int .i64 (Y : Int), .int .i64 (pw : Int), .int .i64 (ph : Int)], .slice qo qs.length qcap] w fun e w' => e = .returned (.tuple #[.agg #[.int .i64 zimg.f, .slice none 0 0, .int .i64 zimg.ws, .int .i64 zimg.wt, .int .i64 zimg.mn, .int .i64 zimg.mg], .int .i64 7]) ∧ Ext w w' := by
  obtain ⟨_, _, _, hs4⟩ := chs_sum hs hs0
  obtain ⟨ao, cap, rfl, hao, hlc, hcm, _⟩ := h.shape
  obtain ⟨_, _, eq9, _, hqc, hqm⟩ := hq.shape
  cases eq9
  have hqm2 : qcap ≤ 9223372036854775807 := by unfold maxLen at hqm; omega
  have HA := hide hA
  have HH := hide h
  have HE := hide hE
  have HQ := hide hq
  have HLEN := hide hlen
  have HSZ : Hid (∀ wx, Calls Try.prog 29 #[.int .i64 I.f] wx fun e w' => e = .returned (.int .i64 (s : Int)) ∧ wx = w') := fun wx => by
    rw [← hs]
    refine (refSize_any I.f wx).mono ?_
    rintro e w' ⟨rfl, rfl⟩
    exact ⟨rfl, rfl⟩
  have hX1 := (((Ext.refl w).alloc (.cells #[.int .i64 I.f, .slice ao L.length cap, .int .i64 I.ws, .int .i64 I.wt, .int .i64 I.mn, .int .i64 I.mg] 24)).alloc (.cells #[.int .i64 (X : Int), .int .i64 (Y : Int), .int .i64 (pw : Int), .int .i64 (ph : Int)] 26)).alloc (.cells #[.int .i64 0, .slice none 0 0, .int .i64 0, .int .i64 0, .int .i64 0, .int .i64 0] 24)
  have hB1 : Blk (((w.alloc (.cells #[.int .i64 I.f, .slice ao L.length cap, .int .i64 I.ws, .int .i64 I.wt, .int .i64 I.mn, .int .i64 I.mg] 24)).alloc (.cells #[.int .i64 (X : Int), .int .i64 (Y : Int), .int .i64 (pw : Int), .int .i64 (ph : Int)] 26)).alloc (.cells #[.int .i64 0, .slice none 0 0, .int .i64 0, .int .i64 0, .int .i64 0, .int .i64 0] 24)) w.heap.size #[.int .i64 I.f, .slice ao L.length cap, .int .i64 I.ws, .int .i64 I.wt, .int .i64 I.mn, .int .i64 I.mg] 24 := ((Blk.new w _ _).alloc _).alloc _
  have hP1 : Blk (((w.alloc (.cells #[.int .i64 I.f, .slice ao L.length cap, .int .i64 I.ws, .int .i64 I.wt, .int .i64 I.mn, .int .i64 I.mg] 24)).alloc (.cells #[.int .i64 (X : Int), .int .i64 (Y : Int), .int .i64 (pw : Int), .int .i64 (ph : Int)] 26)).alloc (.cells #[.int .i64 0, .slice none 0 0, .int .i64 0, .int .i64 0, .int .i64 0, .int .i64 0] 24)) (w.heap.size + 1) #[.int .i64 (X : Int), .int .i64 (Y : Int), .int .i64 (pw : Int), .int .i64 (ph : Int)] 26 := Blk.alloc (Blk.at (by simp)) _
  have hR1 : Blk (((w.alloc (.cells #[.int .i64 I.f, .slice ao L.length cap, .int .i64 I.ws, .int .i64 I.wt, .int .i64 I.mn, .int .i64 I.mg] 24)).alloc (.cells #[.int .i64 (X : Int), .int .i64 (Y : Int), .int .i64 (pw : Int), .int .i64 (ph : Int)] 26)).alloc (.cells #[.int .i64 0, .slice none 0 0, .int .i64 0, .int .i64 0, .int .i64 0, .int .i64 0] 24)) (w.heap.size + 1 + 1) #[.int .i64 0, .slice none 0 0, .int .i64 0, .int .i64 0, .int .i64 0, .int .i64 0] 24 := Blk.at (by simp)
  have H1 := hide (And.intro hX1 (And.intro hB1 (And.intro hP1 hR1)))
  have hkn : (k : Int) < (L.length : Int) := by omega
  have m1 : pw * ph ≤ 64 * 64 := Nat.mul_le_mul (by omega) (by omega)
  have m2 : pw * ph * s ≤ 4096 * 4 := Nat.mul_le_mul m1 hs4
  have e1 : (pw : Int) * (ph : Int) = ((pw * ph : Nat) : Int) := by simp
  have e2 : (pw : Int) * (ph : Int) * (s : Int) = ((pw * ph * s : Nat) : Int) := by simp
  have b1 : (pw : Int) * (ph : Int) ≤ 4096 := by omega
  have b0 : 0 ≤ (pw : Int) * (ph : Int) := by omega
  have b2 : (pw : Int) * (ph : Int) * (s : Int) ≤ 16384 := by omega
  have b3 : 0 ≤ (pw : Int) * (ph : Int) * (s : Int) := by omega
  have hne2 : ((qs.length : Int) != (pw : Int) * (ph : Int) * (s : Int)) = true := by rw [bne_iff_ne, e2]; omega
  have hql : (qs.length : Int) ≤ 9223372036854775807 := by omega
  clear h hA hao hcm hX1 hB1 hP1 hR1 hE hq hlen hs hW hH e1 e2 hne
  go_enter Try.func10, Try.ntmps10
  go_wp2_with fail
  refine (refGet_all (I := I) ((unhide HH).ext (unhide H1).1) hL (unhide HA) k X Y pw ph).mono ?_
  rintro e w2 ⟨ao2, cap2, rfl, _, hx2⟩
  rw [unhide HE]
  generalize (getB I k X Y pw ph).length = gn at *
  have H2 := hide (And.intro ((unhide H1).1.trans hx2) (And.intro ((unhide H1).2.1.ext hx2) (And.intro ((unhide H1).2.2.1.ext hx2) ((unhide H1).2.2.2.ext hx2))))
  clear H1 hx2
  obtain ⟨q0, q1, q2, q3, q4, q5⟩ := (unhide H2).2.1.six
  obtain ⟨p0, p1, p2, p3⟩ := (unhide H2).2.2.1.four
  have hz2 := (unhide H2).2.2.2.lt
  obtain ⟨z0, z1, z2, z3, z4, z5⟩ := (unhide H2).2.2.2.six
  obtain ⟨f0, f1, f2, f3, f4, f5⟩ := (unhide H2).2.2.2.frees
  have hB7 := (unhide H2).2.2.2.put6 (.int .i64 0) (.slice none 0 0) (.int .i64 0) (.int .i64 0) (.int .i64 0) (.int .i64 0)
  have hg7 := grown_put6 w2 (w.heap.size + 1 + 1) (.int .i64 0) (.slice none 0 0) (.int .i64 0) (.int .i64 0) (.int .i64 0) (.int .i64 0)
  have hX7 : Ext w _ := below_grown (unhide H2).1 hg7 (unhide H2).1.size (by omega)
  have H7 := hide (And.intro hB7 hX7)
  clear hB7 hg7 hX7
  go_wp2_with (first | (go_at_call 29; refine (unhide HSZ _).mono ?_; rintro e ws ⟨rfl, rfl⟩))
  obtain ⟨r0, r1, r2, r3, r4, r5⟩ := (unhide H7).1.six
  refine bodyPost_ret (v := .tuple #[.agg #[.int .i64 0, .slice none 0 0, .int .i64 0, .int .i64 0, .int .i64 0, .int .i64 0], .int .i64 7]) (by simp [results, Try.results10, go_sem, r0, r1, r2, r3, r4, r5]) rfl ?_
  exact ⟨rfl, (unhide H7).2⟩
end

/-- How far the document's Sub has come. -/
structure RsI (w W : World) (base : Nat) (I : Img) (g n4 cap4 : Nat) (pc lv : Array Value) (A B : List Ent) (x : Ent) (Bl : Nat) (ys : List Int) : Prop where
  ext : Ext w W
  img : Blk W w.heap.size #[.int .i64 I.f, .slice (some ⟨g, 0, none⟩) n4 cap4, .int .i64 I.ws, .int .i64 I.wt, .int .i64 I.mn, .int .i64 I.mg] 24
  pie : Blk W (w.heap.size + 1) pc 26
  res : Blk W (w.heap.size + 1 + 1) #[.int .i64 0, .slice none 0 0, .int .i64 0, .int .i64 0, .int .i64 0, .int .i64 0] 24
  lev : Blk W Bl lv 48
  lo : LO W base (.slice (some ⟨g, 0, none⟩) n4 cap4) (A ++ (x.1, x.2.1, x.2.2.1, ys) :: B)

section
variable {w : World} {v : Value} {L : List Ent} {I : Img}
set_option maxRecDepth 10000 in
set_option maxHeartbeats 4000000 in
theorem refSub_good (h : LR w v L) (hL : L.length ≤ 1000) (hA : I.L = absL L) (k X Y pw ph s W H : Nat) (hk : k < L.length) (hs : sizI I.f = (s : Int)) (hs0 : s ≠ 0) (hW : L[k].1 = (W : Int)) (hH : L[k].2.1 = (H : Int)) (hW1 : 1 ≤ W) (hH1 : 1 ≤ H) (hW6 : W ≤ 64) (hH6 : H ≤ 64)
    (hx : X + pw ≤ W) (hy : Y + ph ≤ H) (hlen : L[k].2.2.2.length = W * H * s) (hE : pieceE I k X Y pw ph = 0) (qo : Option Addr) (qcap : Nat) (qs : List Int) (hq : Row .u8 w (.slice qo qs.length qcap) qs) (hqn : qs.length = pw * ph * s) (hbL : ∀ p ∈ L, p.2.2.2.length ≤ 140737488355328) :
    Calls Try.prog 10 #[.agg #[.int .i64 I.f, v, .int .i64 I.ws, .int .i64 I.wt, .int .i64 I.mn, .int .i64 I.mg], .int .i64 (k : Int), .agg #[.int .i64 (X : Int), .int .i64 (Y : Int), .int .i64 (pw : Int), .int .i64 (ph : Int)], .slice qo qs.length qcap] w fun e w' => ∃ ao cap L', e = .returned (.tuple #[.agg #[.int .i64 I.f, .slice ao L'.length cap, .int .i64 I.ws, .int .i64 I.wt, .int .i64 I.mn, .int .i64 I.mg], .int .i64 0]) ∧
      LO w' w.heap.size (.slice ao L'.length cap) L' ∧ absL L' = (absL L).set k ((W : Int), (H : Int), subK s L[k].2.2.2 (pq W X Y pw) qs (pw * ph)) ∧ Ext w w' := by
  obtain ⟨_, _, _, hs4⟩ := chs_sum hs hs0
  obtain ⟨ao, cap, rfl, hao, hlc, hcm, _⟩ := h.shape
  obtain ⟨_, _, eq9, _, hqc, hqm⟩ := hq.shape
  cases eq9
  have hqm2 : qcap ≤ 9223372036854775807 := by unfold maxLen at hqm; omega
  have HA := hide hA
  have HH := hide h
  have HE := hide hE
  have HQ := hide hq
  have HLEN := hide hlen
  have HSZ : Hid (∀ wx, Calls Try.prog 29 #[.int .i64 I.f] wx fun e w' => e = .returned (.int .i64 (s : Int)) ∧ wx = w') := fun wx => by
    rw [← hs]
    refine (refSize_any I.f wx).mono ?_
    rintro e w' ⟨rfl, rfl⟩
    exact ⟨rfl, rfl⟩
  have hX1 := (((Ext.refl w).alloc (.cells #[.int .i64 I.f, .slice ao L.length cap, .int .i64 I.ws, .int .i64 I.wt, .int .i64 I.mn, .int .i64 I.mg] 24)).alloc (.cells #[.int .i64 (X : Int), .int .i64 (Y : Int), .int .i64 (pw : Int), .int .i64 (ph : Int)] 26)).alloc (.cells #[.int .i64 0, .slice none 0 0, .int .i64 0, .int .i64 0, .int .i64 0, .int .i64 0] 24)
  have hB1 : Blk (((w.alloc (.cells #[.int .i64 I.f, .slice ao L.length cap, .int .i64 I.ws, .int .i64 I.wt, .int .i64 I.mn, .int .i64 I.mg] 24)).alloc (.cells #[.int .i64 (X : Int), .int .i64 (Y : Int), .int .i64 (pw : Int), .int .i64 (ph : Int)] 26)).alloc (.cells #[.int .i64 0, .slice none 0 0, .int .i64 0, .int .i64 0, .int .i64 0, .int .i64 0] 24)) w.heap.size #[.int .i64 I.f, .slice ao L.length cap, .int .i64 I.ws, .int .i64 I.wt, .int .i64 I.mn, .int .i64 I.mg] 24 := ((Blk.new w _ _).alloc _).alloc _
  have hP1 : Blk (((w.alloc (.cells #[.int .i64 I.f, .slice ao L.length cap, .int .i64 I.ws, .int .i64 I.wt, .int .i64 I.mn, .int .i64 I.mg] 24)).alloc (.cells #[.int .i64 (X : Int), .int .i64 (Y : Int), .int .i64 (pw : Int), .int .i64 (ph : Int)] 26)).alloc (.cells #[.int .i64 0, .slice none 0 0, .int .i64 0, .int .i64 0, .int .i64 0, .int .i64 0] 24)) (w.heap.size + 1) #[.int .i64 (X : Int), .int .i64 (Y : Int), .int .i64 (pw : Int), .int .i64 (ph : Int)] 26 := Blk.alloc (Blk.at (by simp)) _
  have hR1 : Blk (((w.alloc (.cells #[.int .i64 I.f, .slice ao L.length cap, .int .i64 I.ws, .int .i64 I.wt, .int .i64 I.mn, .int .i64 I.mg] 24)).alloc (.cells #[.int .i64 (X : Int), .int .i64 (Y : Int), .int .i64 (pw : Int), .int .i64 (ph : Int)] 26)).alloc (.cells #[.int .i64 0, .slice none 0 0, .int .i64 0, .int .i64 0, .int .i64 0, .int .i64 0] 24)) (w.heap.size + 1 + 1) #[.int .i64 0, .slice none 0 0, .int .i64 0, .int .i64 0, .int .i64 0, .int .i64 0] 24 := Blk.at (by simp)
  have H1 := hide (And.intro hX1 (And.intro hB1 (And.intro hP1 hR1)))
  have hkn : (k : Int) < (L.length : Int) := by omega
  have m1 : pw * ph ≤ 64 * 64 := Nat.mul_le_mul (by omega) (by omega)
  have m2 : pw * ph * s ≤ 4096 * 4 := Nat.mul_le_mul m1 hs4
  have e1 : (pw : Int) * (ph : Int) = ((pw * ph : Nat) : Int) := by simp
  have e2 : (pw : Int) * (ph : Int) * (s : Int) = ((pw * ph * s : Nat) : Int) := by simp
  have b1 : (pw : Int) * (ph : Int) ≤ 4096 := by omega
  have b0 : 0 ≤ (pw : Int) * (ph : Int) := by omega
  have b2 : (pw : Int) * (ph : Int) * (s : Int) ≤ 16384 := by omega
  have b3 : 0 ≤ (pw : Int) * (ph : Int) * (s : Int) := by omega
  have hne2 : ((qs.length : Int) != (pw : Int) * (ph : Int) * (s : Int)) = false := by rw [e2, hqn]; simp
  have HQN := hide hqn
  have HBL := hide hbL
  have HWH := hide (And.intro hW hH)
  clear h hA hao hcm hX1 hB1 hP1 hR1 hE hq hlen hs hW hH e1 e2 hqn hbL
  go_enter Try.func10, Try.ntmps10
  go_wp2_with fail
  refine (refGet_all (I := I) ((unhide HH).ext (unhide H1).1) hL (unhide HA) k X Y pw ph).mono ?_
  rintro e w2 ⟨ao2, cap2, rfl, _, hx2⟩
  rw [unhide HE]
  generalize (getB I k X Y pw ph).length = gn at *
  have H2 := hide (And.intro ((unhide H1).1.trans hx2) (And.intro ((unhide H1).2.1.ext hx2) (And.intro ((unhide H1).2.2.1.ext hx2) ((unhide H1).2.2.2.ext hx2))))
  clear H1 hx2
  obtain ⟨q0, q1, q2, q3, q4, q5⟩ := (unhide H2).2.1.six
  obtain ⟨p0, p1, p2, p3⟩ := (unhide H2).2.2.1.four
  have hz2 := (unhide H2).2.2.2.lt
  go_wp2_with (first | (go_at_call 29; refine (unhide HSZ _).mono ?_; rintro e ws ⟨rfl, rfl⟩))
  refine (refCopy_any (I := I) ((unhide HH).ext (unhide H2).1) (by omega) (unhide HBL)).mono ?_
  rintro e w5 ⟨ao5, cap5, D0, rfl, hlo5, habs5, hx5⟩
  clear q0 q1 q2 q3 q4 q5 p0 p1 p2 p3 HSZ
  have hDl : D0.length = L.length := by
    have h5 := congrArg List.length habs5
    rw [absL_len, absL_len] at h5
    exact h5
  have hkD : k < D0.length := by omega
  obtain ⟨g, off, bo, bcap, eg, eb, c0, c1, c2, hrx⟩ := hlo5.lr.at k hkD
  obtain ⟨g2, cur, eg2, _, hgb, hcur⟩ := hlo5.blk (by omega)
  rw [eg] at eg2
  cases eg2
  subst eg
  have hax : absE D0[k] = absE L[k] := by
    have h5 := congrArg (fun l => l.getD k noLev) habs5
    rw [absL_getD D0 k hkD, absL_getD L k hk] at h5
    exact h5
  have hx1 : D0[k].1 = (W : Int) := by rw [← (unhide HWH).1]; exact congrArg (·.1) hax
  have hx2 : D0[k].2.1 = (H : Int) := by rw [← (unhide HWH).2]; exact congrArg (·.2.1) hax
  have hx3 : D0[k].2.2.2 = L[k].2.2.2 := congrArg (·.2.2) hax
  have hsp : D0 = D0.take k ++ D0[k] :: D0.drop (k + 1) := by
    rw [List.getElem_cons_drop, List.take_append_drop]
  have hal : (D0.take k).length = k := by simp; omega
  obtain ⟨A, hA9⟩ : ∃ A, A = D0.take k := ⟨_, rfl⟩
  obtain ⟨B, hB9⟩ : ∃ B, B = D0.drop (k + 1) := ⟨_, rfl⟩
  obtain ⟨x, hx9⟩ : ∃ x, x = D0[k] := ⟨_, rfl⟩
  rw [← hA9] at hal
  rw [← hA9, ← hB9, ← hx9] at hsp
  have HFA : Hid (∀ ys : List Int, absL (A ++ (x.1, x.2.1, x.2.2.1, ys) :: B) = (absL L).set k ((W : Int), (H : Int), ys)) := fun ys => by
    rw [← habs5, hsp, absL_append, absL_append]
    have h6 : (absL A).length = k := by rw [absL_len, hal]
    rw [List.set_append_right _ _ (by omega), h6, Nat.sub_self]
    show absL A ++ ((x.1, x.2.1, ys) :: absL B) = absL A ++ (((W : Int), (H : Int), ys) :: absL B)
    rw [hx9, hx1, hx2]
  simp only [Nat.zero_add] at c0 c1 c2
  rw [hx1] at c0
  rw [hx2] at c1
  rw [← hx9] at hx1 hx2 hx3 eb hrx c2
  have hbl : x.2.2.2.length = W * H * s := by rw [hx3]; exact unhide HLEN
  have hbp : 0 < x.2.2.2.length := by
    rw [hbl]
    exact Nat.mul_pos (Nat.mul_pos hW1 hH1) (by omega)
  have hox := hlo5.bys x (by rw [hx9]; exact List.getElem_mem hkD)
  obtain ⟨gb, ebo⟩ : ∃ gb, bo = some ⟨gb, 0, none⟩ := by
    rcases hox.2 with ⟨e1, h0⟩ | ⟨g3, c3, cur3, e1, _⟩
    · omega
    · rw [eb] at e1
      cases e1
      exact ⟨_, rfl⟩
  subst ebo
  obtain ⟨_, _, ev9, _, hbc, hbm⟩ := hrx.shape
  cases ev9
  have hbm2 : bcap ≤ 9223372036854775807 := by unfold maxLen at hbm; omega
  obtain ⟨xn, hxn⟩ : ∃ xn, xn = x.2.2.2.length := ⟨_, rfl⟩
  obtain ⟨n4, hn4⟩ : ∃ n4, n4 = D0.length := ⟨_, rfl⟩
  rw [← hxn] at eb c2 hbc
  rw [← hn4] at hlo5 ⊢
  have hkn2 : (k : Int) < (n4 : Int) := by omega
  -- the image's block takes the copy
  have hI5 := (unhide H2).2.1.ext hx5
  have hg6 := grown_put6 w5 w.heap.size (.int .i64 I.f) (.slice (some ⟨g, 0, none⟩) n4 cap5) (.int .i64 I.ws) (.int .i64 I.wt) (.int .i64 I.mn) (.int .i64 I.mg)
  have hB6 := hI5.put6 (.int .i64 I.f) (.slice (some ⟨g, 0, none⟩) n4 cap5) (.int .i64 I.ws) (.int .i64 I.wt) (.int .i64 I.mn) (.int .i64 I.mg)
  have hlo6 := hlo5.grown hI5 ⟨by decide, by decide⟩ hg6
  have hx52 := (unhide H2).1.trans hx5
  have hx6 : Ext w _ := below_grown hx52 hg6 hx52.size (Nat.le_refl _)
  have hP6 := ((unhide H2).2.2.1.ext hx5).grown hg6 (by omega)
  have hR6 := ((unhide H2).2.2.2.ext hx5).grown hg6 (by omega)
  obtain ⟨q0, q1, q2, q3, q4, q5⟩ := hI5.six
  obtain ⟨f0, f1, f2, f3, f4, f5⟩ := hI5.frees
  have hz5 := hx5.size
  have H6 := hide (And.intro hx6 (And.intro hB6 (And.intro hP6 (And.intro hR6 hlo6))))
  have HD := hide (And.intro hsp (And.intro hal (And.intro hDl (And.intro hxn hn4))))
  have HX := hide (And.intro hx1 (And.intro hx2 (And.intro hx3 (And.intro eb hbl))))
  clear hlo5 habs5 hax hsp hal hA9 hB9 hx9 hox hrx hcur hx1 hx2 hx3 eb hbl hbp hDl hI5 hg6 hB6 hlo6 hx52 hx6 hP6 hR6 hx5 hxn hn4 c0 c1 c2 H2 hkD
  go_upto_region 8 with fail
  generalize (((((w5.setCell ⟨w.heap.size, 0, none⟩ (.int .i64 I.f)).setCell ⟨w.heap.size, 1, none⟩ (.slice (some ⟨g, 0, none⟩) n4 cap5)).setCell ⟨w.heap.size, 2, none⟩ (.int .i64 I.ws)).setCell ⟨w.heap.size, 3, none⟩ (.int .i64 I.wt)).setCell ⟨w.heap.size, 4, none⟩ (.int .i64 I.mn)).setCell ⟨w.heap.size, 5, none⟩ (.int .i64 I.mg) = w6 at H6 ⊢
  clear q0 q1 q2 q3 q4 q5 f0 f1 f2 f3 f4 f5
  have hlr6 := (unhide H6).2.2.2.2.lr
  have hkD : k < D0.length := by have := (unhide HD).2.2.2.2; omega
  obtain ⟨g9, off9, bo9, bcap9, eg9, eb9, c0, c1, c2, hr9⟩ := hlr6.at k hkD
  cases eg9
  simp only [Nat.zero_add] at c0 c1 c2
  have hxk : x = D0[k] := by
    have h1 := (unhide HD).1
    have h2 := (unhide HD).2.1
    have h3 : D0[k]? = some x := by
      rw [h1, List.getElem?_append_right (by omega), h2, Nat.sub_self]
      rfl
    rw [List.getElem?_eq_getElem hkD] at h3
    exact (Option.some.inj h3).symm
  rw [← hxk, (unhide HX).1] at c0
  rw [← hxk, (unhide HX).2.1] at c1
  rw [← eb9, ← hxk, (unhide HX).2.2.2.1] at c2
  obtain ⟨q0, q1, q2, q3, q4, q5⟩ := (unhide H6).2.1.six
  have hx7 := (Ext.refl w6).alloc (.cells #[.int .i64 (W : Int), .int .i64 (H : Int), .slice (some ⟨gb, 0, none⟩) xn bcap] 48)
  have hlw : LO w6 w2.heap.size (.slice (some ⟨g, 0, none⟩) n4 cap5) (A ++ (x.1, x.2.1, x.2.2.1, subK s x.2.2.2 (pq W X Y pw) qs 0) :: B) := by
    have h1 := (unhide H6).2.2.2.2
    have h2 : A ++ (x.1, x.2.1, x.2.2.1, subK s x.2.2.2 (pq W X Y pw) qs 0) :: B = D0 := by rw [(unhide HD).1]; rfl
    rw [h2]
    exact h1
  have hRS : RsI w (w6.alloc (.cells #[.int .i64 (W : Int), .int .i64 (H : Int), .slice (some ⟨gb, 0, none⟩) xn bcap] 48)) w2.heap.size I g n4 cap5 #[.int .i64 (X : Int), .int .i64 (Y : Int), .int .i64 (pw : Int), .int .i64 (ph : Int)] #[.int .i64 (W : Int), .int .i64 (H : Int), .slice (some ⟨gb, 0, none⟩) xn bcap] A B x w6.heap.size (subK s x.2.2.2 (pq W X Y pw) qs 0) :=
    ⟨(unhide H6).1.trans hx7, (unhide H6).2.1.ext hx7, (unhide H6).2.2.1.ext hx7, (unhide H6).2.2.2.1.ext hx7, Blk.new _ _ _, hlw.ext hx7⟩
  have HRS := hide hRS
  have p3 := hRS.pie.four.2.2.2
  clear hx7 hlw hRS hlr6 eb9 hxk hr9 hkD H6
  go_wp2_with fail
  clear q0 q1 q2 q3 q4 q5 c0 c1 c2 p3
  generalize hBl : w6.heap.size = Bl at HRS ⊢
  generalize w6.alloc (.cells #[.int .i64 (W : Int), .int .i64 (H : Int), .slice (some ⟨gb, 0, none⟩) xn bcap] 48) = w7 at HRS ⊢
  clear hBl
  obtain ⟨p0, p1, p2, p3⟩ := (unhide HRS).pie.four
  clear p0 p1 p2 p3
  go_loopw [50] (fun jv wr => ∃ j : Nat, j ≤ ph ∧ jv = .int .i64 (j : Int) ∧ RsI w wr w2.heap.size I g n4 cap5 #[.int .i64 (X : Int), .int .i64 (Y : Int), .int .i64 (pw : Int), .int .i64 (ph : Int)] #[.int .i64 (W : Int), .int .i64 (H : Int), .slice (some ⟨gb, 0, none⟩) xn bcap] A B x Bl (subK s x.2.2.2 (pq W X Y pw) qs (j * pw))) (fun jv _ => ph - (intOf jv).toNat)
  case atStart => exact ⟨0, by omega, rfl, by rw [Nat.zero_mul]; exact unhide HRS⟩
  case round =>
    clear HRS
    obtain ⟨j, hj, rfl, hI⟩ := hrel
    obtain ⟨p0, p1, p2, p3⟩ := hI.pie.four
    have HI := hide hI
    clear hI
    by_cases hlt : j < ph
    · have hlt2 : (j : Int) < (ph : Int) := by omega
      go_wp2_with fail
      clear p0 p1 p2 p3
      go_loopw [55] (fun iv wq => ∃ i : Nat, i ≤ pw ∧ iv = .int .i64 (i : Int) ∧ RsI w wq w2.heap.size I g n4 cap5 #[.int .i64 (X : Int), .int .i64 (Y : Int), .int .i64 (pw : Int), .int .i64 (ph : Int)] #[.int .i64 (W : Int), .int .i64 (H : Int), .slice (some ⟨gb, 0, none⟩) xn bcap] A B x Bl (subK s x.2.2.2 (pq W X Y pw) qs (j * pw + i))) (fun iv _ => pw - (intOf iv).toNat)
      case atStart => exact ⟨0, by omega, rfl, unhide HI⟩
      case round =>
        clear HI
        obtain ⟨i, hi9, rfl, hI⟩ := hrel
        by_cases hlt3 : i < pw
        · have hlt4 : (i : Int) < (pw : Int) := by omega
          have HI := hide hI
          clear hI
          go_upto_region 15 with fail
          have hk9 : j * pw + i < pw * ph := by
            have h1 : (j + 1) * pw ≤ ph * pw := Nat.mul_le_mul_right _ (by omega)
            rw [Nat.succ_mul, Nat.mul_comm ph] at h1
            omega
          have hpq := pq_row (W := W) (X := X) (Y := Y) (w := pw) (j := j) (i := i) hlt3
          have hpl := pq_lt hx hy hk9
          obtain ⟨yj, hyj⟩ : ∃ yj : Nat, yj = Y + j := ⟨_, rfl⟩
          obtain ⟨r1, hr1⟩ : ∃ r1 : Nat, r1 = yj * W := ⟨_, rfl⟩
          obtain ⟨r2, hr2⟩ : ∃ r2 : Nat, r2 = r1 + X := ⟨_, rfl⟩
          obtain ⟨q, hq⟩ : ∃ q : Nat, q = r2 + i := ⟨_, rfl⟩
          obtain ⟨a, ha⟩ : ∃ a : Nat, a = q * s := ⟨_, rfl⟩
          obtain ⟨r3, hr3⟩ : ∃ r3 : Nat, r3 = j * pw := ⟨_, rfl⟩
          obtain ⟨r4, hr4⟩ : ∃ r4 : Nat, r4 = r3 + i := ⟨_, rfl⟩
          obtain ⟨r5, hr5⟩ : ∃ r5 : Nat, r5 = r4 * s := ⟨_, rfl⟩
          obtain ⟨r6, hr6⟩ : ∃ r6 : Nat, r6 = r4 + 1 := ⟨_, rfl⟩
          obtain ⟨r7, hr7⟩ : ∃ r7 : Nat, r7 = r6 * s := ⟨_, rfl⟩
          have hqe : pq W X Y pw (j * pw + i) = q := by rw [hpq, hq, hr2, hr1, hyj]; omega
          have hre : j * pw + i = r4 := by rw [hr4, hr3]
          rw [hqe] at hpl
          rw [hre] at hk9
          obtain ⟨xx1, xx2, xx3, xeb, xbl⟩ := unhide HX
          have hxnl := (unhide HD).2.2.2.1
          have hqs : (q + 1) * s ≤ xn := by
            rw [hxnl, xbl]
            exact Nat.mul_le_mul_right _ hpl
          have hqq : (r4 + 1) * s ≤ qs.length := by
            rw [unhide HQN]
            exact Nat.mul_le_mul_right _ hk9
          have hqs2 : a + s ≤ xn := by rw [Nat.succ_mul] at hqs; omega
          have hqq2 : r5 + s ≤ qs.length := by rw [Nat.succ_mul] at hqq; omega
          have hr75 : r7 = r5 + s := by rw [hr7, hr6, Nat.succ_mul, hr5]
          have d1 : r1 ≤ 64 * 64 := by rw [hr1]; exact Nat.mul_le_mul (by omega) hW6
          have d3 : r3 ≤ 64 * 64 := by rw [hr3]; exact Nat.mul_le_mul (by omega) (by omega)
          have d7 : xn ≤ 4096 * 4 := by rw [hxnl, xbl]; exact Nat.mul_le_mul (Nat.mul_le_mul hW6 hH6) hs4
          have HEyj : Hid (IntKind.i64.wrap ((Y : Int) + (j : Int)) = (yj : Int)) := by
            have h1 : (Y : Int) + (j : Int) = (yj : Int) := by rw [hyj]; simp
            rw [h1]
            exact wrap_id (by omega) (by omega)
          have HEr1 : Hid (IntKind.i64.wrap ((yj : Int) * (W : Int)) = (r1 : Int)) := by
            have h1 : (yj : Int) * (W : Int) = (r1 : Int) := by rw [hr1]; simp
            rw [h1]
            exact wrap_id (by omega) (by omega)
          have HEr2 : Hid (IntKind.i64.wrap ((r1 : Int) + (X : Int)) = (r2 : Int)) := by
            have h1 : (r1 : Int) + (X : Int) = (r2 : Int) := by rw [hr2]; simp
            rw [h1]
            exact wrap_id (by omega) (by omega)
          have HEq : Hid (IntKind.i64.wrap ((r2 : Int) + (i : Int)) = (q : Int)) := by
            have h1 : (r2 : Int) + (i : Int) = (q : Int) := by rw [hq]; simp
            rw [h1]
            exact wrap_id (by omega) (by omega)
          have HEa : Hid (IntKind.i64.wrap ((q : Int) * (s : Int)) = (a : Int)) := by
            have h1 : (q : Int) * (s : Int) = (a : Int) := by rw [ha]; simp
            rw [h1]
            exact wrap_id (by omega) (by omega)
          have HEr3 : Hid (IntKind.i64.wrap ((j : Int) * (pw : Int)) = (r3 : Int)) := by
            have h1 : (j : Int) * (pw : Int) = (r3 : Int) := by rw [hr3]; simp
            rw [h1]
            exact wrap_id (by omega) (by omega)
          have HEr4 : Hid (IntKind.i64.wrap ((r3 : Int) + (i : Int)) = (r4 : Int)) := by
            have h1 : (r3 : Int) + (i : Int) = (r4 : Int) := by rw [hr4]; simp
            rw [h1]
            exact wrap_id (by omega) (by omega)
          have HEr5 : Hid (IntKind.i64.wrap ((r4 : Int) * (s : Int)) = (r5 : Int)) := by
            have h1 : (r4 : Int) * (s : Int) = (r5 : Int) := by rw [hr5]; simp
            rw [h1]
            exact wrap_id (by omega) (by omega)
          have HEr6 : Hid (IntKind.i64.wrap ((r4 : Int) + 1) = (r6 : Int)) := by
            have h1 : (r4 : Int) + 1 = (r6 : Int) := by rw [hr6]; simp
            rw [h1]
            exact wrap_id (by omega) (by omega)
          have HEr7 : Hid (IntKind.i64.wrap ((r6 : Int) * (s : Int)) = (r7 : Int)) := by
            have h1 : (r6 : Int) * (s : Int) = (r7 : Int) := by rw [hr7]; simp
            rw [h1]
            exact wrap_id (by omega) (by omega)
          have hsne : 0 < s := by omega
          have hcl := cellL_len (s := s) (q := r4) (xs := qs) hqq
          obtain ⟨q0, qoff, hqo, hp9⟩ := (unhide HQ).part r5 s hsne hqq2
          subst hqo
          have hRw : Row .u8 wr.drew (.slice (some ⟨q0, qoff + r5, none⟩) (cellL s qs r4).length (qcap - r5)) (cellL s qs r4) := by
            rw [hcl]
            have h1 := hp9.ext ((unhide HI).ext.trans (ext_0 wr))
            unfold cellL
            rw [← hr5]
            exact h1
          have hI := unhide HI
          have hsl : (subK s x.2.2.2 (pq W X Y pw) qs (j * pw + i)).length = x.2.2.2.length := subK_len _ (fun n hn => by
            rw [xbl]
            exact Nat.mul_le_mul_right _ (pq_lt hx hy (by omega))) (by
            rw [hre]
            rw [Nat.succ_mul] at hqq
            omega)
          have hoN := hI.lo.bys (x.1, x.2.1, x.2.2.1, subK s x.2.2.2 (pq W X Y pw) qs (j * pw + i)) (by simp)
          have hoN2 : Own .u8 wr.drew w2.heap.size 5 (.slice (some ⟨gb, 0, none⟩) xn bcap) (subK s x.2.2.2 (pq W X Y pw) qs (j * pw + i)) := by
            rw [← xeb]
            exact hoN.kept (ext_0 wr)
          obtain ⟨w8, hrun8, ho8, hg8⟩ := copy_in2 hoN2 a (xn - a) (r7 - r5) (by omega) (by omega) (by rw [hsl, hcl, ← hxnl]; exact hqs2) hRw (by omega) (bcap - a)
          have hsn : subK s x.2.2.2 (pq W X Y pw) qs (j * pw + (i + 1)) = layB (subK s x.2.2.2 (pq W X Y pw) qs (j * pw + i)) a (cellL s qs r4) := by
            rw [show j * pw + (i + 1) = (j * pw + i) + 1 by omega, subK, hqe, ← ha, hre]
          rw [← hsn] at ho8
          have HRUN := hide hrun8
          have hgq : wr.grownBy w8 (some gb) := (ext_grown (ext_0 wr) (some gb)).trans hg8
          have hne8 : ∀ {b : Nat} {cs : Array Value} {t : TypeId}, Blk wr b cs t → t ≠ 5 → Blk w8 b cs t := fun {b cs t} hB ht => hB.grown hgq (blk_neU (hB.ext (ext_0 wr)) ht hoN2)
          have hlo8 := hI.lo.turnAt (ys := subK s x.2.2.2 (pq W X Y pw) qs (j * pw + (i + 1))) (by exact xeb) hgq (by show Own _ _ _ _ x.2.2.1 _; rw [xeb]; exact ho8)
          have hgb8 : w2.heap.size ≤ gb := (hoN2.lt gb rfl).1
          have hx8 : Ext w w8 := below_grown hI.ext hgq hI.ext.size (by omega)
          have HI8 := hide (show RsI w w8 w2.heap.size I g n4 cap5 #[.int .i64 (X : Int), .int .i64 (Y : Int), .int .i64 (pw : Int), .int .i64 (ph : Int)] #[.int .i64 (W : Int), .int .i64 (H : Int), .slice (some ⟨gb, 0, none⟩) xn bcap] A B x Bl (subK s x.2.2.2 (pq W X Y pw) qs (j * pw + (i + 1))) from ⟨hx8, hne8 hI.img (by decide), hne8 hI.pie (by decide), hne8 hI.res (by decide), hne8 hI.lev (by decide), hlo8⟩)
          obtain ⟨p0, p1, p2, p3⟩ := hI.pie.four
          obtain ⟨l0, l1, l2⟩ := hI.lev.three
          obtain ⟨u0, u1, u2, u3⟩ := (unhide HI8).pie.four
          obtain ⟨v0, v1, v2⟩ := (unhide HI8).lev.three
          have hr5a : r5 ≤ r7 := by omega
          have hr5b : r7 ≤ qcap := by omega
          have hr5c : r5 < qcap := by omega
          have hS0 : (fun wx : World => wx.cell? ⟨Bl, 2, none⟩ = some (.slice (some ⟨gb, 0, none⟩) xn bcap) ∧ wx.cell? ⟨Bl, 0, none⟩ = some (.int .i64 (W : Int)) ∧ wx.cell? ⟨w.heap.size + 1, 0, none⟩ = some (.int .i64 (X : Int)) ∧ wx.cell? ⟨w.heap.size + 1, 1, none⟩ = some (.int .i64 (Y : Int)) ∧ wx.cell? ⟨w.heap.size + 1, 2, none⟩ = some (.int .i64 (pw : Int))) wr.drew := ⟨l2, l0, p0, p1, p2⟩
          have HS8 := hide (show (fun wx : World => wx.cell? ⟨Bl, 2, none⟩ = some (.slice (some ⟨gb, 0, none⟩) xn bcap) ∧ wx.cell? ⟨Bl, 0, none⟩ = some (.int .i64 (W : Int)) ∧ wx.cell? ⟨w.heap.size + 1, 0, none⟩ = some (.int .i64 (X : Int)) ∧ wx.cell? ⟨w.heap.size + 1, 1, none⟩ = some (.int .i64 (Y : Int)) ∧ wx.cell? ⟨w.heap.size + 1, 2, none⟩ = some (.int .i64 (pw : Int))) w8 from ⟨v2, v0, u0, u1, u2⟩)
          clear hk9 hpq hpl hqe hre xx1 xx2 xx3 xeb xbl hxnl hqs hqq hcl hp9 hRw hI hsl hoN hoN2 ho8 hg8 hsn hrun8 hgq hlo8 hx8 p0 p1 p2 p3 l0 l1 l2 u0 u1 u2 u3 v0 v1 v2 hyj hr1 hr2 hq ha hr3 hr4 hr5 hr6 hr7 hr75
          refine wp_region_noPanic ?_
          refine wp_region_held_drew (S := fun wx => wx.cell? ⟨Bl, 2, none⟩ = some (.slice (some ⟨gb, 0, none⟩) xn bcap) ∧ wx.cell? ⟨Bl, 0, none⟩ = some (.int .i64 (W : Int)) ∧ wx.cell? ⟨w.heap.size + 1, 0, none⟩ = some (.int .i64 (X : Int)) ∧ wx.cell? ⟨w.heap.size + 1, 1, none⟩ = some (.int .i64 (Y : Int)) ∧ wx.cell? ⟨w.heap.size + 1, 2, none⟩ = some (.int .i64 (pw : Int))) (by kernel_rfl) hS0 (fun HS => ?_)
          refine wpAnyH_take (i := 0) (oi := { dst := some 58, op := Op.fieldAddr 48 (Operand.tmp 13) 2, type := 0, pos := _, after := _, guard := none }) (v := .pointer (some ⟨Bl, 2, none⟩)) rfl (by kernel_rfl) (by kernel_rfl) (by kernel_rfl) (fun _ _ _ h => h) (Or.inl ⟨by rfl, fun _ _ => rfl⟩) HS ?_
          simp only [Act.put, List.setIfInBounds_toArray, List.set_cons_zero, List.set_cons_succ]
          refine wpAnyH_take (i := 1) (oi := { dst := some 59, op := Op.load 27 (Operand.tmp 58), type := 27, pos := _, after := _, guard := none }) (v := .slice (some ⟨gb, 0, none⟩) xn bcap) rfl (by kernel_rfl) (by kernel_rfl) (by kernel_rfl) (fun _ _ _ h => h) (Or.inl ⟨by rfl, fun wx hx => by have h1 := hx.1; go_simp⟩) HS ?_
          simp only [Act.put, List.setIfInBounds_toArray, List.set_cons_zero, List.set_cons_succ]
          refine wpAnyH_take (i := 2) (oi := { dst := some 60, op := Op.fieldAddr 26 (Operand.tmp 6) 1, type := 0, pos := _, after := _, guard := none }) (v := .pointer (some ⟨w.heap.size + 1, 1, none⟩)) rfl (by kernel_rfl) (by kernel_rfl) (by kernel_rfl) (fun _ _ _ h => h) (Or.inl ⟨by rfl, fun _ _ => rfl⟩) HS ?_
          simp only [Act.put, List.setIfInBounds_toArray, List.set_cons_zero, List.set_cons_succ]
          refine wpAnyH_take (i := 3) (oi := { dst := some 61, op := Op.load 3 (Operand.tmp 60), type := 3, pos := _, after := _, guard := none }) (v := .int .i64 (Y : Int)) rfl (by kernel_rfl) (by kernel_rfl) (by kernel_rfl) (fun _ _ _ h => h) (Or.inl ⟨by rfl, fun wx hx => by have h1 := hx.2.2.2.1; go_simp⟩) HS ?_
          simp only [Act.put, List.setIfInBounds_toArray, List.set_cons_zero, List.set_cons_succ]
          refine wpAnyH_take (i := 4) (oi := { dst := some 62, op := Op.move (Operand.tmp 14), type := 3, pos := _, after := _, guard := none }) (v := .int .i64 (j : Int)) rfl (by kernel_rfl) (by kernel_rfl) (by kernel_rfl) (fun _ _ _ h => h) (Or.inl ⟨by rfl, fun _ _ => rfl⟩) HS ?_
          simp only [Act.put, List.setIfInBounds_toArray, List.set_cons_zero, List.set_cons_succ]
          refine wpAnyH_take (i := 5) (oi := { dst := some 63, op := Op.binOp BinOp.add 3 (Operand.tmp 61) (Operand.tmp 62) 3, type := 3, pos := _, after := _, guard := none }) (v := .int .i64 (yj : Int)) rfl (by kernel_rfl) (by kernel_rfl) (by kernel_rfl) (fun _ _ _ h => h) (Or.inl ⟨by rfl, fun wx hx => by have h1 := unhide HEyj; go_simp⟩) HS ?_
          simp only [Act.put, List.setIfInBounds_toArray, List.set_cons_zero, List.set_cons_succ]
          refine wpAnyH_take (i := 6) (oi := { dst := some 64, op := Op.fieldAddr 48 (Operand.tmp 13) 0, type := 0, pos := _, after := _, guard := none }) (v := .pointer (some ⟨Bl, 0, none⟩)) rfl (by kernel_rfl) (by kernel_rfl) (by kernel_rfl) (fun _ _ _ h => h) (Or.inl ⟨by rfl, fun _ _ => rfl⟩) HS ?_
          simp only [Act.put, List.setIfInBounds_toArray, List.set_cons_zero, List.set_cons_succ]
          refine wpAnyH_take (i := 7) (oi := { dst := some 65, op := Op.load 3 (Operand.tmp 64), type := 3, pos := _, after := _, guard := none }) (v := .int .i64 (W : Int)) rfl (by kernel_rfl) (by kernel_rfl) (by kernel_rfl) (fun _ _ _ h => h) (Or.inl ⟨by rfl, fun wx hx => by have h1 := hx.2.1; go_simp⟩) HS ?_
          simp only [Act.put, List.setIfInBounds_toArray, List.set_cons_zero, List.set_cons_succ]
          refine wpAnyH_take (i := 8) (oi := { dst := some 66, op := Op.binOp BinOp.mul 3 (Operand.tmp 63) (Operand.tmp 65) 3, type := 3, pos := _, after := _, guard := none }) (v := .int .i64 (r1 : Int)) rfl (by kernel_rfl) (by kernel_rfl) (by kernel_rfl) (fun _ _ _ h => h) (Or.inl ⟨by rfl, fun wx hx => by have h1 := unhide HEr1; go_simp⟩) HS ?_
          simp only [Act.put, List.setIfInBounds_toArray, List.set_cons_zero, List.set_cons_succ]
          refine wpAnyH_take (i := 9) (oi := { dst := some 67, op := Op.fieldAddr 26 (Operand.tmp 6) 0, type := 0, pos := _, after := _, guard := none }) (v := .pointer (some ⟨w.heap.size + 1, 0, none⟩)) rfl (by kernel_rfl) (by kernel_rfl) (by kernel_rfl) (fun _ _ _ h => h) (Or.inl ⟨by rfl, fun _ _ => rfl⟩) HS ?_
          simp only [Act.put, List.setIfInBounds_toArray, List.set_cons_zero, List.set_cons_succ]
          refine wpAnyH_take (i := 10) (oi := { dst := some 68, op := Op.load 3 (Operand.tmp 67), type := 3, pos := _, after := _, guard := none }) (v := .int .i64 (X : Int)) rfl (by kernel_rfl) (by kernel_rfl) (by kernel_rfl) (fun _ _ _ h => h) (Or.inl ⟨by rfl, fun wx hx => by have h1 := hx.2.2.1; go_simp⟩) HS ?_
          simp only [Act.put, List.setIfInBounds_toArray, List.set_cons_zero, List.set_cons_succ]
          refine wpAnyH_take (i := 11) (oi := { dst := some 69, op := Op.binOp BinOp.add 3 (Operand.tmp 66) (Operand.tmp 68) 3, type := 3, pos := _, after := _, guard := none }) (v := .int .i64 (r2 : Int)) rfl (by kernel_rfl) (by kernel_rfl) (by kernel_rfl) (fun _ _ _ h => h) (Or.inl ⟨by rfl, fun wx hx => by have h1 := unhide HEr2; go_simp⟩) HS ?_
          simp only [Act.put, List.setIfInBounds_toArray, List.set_cons_zero, List.set_cons_succ]
          refine wpAnyH_take (i := 12) (oi := { dst := some 70, op := Op.move (Operand.tmp 15), type := 3, pos := _, after := _, guard := none }) (v := .int .i64 (i : Int)) rfl (by kernel_rfl) (by kernel_rfl) (by kernel_rfl) (fun _ _ _ h => h) (Or.inl ⟨by rfl, fun _ _ => rfl⟩) HS ?_
          simp only [Act.put, List.setIfInBounds_toArray, List.set_cons_zero, List.set_cons_succ]
          refine wpAnyH_take (i := 13) (oi := { dst := some 71, op := Op.binOp BinOp.add 3 (Operand.tmp 69) (Operand.tmp 70) 3, type := 3, pos := _, after := _, guard := none }) (v := .int .i64 (q : Int)) rfl (by kernel_rfl) (by kernel_rfl) (by kernel_rfl) (fun _ _ _ h => h) (Or.inl ⟨by rfl, fun wx hx => by have h1 := unhide HEq; go_simp⟩) HS ?_
          simp only [Act.put, List.setIfInBounds_toArray, List.set_cons_zero, List.set_cons_succ]
          refine wpAnyH_take (i := 14) (oi := { dst := some 72, op := Op.move (Operand.tmp 12), type := 3, pos := _, after := _, guard := none }) (v := .int .i64 (s : Int)) rfl (by kernel_rfl) (by kernel_rfl) (by kernel_rfl) (fun _ _ _ h => h) (Or.inl ⟨by rfl, fun _ _ => rfl⟩) HS ?_
          simp only [Act.put, List.setIfInBounds_toArray, List.set_cons_zero, List.set_cons_succ]
          refine wpAnyH_take (i := 15) (oi := { dst := some 73, op := Op.binOp BinOp.mul 3 (Operand.tmp 71) (Operand.tmp 72) 3, type := 3, pos := _, after := _, guard := none }) (v := .int .i64 (a : Int)) rfl (by kernel_rfl) (by kernel_rfl) (by kernel_rfl) (fun _ _ _ h => h) (Or.inl ⟨by rfl, fun wx hx => by have h1 := unhide HEa; go_simp⟩) HS ?_
          simp only [Act.put, List.setIfInBounds_toArray, List.set_cons_zero, List.set_cons_succ]
          refine wpAnyH_take (i := 16) (oi := { dst := some 74, op := Op.slice 27 (Operand.tmp 59) (some (Operand.tmp 73)) none none, type := 27, pos := _, after := _, guard := none }) (v := .slice (some ⟨gb, a, none⟩) (xn - a) (bcap - a)) rfl (by kernel_rfl) (by kernel_rfl) (by kernel_rfl) (fun _ _ _ h => h) (Or.inl ⟨by rfl, fun wx hx => by have h1 : (a : Int) ≤ (xn : Int) := (by omega); have h2 : ¬ bcap = a := (by omega); have h3 : xn ≤ bcap := hbc; have h4 : a ≤ xn := (by omega); go_simp⟩) HS ?_
          simp only [Act.put, List.setIfInBounds_toArray, List.set_cons_zero, List.set_cons_succ]
          refine wpAnyH_take (i := 17) (oi := { dst := some 75, op := Op.move (Operand.tmp 3), type := 27, pos := _, after := _, guard := none }) (v := .slice (some ⟨q0, qoff, none⟩) qs.length qcap) rfl (by kernel_rfl) (by kernel_rfl) (by kernel_rfl) (fun _ _ _ h => h) (Or.inl ⟨by rfl, fun _ _ => rfl⟩) HS ?_
          simp only [Act.put, List.setIfInBounds_toArray, List.set_cons_zero, List.set_cons_succ]
          refine wpAnyH_take (i := 18) (oi := { dst := some 76, op := Op.move (Operand.tmp 14), type := 3, pos := _, after := _, guard := none }) (v := .int .i64 (j : Int)) rfl (by kernel_rfl) (by kernel_rfl) (by kernel_rfl) (fun _ _ _ h => h) (Or.inl ⟨by rfl, fun _ _ => rfl⟩) HS ?_
          simp only [Act.put, List.setIfInBounds_toArray, List.set_cons_zero, List.set_cons_succ]
          refine wpAnyH_take (i := 19) (oi := { dst := some 77, op := Op.fieldAddr 26 (Operand.tmp 6) 2, type := 0, pos := _, after := _, guard := none }) (v := .pointer (some ⟨w.heap.size + 1, 2, none⟩)) rfl (by kernel_rfl) (by kernel_rfl) (by kernel_rfl) (fun _ _ _ h => h) (Or.inl ⟨by rfl, fun _ _ => rfl⟩) HS ?_
          simp only [Act.put, List.setIfInBounds_toArray, List.set_cons_zero, List.set_cons_succ]
          refine wpAnyH_take (i := 20) (oi := { dst := some 78, op := Op.load 3 (Operand.tmp 77), type := 3, pos := _, after := _, guard := none }) (v := .int .i64 (pw : Int)) rfl (by kernel_rfl) (by kernel_rfl) (by kernel_rfl) (fun _ _ _ h => h) (Or.inl ⟨by rfl, fun wx hx => by have h1 := hx.2.2.2.2; go_simp⟩) HS ?_
          simp only [Act.put, List.setIfInBounds_toArray, List.set_cons_zero, List.set_cons_succ]
          refine wpAnyH_take (i := 21) (oi := { dst := some 79, op := Op.binOp BinOp.mul 3 (Operand.tmp 76) (Operand.tmp 78) 3, type := 3, pos := _, after := _, guard := none }) (v := .int .i64 (r3 : Int)) rfl (by kernel_rfl) (by kernel_rfl) (by kernel_rfl) (fun _ _ _ h => h) (Or.inl ⟨by rfl, fun wx hx => by have h1 := unhide HEr3; go_simp⟩) HS ?_
          simp only [Act.put, List.setIfInBounds_toArray, List.set_cons_zero, List.set_cons_succ]
          refine wpAnyH_take (i := 22) (oi := { dst := some 80, op := Op.move (Operand.tmp 15), type := 3, pos := _, after := _, guard := none }) (v := .int .i64 (i : Int)) rfl (by kernel_rfl) (by kernel_rfl) (by kernel_rfl) (fun _ _ _ h => h) (Or.inl ⟨by rfl, fun _ _ => rfl⟩) HS ?_
          simp only [Act.put, List.setIfInBounds_toArray, List.set_cons_zero, List.set_cons_succ]
          refine wpAnyH_take (i := 23) (oi := { dst := some 81, op := Op.binOp BinOp.add 3 (Operand.tmp 79) (Operand.tmp 80) 3, type := 3, pos := _, after := _, guard := none }) (v := .int .i64 (r4 : Int)) rfl (by kernel_rfl) (by kernel_rfl) (by kernel_rfl) (fun _ _ _ h => h) (Or.inl ⟨by rfl, fun wx hx => by have h1 := unhide HEr4; go_simp⟩) HS ?_
          simp only [Act.put, List.setIfInBounds_toArray, List.set_cons_zero, List.set_cons_succ]
          refine wpAnyH_take (i := 24) (oi := { dst := some 82, op := Op.move (Operand.tmp 12), type := 3, pos := _, after := _, guard := none }) (v := .int .i64 (s : Int)) rfl (by kernel_rfl) (by kernel_rfl) (by kernel_rfl) (fun _ _ _ h => h) (Or.inl ⟨by rfl, fun _ _ => rfl⟩) HS ?_
          simp only [Act.put, List.setIfInBounds_toArray, List.set_cons_zero, List.set_cons_succ]
          refine wpAnyH_take (i := 25) (oi := { dst := some 83, op := Op.binOp BinOp.mul 3 (Operand.tmp 81) (Operand.tmp 82) 3, type := 3, pos := _, after := _, guard := none }) (v := .int .i64 (r5 : Int)) rfl (by kernel_rfl) (by kernel_rfl) (by kernel_rfl) (fun _ _ _ h => h) (Or.inl ⟨by rfl, fun wx hx => by have h1 := unhide HEr5; go_simp⟩) HS ?_
          simp only [Act.put, List.setIfInBounds_toArray, List.set_cons_zero, List.set_cons_succ]
          refine wpAnyH_take (i := 26) (oi := { dst := some 84, op := Op.move (Operand.tmp 14), type := 3, pos := _, after := _, guard := none }) (v := .int .i64 (j : Int)) rfl (by kernel_rfl) (by kernel_rfl) (by kernel_rfl) (fun _ _ _ h => h) (Or.inl ⟨by rfl, fun _ _ => rfl⟩) HS ?_
          simp only [Act.put, List.setIfInBounds_toArray, List.set_cons_zero, List.set_cons_succ]
          refine wpAnyH_take (i := 27) (oi := { dst := some 85, op := Op.fieldAddr 26 (Operand.tmp 6) 2, type := 0, pos := _, after := _, guard := none }) (v := .pointer (some ⟨w.heap.size + 1, 2, none⟩)) rfl (by kernel_rfl) (by kernel_rfl) (by kernel_rfl) (fun _ _ _ h => h) (Or.inl ⟨by rfl, fun _ _ => rfl⟩) HS ?_
          simp only [Act.put, List.setIfInBounds_toArray, List.set_cons_zero, List.set_cons_succ]
          refine wpAnyH_take (i := 28) (oi := { dst := some 86, op := Op.load 3 (Operand.tmp 85), type := 3, pos := _, after := _, guard := none }) (v := .int .i64 (pw : Int)) rfl (by kernel_rfl) (by kernel_rfl) (by kernel_rfl) (fun _ _ _ h => h) (Or.inl ⟨by rfl, fun wx hx => by have h1 := hx.2.2.2.2; go_simp⟩) HS ?_
          simp only [Act.put, List.setIfInBounds_toArray, List.set_cons_zero, List.set_cons_succ]
          refine wpAnyH_take (i := 29) (oi := { dst := some 87, op := Op.binOp BinOp.mul 3 (Operand.tmp 84) (Operand.tmp 86) 3, type := 3, pos := _, after := _, guard := none }) (v := .int .i64 (r3 : Int)) rfl (by kernel_rfl) (by kernel_rfl) (by kernel_rfl) (fun _ _ _ h => h) (Or.inl ⟨by rfl, fun wx hx => by have h1 := unhide HEr3; go_simp⟩) HS ?_
          simp only [Act.put, List.setIfInBounds_toArray, List.set_cons_zero, List.set_cons_succ]
          refine wpAnyH_take (i := 30) (oi := { dst := some 88, op := Op.move (Operand.tmp 15), type := 3, pos := _, after := _, guard := none }) (v := .int .i64 (i : Int)) rfl (by kernel_rfl) (by kernel_rfl) (by kernel_rfl) (fun _ _ _ h => h) (Or.inl ⟨by rfl, fun _ _ => rfl⟩) HS ?_
          simp only [Act.put, List.setIfInBounds_toArray, List.set_cons_zero, List.set_cons_succ]
          refine wpAnyH_take (i := 31) (oi := { dst := some 89, op := Op.binOp BinOp.add 3 (Operand.tmp 87) (Operand.tmp 88) 3, type := 3, pos := _, after := _, guard := none }) (v := .int .i64 (r4 : Int)) rfl (by kernel_rfl) (by kernel_rfl) (by kernel_rfl) (fun _ _ _ h => h) (Or.inl ⟨by rfl, fun wx hx => by have h1 := unhide HEr4; go_simp⟩) HS ?_
          simp only [Act.put, List.setIfInBounds_toArray, List.set_cons_zero, List.set_cons_succ]
          refine wpAnyH_take (i := 32) (oi := { dst := some 90, op := Op.binOp BinOp.add 3 (Operand.tmp 89) (Operand.const (Value.int IntKind.i64 1)) 3, type := 3, pos := _, after := _, guard := none }) (v := .int .i64 (r6 : Int)) rfl (by kernel_rfl) (by kernel_rfl) (by kernel_rfl) (fun _ _ _ h => h) (Or.inl ⟨by rfl, fun wx hx => by have h1 := unhide HEr6; go_simp⟩) HS ?_
          simp only [Act.put, List.setIfInBounds_toArray, List.set_cons_zero, List.set_cons_succ]
          refine wpAnyH_take (i := 33) (oi := { dst := some 91, op := Op.move (Operand.tmp 12), type := 3, pos := _, after := _, guard := none }) (v := .int .i64 (s : Int)) rfl (by kernel_rfl) (by kernel_rfl) (by kernel_rfl) (fun _ _ _ h => h) (Or.inl ⟨by rfl, fun _ _ => rfl⟩) HS ?_
          simp only [Act.put, List.setIfInBounds_toArray, List.set_cons_zero, List.set_cons_succ]
          refine wpAnyH_take (i := 34) (oi := { dst := some 92, op := Op.binOp BinOp.mul 3 (Operand.tmp 90) (Operand.tmp 91) 3, type := 3, pos := _, after := _, guard := none }) (v := .int .i64 (r7 : Int)) rfl (by kernel_rfl) (by kernel_rfl) (by kernel_rfl) (fun _ _ _ h => h) (Or.inl ⟨by rfl, fun wx hx => by have h1 := unhide HEr7; go_simp⟩) HS ?_
          simp only [Act.put, List.setIfInBounds_toArray, List.set_cons_zero, List.set_cons_succ]
          refine wpAnyH_take (i := 35) (oi := { dst := some 93, op := Op.slice 27 (Operand.tmp 75) (some (Operand.tmp 83)) (some (Operand.tmp 92)) none, type := 27, pos := _, after := _, guard := none }) (v := .slice (some ⟨q0, qoff + r5, none⟩) (r7 - r5) (qcap - r5)) rfl (by kernel_rfl) (by kernel_rfl) (by kernel_rfl) (fun _ _ _ h => h) (Or.inl ⟨by rfl, fun wx hx => by have h1 : (r5 : Int) ≤ (r7 : Int) := (by omega); have h2 : ¬ qcap = r5 := (by omega); have h3 : (r7 : Int) ≤ (qcap : Int) := (by omega); go_simp⟩) HS ?_
          simp only [Act.put, List.setIfInBounds_toArray, List.set_cons_zero, List.set_cons_succ]
          refine wpAnyH_ready (rs := [36]) (by kernel_rfl) (by simp) (AllReadyH.cons (o := { dst := some 94, op := Op.call { callee := Callee.builtin Builtin.copy, args := #[Operand.tmp 74, Operand.tmp 93], argTypes := #[27, 27] }, type := 3, pos := _, after := _, guard := none }) rfl (fun KK hK => ?_) AllReadyH.nil)
          refine step_copy (by rfl) (.tmp 74) (.tmp 93) 27 (by rfl) (by rfl) (by rfl) (unhide HRUN) ?_
          refine hK.out _ _ (unhide HS8) (fun _ => ?_)
          clear hK KK
          try simp only [Act.put, List.setIfInBounds_toArray, List.set_cons_zero, List.set_cons_succ]
          refine wpAnyH_done (by kernel_rfl) ?_ _
          refine NoPanic.normal ?_
          clear hS0 HS
          go_wp2
          go_roundw
          case rel => exact ⟨i + 1, by omega, by go_num, unhide HI8⟩
          case measure => simp [intOf]; omega
        · obtain rfl : i = pw := by omega
          have hnl : ¬ (i : Int) < (i : Int) := by omega
          have HI := hide hI
          clear hI
          go_wp2
          go_roundw
          case rel => exact ⟨j + 1, by omega, by go_num, by rw [Nat.succ_mul]; exact unhide HI⟩
          case measure => simp [intOf]; omega
    · obtain rfl : j = ph := by omega
      have hnl : ¬ (j : Int) < (j : Int) := by omega
      have hI := unhide HI
      obtain ⟨y0, y1, y2, y3, y4, y5⟩ := hI.img.six
      obtain ⟨r0, r1, r2, r3, r4, r5⟩ := hI.res.six
      obtain ⟨f0, f1, f2, f3, f4, f5⟩ := hI.res.frees
      have hB10 := hI.res.put6 (.int .i64 I.f) (.slice (some ⟨g, 0, none⟩) n4 cap5) (.int .i64 I.ws) (.int .i64 I.wt) (.int .i64 I.mn) (.int .i64 I.mg)
      have hg10 := grown_put6 wr (w.heap.size + 1 + 1) (.int .i64 I.f) (.slice (some ⟨g, 0, none⟩) n4 cap5) (.int .i64 I.ws) (.int .i64 I.wt) (.int .i64 I.mn) (.int .i64 I.mg)
      have hlo10 := hI.lo.grown hI.res ⟨by decide, by decide⟩ hg10
      have hx10 : Ext w _ := below_grown hI.ext hg10 hI.ext.size (by omega)
      rw [Nat.mul_comm j pw] at hlo10
      have H10 := hide (And.intro hB10 (And.intro hlo10 hx10))
      clear hI hB10 hg10 hlo10 hx10 HI
      go_wp2
      obtain ⟨hB10, hlo10, hx10⟩ := unhide H10
      obtain ⟨t0, t1, t2, t3, t4, t5⟩ := hB10.six
      have hlo11 := hlo10.lower (b2 := w.heap.size) (by omega)
      have hlen9 : (A ++ (x.1, x.2.1, x.2.2.1, subK s x.2.2.2 (pq W X Y pw) qs (pw * j)) :: B).length = n4 := by rw [(unhide HD).2.2.2.2, (unhide HD).1]; simp
      refine bodyPost_ret (v := .tuple #[.agg #[.int .i64 I.f, .slice (some ⟨g, 0, none⟩) n4 cap5, .int .i64 I.ws, .int .i64 I.wt, .int .i64 I.mn, .int .i64 I.mg], .int .i64 0]) (by simp [results, Try.results10, go_sem, t0, t1, t2, t3, t4, t5]) rfl ?_
      refine ⟨some ⟨g, 0, none⟩, cap5, A ++ (x.1, x.2.1, x.2.2.1, subK s x.2.2.2 (pq W X Y pw) qs (pw * j)) :: B, by rw [hlen9], by rw [hlen9]; exact hlo11, ?_, hx10⟩
      rw [unhide HFA, (unhide HX).2.2.1]
end
end Go.Proofs.Ytpjapdifmfpcnaa
