/-
  Proved: ImageCuts answers true for every image and piece with bytes and turns nothing that was there.
-/
import Derived.Test.YtpjapdifmfpcnaaJK
import Derived.Test.YtpjapdifmfpcnaaRN
import Derived.Test.YtpjapdifmfpcnaaKY
namespace Go.Proofs.Ytpjapdifmfpcnaa
open Go.ChangeShapes Go.WideShapes Go.ChangeAt Go.RowKit
set_option linter.unusedVariables false
set_option linter.unusedSimpArgs false

theorem lay_byt {xs ys : List Int} {p : Nat} (h : Byt xs) (h2 : Byt ys) : Byt (layB xs p ys) := by
  intro z hz
  unfold layB at hz
  rcases List.mem_append.1 hz with hz | hz
  · rcases List.mem_append.1 hz with hz | hz
    · exact h z (List.mem_of_mem_take hz)
    · exact h2 z hz
  · exact h z (List.mem_of_mem_drop hz)
theorem subK_byt {s : Nat} {xs b : List Int} {q : Nat → Nat} (h : Byt xs) (h2 : Byt b) : ∀ n, Byt (subK s xs q b n)
  | 0 => h
  | n + 1 => lay_byt (subK_byt h h2 n) (h2.cut _ _)
theorem getK_byt {s : Nat} {xs : List Int} {q : Nat → Nat} (h : Byt xs) : ∀ n, Byt (getK s xs q n)
  | 0 => fun z hz => by simp [getK] at hz
  | n + 1 => (getK_byt h n).append (h.cut _ _)
theorem lvAt_byt {I : Img} (h : ∀ p ∈ I.L, Byt p.2.2) (lv : Int) : Byt (lvAt I lv).2.2 := by
  unfold lvAt
  by_cases hk : lv.toNat < I.L.length
  · have e : I.L.getD lv.toNat noLev = I.L[lv.toNat] := by simp [hk]
    rw [e]
    exact h _ (List.getElem_mem hk)
  · have e : I.L.getD lv.toNat noLev = noLev := by simp [List.getElem?_eq_none (Nat.le_of_not_lt hk)]
    rw [e]
    intro z hz
    simp [noLev] at hz
theorem getB_byt {I : Img} (h : ∀ p ∈ I.L, Byt p.2.2) (lv X Y pw ph : Int) : Byt (getB I lv X Y pw ph) := by
  unfold getB
  split
  · exact getK_byt (lvAt_byt h lv) _
  · intro z hz
    simp at hz
theorem sbI_byt {I : Img} (h : ∀ p ∈ I.L, Byt p.2.2) (lv X Y pw ph : Int) {qs : List Int} (hq : Byt qs) : ∀ p ∈ (sbI I lv X Y pw ph qs).L, Byt p.2.2 := by
  unfold sbI
  split
  · intro p hp
    rcases List.mem_or_eq_of_mem_set hp with hp | rfl
    · exact h p hp
    · exact subK_byt (lvAt_byt h lv) hq _
  · intro p hp
    simp [zimg] at hp
theorem sbI_len (I : Img) (lv X Y pw ph : Int) (qs : List Int) : (sbI I lv X Y pw ph qs).L.length ≤ I.L.length := by
  unfold sbI
  split
  · simp
  · simp [zimg]
theorem byt_ofP {D : List Ent} {A : List Lev} (h : absL D = A) (hb : ∀ p ∈ A, Byt p.2.2) : ∀ p ∈ D, Byt p.2.2.2 := fun p hp => by
  have := hb (absE p) (by rw [← h]; exact abs_mem hp)
  exact this
theorem getB_len {I : Img} {L : List Ent} (hA : I.L = absL L) (lv X Y pw ph : Int) : (getB I lv X Y pw ph).length ≤ 16384 := by
  by_cases hE : pieceE I lv X Y pw ph = 0
  · obtain ⟨k, x, y, a, b, s, W, H, hk, rfl, rfl, rfl, rfl, rfl, hs, hs0, hW, hH, w1, h1, w6, h6, hx, hy, hlen, hlv⟩ := piece_open hA hE
    obtain ⟨_, _, _, hs4⟩ := chs_sum hs hs0
    unfold getB
    rw [if_pos hE, hlv, hs]
    show (getK s L[k].2.2.2 (pq L[k].1.toNat x y a) (a * b)).length ≤ _
    rw [hW, getK_len _ (fun j hj => by rw [hlen]; exact Nat.mul_le_mul_right _ (pq_lt hx hy hj))]
    have m1 : a * b ≤ 64 * 64 := Nat.mul_le_mul (by omega) (by omega)
    have m2 : a * b * s ≤ 4096 * 4 := Nat.mul_le_mul m1 hs4
    omega
  · unfold getB
    rw [if_neg hE]
    simp

section
variable {w : World} {v : Value} {L : List Ent} {I : Img}
theorem refSub_all (h : LR w v L) (hL : L.length ≤ 1000) (hA : I.L = absL L) (hbL : ∀ p ∈ L, p.2.2.2.length ≤ 140737488355328) (lv X Y pw ph : Int) (qo : Option Addr) (qcap : Nat) (qs : List Int) (hq : Row .u8 w (.slice qo qs.length qcap) qs) :
    Calls Try.prog 10 #[.agg #[.int .i64 I.f, v, .int .i64 I.ws, .int .i64 I.wt, .int .i64 I.mn, .int .i64 I.mg], .int .i64 lv, .agg #[.int .i64 X, .int .i64 Y, .int .i64 pw, .int .i64 ph], .slice qo qs.length qcap] w fun e w' => ∃ ao cap L', e = .returned (.tuple #[.agg #[.int .i64 (sbI I lv X Y pw ph qs).f, .slice ao L'.length cap, .int .i64 (sbI I lv X Y pw ph qs).ws, .int .i64 (sbI I lv X Y pw ph qs).wt, .int .i64 (sbI I lv X Y pw ph qs).mn, .int .i64 (sbI I lv X Y pw ph qs).mg], .int .i64 (subE I lv X Y pw ph qs.length)]) ∧
      LO w' w.heap.size (.slice ao L'.length cap) L' ∧ absL L' = (sbI I lv X Y pw ph qs).L ∧ Ext w w' := by
  by_cases hE : pieceE I lv X Y pw ph = 0
  · obtain ⟨k, x, y, a, b, s, W, H, hk, rfl, rfl, rfl, rfl, rfl, hs, hs0, hW, hH, w1, h1, w6, h6, hx, hy, hlen, hlv⟩ := piece_open hA hE
    by_cases hn : qs.length = a * b * s
    · have eE : subE I k x y a b qs.length = 0 := by
        unfold subE
        rw [if_neg (by simpa using hE), if_pos]
        rw [hs]
        exact hn
      have eS : sbI I k x y a b qs = ⟨I.f, (absL L).set k ((W : Int), (H : Int), subK s L[k].2.2.2 (pq W x y a) qs (a * b)), I.ws, I.wt, I.mn, I.mg⟩ := by
        unfold sbI
        rw [if_pos eE, hlv, hs, hA]
        show Img.mk _ ((absL L).set _ (L[k].1, L[k].2.1, subK _ L[k].2.2.2 (pq L[k].1.toNat _ _ _) _ _)) _ _ _ _ = _
        rw [hW, hH]
        rfl
      refine (refSub_good h hL hA k x y a b s W H hk hs hs0 hW hH w1 h1 w6 h6 hx hy hlen hE qo qcap qs hq hn hbL).mono ?_
      rintro e w' ⟨ao, cap, L', rfl, ho, ha, hxt⟩
      rw [eE, eS]
      exact ⟨ao, cap, L', rfl, ho, ha, hxt⟩
    · have eE : subE I k x y a b qs.length = 7 := by
        unfold subE
        rw [if_neg (by simpa using hE), if_neg]
        rw [hs]
        exact hn
      have eS : sbI I k x y a b qs = zimg := by unfold sbI; rw [if_neg (by rw [eE]; decide)]
      refine (refSub_short h hL hA k x y a b s W H hk hs hs0 hW hH w1 h1 w6 h6 hx hy hlen hE qo qcap qs hq hn).mono ?_
      rintro e w' ⟨rfl, hxt⟩
      rw [eE, eS]
      exact ⟨none, 0, [], rfl, LO.nil _ _, rfl, hxt⟩
  · have eE : subE I lv X Y pw ph qs.length = pieceE I lv X Y pw ph := by unfold subE; rw [if_pos hE]
    have eS : sbI I lv X Y pw ph qs = zimg := by unfold sbI; rw [if_neg (by rw [eE]; exact hE)]
    refine (refSub_bad h hL hA lv X Y pw ph qo qs.length qcap hE).mono ?_
    rintro e w' ⟨rfl, hxt⟩
    rw [eE, eS]
    exact ⟨none, 0, [], rfl, LO.nil _ _, rfl, hxt⟩
end

set_option maxRecDepth 10000 in
set_option maxHeartbeats 4000000 in
theorem cuts_walk {W : World} {I : Img} {v : Value} {L : List Ent} (hI : ImgIn W I v L) (lv PX PY pw ph : Int) (u : Value) (bs0 : List Int) (hq : Row .u8 W u bs0) (hqb : Byt bs0) (hql : bs0.length ≤ 140737488351232) :
    Calls Try.prog 3 #[.agg #[.int .i64 I.f, v, .int .i64 I.ws, .int .i64 I.wt, .int .i64 I.mn, .int .i64 I.mg], .agg #[.int .i64 lv, .int .i64 PX, .int .i64 PY, .int .i64 pw, .int .i64 ph, u]] W fun e w' => e = .returned (.bool true) ∧ Ext W w' := by
  obtain ⟨ao, cap, rfl, _⟩ := hI.lr.shape
  obtain ⟨bo, bcap, rfl, hbo, hbc, hbm⟩ := hq.shape
  have hbc2 : bcap ≤ 9223372036854775807 := by unfold maxLen at hbm; omega
  have hX0 := ((Ext.refl W).alloc (.cells #[.int .i64 I.f, .slice ao L.length cap, .int .i64 I.ws, .int .i64 I.wt, .int .i64 I.mn, .int .i64 I.mg] 24)).alloc (.cells #[.int .i64 lv, .int .i64 PX, .int .i64 PY, .int .i64 pw, .int .i64 ph, .slice bo bs0.length bcap] 29)
  have hB0 := (Blk.new W #[.int .i64 I.f, .slice ao L.length cap, .int .i64 I.ws, .int .i64 I.wt, .int .i64 I.mn, .int .i64 I.mg] 24).alloc (.cells #[.int .i64 lv, .int .i64 PX, .int .i64 PY, .int .i64 pw, .int .i64 ph, .slice bo bs0.length bcap] 29)
  have hP0 : Blk ((W.alloc (.cells #[.int .i64 I.f, .slice ao L.length cap, .int .i64 I.ws, .int .i64 I.wt, .int .i64 I.mn, .int .i64 I.mg] 24)).alloc (.cells #[.int .i64 lv, .int .i64 PX, .int .i64 PY, .int .i64 pw, .int .i64 ph, .slice bo bs0.length bcap] 29)) (W.heap.size + 1) #[.int .i64 lv, .int .i64 PX, .int .i64 PY, .int .i64 pw, .int .i64 ph, .slice bo bs0.length bcap] 29 := Blk.at (by simp)
  have H0 := hide (And.intro hX0 (And.intro hB0 hP0))
  have HI := hide hI
  have HQ := hide hq
  have HQB := hide hqb
  obtain ⟨m, hm⟩ : ∃ m : Nat, m = min bs0.length 20000 := ⟨_, rfl⟩
  have HM : Hid ((if (20000 : Int) < (bs0.length : Int) then (20000 : Int) else (bs0.length : Int)) = (m : Int)) := by
    show _ = _
    split <;> omega
  have hmL : m ≤ bs0.length := by omega
  have hm9 : m ≤ 20000 := by omega
  clear hI hX0 hB0 hP0 hq hqb hbo hbm hm
  go_enter Try.func3, Try.ntmps3
  go_wp2_with fail
  generalize (W.alloc (.cells #[.int .i64 I.f, .slice ao L.length cap, .int .i64 I.ws, .int .i64 I.wt, .int .i64 I.mn, .int .i64 I.mg] 24)).alloc (.cells #[.int .i64 lv, .int .i64 PX, .int .i64 PY, .int .i64 pw, .int .i64 ph, .slice bo bs0.length bcap] 29) = w0 at H0 ⊢
  refine (wakes_any _).mono ?_
  rintro e w1 ⟨rfl, hx1⟩
  have H1 := hide (And.intro ((unhide H0).1.trans hx1) (And.intro ((unhide H0).2.1.ext hx1) ((unhide H0).2.2.ext hx1)))
  clear H0 hx1
  obtain ⟨q0, q1, q2, q3, q4, q5⟩ := (unhide H1).2.1.six
  go_wp2_with fail
  refine (short_in (unhide HI) (unhide H1).1).mono ?_
  rintro e w2 ⟨ao2, cap2, LX, rfl, hlo2, hab2, hx2⟩
  have hB2 := (unhide H1).2.1.ext hx2
  have hX2 := (unhide H1).1.trans hx2
  have hP2 := (unhide H1).2.2.ext hx2
  clear q0 q1 q2 q3 q4 q5
  obtain ⟨q0, q1, q2, q3, q4, q5⟩ := hB2.six
  obtain ⟨f0, f1, f2, f3, f4, f5⟩ := hB2.frees
  have hM3 := mine_put (unhide HI) hB2 hlo2 hab2
  have hg3 := grown_put6 w2 W.heap.size (.int .i64 I.f) (.slice ao2 LX.length cap2) (.int .i64 I.ws) (.int .i64 I.wt) (.int .i64 I.mn) (.int .i64 I.mg)
  have hX3 : Ext W _ := below_grown hX2 hg3 hX2.size (Nat.le_refl _)
  have hP3 := hP2.grown hg3 (by omega)
  have H3 := hide (And.intro hM3 (And.intro hX3 hP3))
  clear H1 hlo2 hab2 hx2 hB2 hX2 hM3 hX3 hP2 hP3 hg3
  go_upto_region 4 with fail
  generalize (((((w2.setCell ⟨W.heap.size, 0, none⟩ (.int .i64 I.f)).setCell ⟨W.heap.size, 1, none⟩ (.slice ao2 LX.length cap2)).setCell ⟨W.heap.size, 2, none⟩ (.int .i64 I.ws)).setCell ⟨W.heap.size, 3, none⟩ (.int .i64 I.wt)).setCell ⟨W.heap.size, 4, none⟩ (.int .i64 I.mn)).setCell ⟨W.heap.size, 5, none⟩ (.int .i64 I.mg) = w3 at H3 ⊢
  have hby := short_byt (abs_byt fun p hp => ((unhide HI).all p hp).2.1)
  rw [← (unhide HI).abs] at hby
  have HBY : Hid (∀ p ∈ (shI I).L, Byt p.2.2) := hby
  clear q0 q1 q2 q3 q4 q5 f0 f1 f2 f3 f4 f5 HI hby
  generalize shI I = X at H3 HBY
  have hL9 := (unhide H3).1.len
  have hXl : X.L.length ≤ 9 := by rw [(unhide H3).1.abs, absL_len]; exact hL9
  have HBL : Hid (∀ p ∈ LX, p.2.2.2.length ≤ 140737488355328) := fun p hp => by have := (unhide H3).1.bys p hp; omega
  obtain ⟨q0, q1, q2, q3, q4, q5⟩ := (unhide H3).1.blk.six
  go_wp2_with fail
  refine (refCopy_any (I := X) (unhide H3).1.lo.lr (by omega) (unhide HBL)).mono ?_
  rintro e w4 ⟨ao4, cap4, LZ, rfl, hlo4, hab4, hx4⟩
  have hx5 := (Ext.refl w4).alloc (.cells #[.int .i64 X.f, .slice ao4 LZ.length cap4, .int .i64 X.ws, .int .i64 X.wt, .int .i64 X.mn, .int .i64 X.mg] 24)
  have hZl : w4.heap.size ≠ W.heap.size + 1 := by have := (unhide H3).2.2.lt; have := hx4.size; omega
  have H5 := hide (And.intro ((unhide H3).1.ext (hx4.trans hx5)) (And.intro (hlo4.ext hx5) (And.intro (Blk.new w4 #[.int .i64 X.f, .slice ao4 LZ.length cap4, .int .i64 X.ws, .int .i64 X.wt, .int .i64 X.mn, .int .i64 X.mg] 24) (And.intro ((unhide H3).2.1.trans (hx4.trans hx5)) ((unhide H3).2.2.ext (hx4.trans hx5))))))
  have HAZ : Hid (X.L = absL LZ) := by show _ = _; rw [hab4]; exact (unhide H3).1.abs
  have hLZ : LZ.length ≤ 9 := by
    have := congrArg List.length hab4
    rw [absL_len, absL_len] at this
    omega
  have HBLZ : Hid (∀ p ∈ LZ, p.2.2.2.length ≤ 140737488355328) := fun p hp => by
    have h1 := abs_mem hp
    rw [hab4] at h1
    obtain ⟨q, hq, hqe⟩ := List.mem_map.1 h1
    have h2 := (unhide HBL) q hq
    have h3 : q.2.2.2 = p.2.2.2 := congrArg (fun t => t.2.2) hqe
    rw [← h3]
    exact h2
  clear q0 q1 q2 q3 q4 q5 hlo4 hab4 hx4 hx5 H3
  go_upto_region 5 with fail
  generalize w4.alloc (.cells #[.int .i64 X.f, .slice ao4 LZ.length cap4, .int .i64 X.ws, .int .i64 X.wt, .int .i64 X.mn, .int .i64 X.mg] 24) = w5 at H5 ⊢
  go_cut [25] (fun p wc => p = .int .i64 (m : Int) ∧ wc = w5.setCell ⟨W.heap.size + 1, 5, none⟩ (.slice bo m bcap))
  case first =>
    obtain ⟨q0, q1, q2, q3, q4, q5⟩ := (unhide H5).2.2.2.2.six
    have f1 := (unhide H5).2.2.2.2.free 5
    by_cases h9 : 20000 < bs0.length
    · have h9' : (20000 : Int) < (bs0.length : Int) := by omega
      have HM2 := unhide HM
      rw [if_pos h9'] at HM2
      obtain rfl : m = 20000 := by omega
      clear HM2
      go_wp2
      go_meet
      exact ⟨rfl, rfl⟩
    · have h9' : ¬ (20000 : Int) < (bs0.length : Int) := by omega
      have HM2 := unhide HM
      rw [if_neg h9'] at HM2
      obtain rfl : m = bs0.length := by omega
      clear HM2
      go_wp2
      go_meet
      exact ⟨rfl, rfl⟩
  case rest =>
  obtain ⟨rfl, rfl⟩ := hcut
  have hP6 : Blk (w5.setCell ⟨W.heap.size + 1, 5, none⟩ (.slice bo m bcap)) (W.heap.size + 1) #[.int .i64 lv, .int .i64 PX, .int .i64 PY, .int .i64 pw, .int .i64 ph, .slice bo m bcap] 29 := by
    have := (unhide H5).2.2.2.2.set 5 (.slice bo m bcap)
    simpa using this
  have hg6 := grownBy_set w5 (W.heap.size + 1) 5 (.slice bo m bcap)
  have hM6 : Mine (w5.setCell ⟨W.heap.size + 1, 5, none⟩ (.slice bo m bcap)) w1.heap.size W.heap.size X (.slice ao2 LX.length cap2) LX := by
    obtain ⟨a1, a2, a3, a4, a5, a6⟩ := (unhide H5).1
    exact ⟨a1.grown hg6 (by omega), a2.grown (unhide H5).2.2.2.2 ⟨by decide, by decide⟩ hg6, a3, a4, a5, a6⟩
  have hZ6 := (unhide H5).2.1.grown (unhide H5).2.2.2.2 ⟨by decide, by decide⟩ hg6
  have hBZ6 := (unhide H5).2.2.1.grown hg6 hZl
  have hX6 : Ext W _ := below_grown (unhide H5).2.2.2.1 hg6 (unhide H5).2.2.2.1.size (by omega)
  obtain ⟨bs, hbs⟩ : ∃ bs, bs = bs0.take m := ⟨_, rfl⟩
  have hbl : bs.length = m := by rw [hbs]; simp; omega
  have hbR : Row .u8 W (.slice bo m bcap) bs := by rw [hbs]; exact (unhide HQ).upto m hmL
  have HBB : Hid (Byt bs) := by
    intro x hx
    rw [hbs] at hx
    exact unhide HQB x (List.mem_of_mem_take hx)
  clear hbs H5 HQ HQB HM
  subst hbl
  have hbc3 : bs.length ≤ bcap := by omega
  have HBR := hide hbR
  have H6 := hide (And.intro hM6 (And.intro hZ6 (And.intro hBZ6 (And.intro hX6 hP6))))
  clear hP6 hg6 hM6 hZ6 hBZ6 hX6 hbR
  generalize w5.setCell ⟨W.heap.size + 1, 5, none⟩ (.slice bo bs.length bcap) = w6 at H6 ⊢
  obtain ⟨i0, hi, hz0, hz1, hz2⟩ := info_parts info5
  have hx7 := (Ext.refl w6).alloc (.cells #[] 5)
  have HR7 := hide ((unhide HBR).ext ((unhide H6).2.2.2.1.trans hx7))
  have p5' := ((unhide H6).2.2.2.2.ext hx7).six.2.2.2.2.2
  have p5 := (unhide H6).2.2.2.2.six.2.2.2.2.2
  go_wp2_with (at_builtin; refine wpList_append_Own rfl (.tmp 28) (.tmp 30) 27 rfl w6.heap.size 5 i0 .u8 1 Try.underlying27 hi hz0 hz1 hz2 _ [] rfl (Own.made_at _ rfl (Nat.le_refl _)) _ bs rfl (unhide HR7) ?c1 ?c2 ?c3 ?_)
  case c1 => unfold maxLen; simp; omega
  case c2 => simp; omega
  case c3 => simp
  intro v' w8 hown8 hg8
  replace hown8 : Own .u8 w8 w6.heap.size 5 v' bs := hown8
  obtain ⟨ow, oc, rfl⟩ := hown8.shape
  have hg8' : (w6.alloc (.cells #[] 5)).grownBy w8 (some w6.heap.size) := hg8
  have hx8 : Ext w6 w8 := below_grown hx7 hg8' (by simp) (Nat.le_refl _)
  have H8 := hide (And.intro ((unhide H6).1.ext hx8) (And.intro ((unhide H6).2.1.ext hx8) (And.intro ((unhide H6).2.2.1.ext hx8) (And.intro ((unhide H6).2.2.2.1.trans hx8) (And.intro ((unhide H6).2.2.2.2.ext hx8) hown8.row)))))
  clear hg8 hg8' hown8 hx8 hx7 H6 HR7 p5 p5'
  obtain ⟨q0, q1, q2, q3, q4, q5⟩ := (unhide H8).1.blk.six
  obtain ⟨p0, p1, p2, p3, p4, p5⟩ := (unhide H8).2.2.2.2.1.six
  go_wp2_with fail
  refine (sub_all (I := X) (unhide H8).1.lo.lr (by omega) (unhide H8).1.abs (unhide HBL) lv PX PY pw ph ow oc bs (unhide H8).2.2.2.2.2).mono ?_
  rintro e w9 ⟨ao9, cap9, LG, rfl, hlo9, hab9, hx9⟩
  have hJl := sbI_len X lv PX PY pw ph bs
  have hJb := sbI_byt (unhide HBY) lv PX PY pw ph (unhide HBB)
  obtain ⟨J, hJ⟩ : ∃ J, J = sbI X lv PX PY pw ph bs := ⟨_, rfl⟩
  obtain ⟨er, her⟩ : ∃ er, er = subE X lv PX PY pw ph bs.length := ⟨_, rfl⟩
  rw [← hJ] at hab9 hJl hJb ⊢
  rw [← her]
  have HJ := hide (And.intro hJ her)
  clear hJ her
  have hLG : LG.length ≤ 9 := by
    have := congrArg List.length hab9
    rw [absL_len] at this
    omega
  have HJB := hide hJb
  clear q0 q1 q2 q3 q4 q5 p0 p1 p2 p3 p4 p5 hJl hJb
  have hx10 := (Ext.refl w9).alloc (.cells #[.int .i64 J.f, .slice ao9 LG.length cap9, .int .i64 J.ws, .int .i64 J.wt, .int .i64 J.mn, .int .i64 J.mg] 24)
  have hx810 := hx9.trans hx10
  have H10 := hide (And.intro (hlo9.ext hx10) (And.intro hab9 (And.intro (Blk.new w9 #[.int .i64 J.f, .slice ao9 LG.length cap9, .int .i64 J.ws, .int .i64 J.wt, .int .i64 J.mn, .int .i64 J.mg] 24) hx810)))
  obtain ⟨z0, z1, z2, z3, z4, z5⟩ := ((unhide H8).2.2.1.ext hx810).six
  obtain ⟨p0, p1, p2, p3, p4, p5⟩ := ((unhide H8).2.2.2.2.1.ext hx810).six
  clear hx10 hx810 hlo9 hab9 hx9
  go_wp2_with fail
  clear z0 z1 z2 z3 z4 z5 p0 p1 p2 p3 p4 p5
  generalize w9.alloc (.cells #[.int .i64 J.f, .slice ao9 LG.length cap9, .int .i64 J.ws, .int .i64 J.wt, .int .i64 J.mn, .int .i64 J.mg] 24) = w10 at H10 ⊢
  refine (refSub_all (I := X) ((unhide H8).2.1.lr.ext (unhide H10).2.2.2) (by omega) (unhide HAZ) (unhide HBLZ) lv PX PY pw ph bo bcap bs ((unhide HBR).ext ((unhide H8).2.2.2.1.trans (unhide H10).2.2.2))).mono ?_
  rintro e w11 ⟨ao11, cap11, LW, rfl, hlo11, hab11, hx11⟩
  rw [← (unhide HJ).1] at hab11 ⊢
  rw [← (unhide HJ).2]
  have hx12 := (Ext.refl w11).alloc (.cells #[.int .i64 J.f, .slice ao11 LW.length cap11, .int .i64 J.ws, .int .i64 J.wt, .int .i64 J.mn, .int .i64 J.mg] 24)
  have hx812 := (unhide H10).2.2.2.trans (hx11.trans hx12)
  have H12 := hide (And.intro ((unhide H10).1.ext (hx11.trans hx12)) (And.intro (unhide H10).2.1 (And.intro ((unhide H10).2.2.1.ext (hx11.trans hx12)) (And.intro (hlo11.ext hx12) (And.intro hab11 (And.intro (Blk.new w11 #[.int .i64 J.f, .slice ao11 LW.length cap11, .int .i64 J.ws, .int .i64 J.wt, .int .i64 J.mn, .int .i64 J.mg] 24) hx812))))))
  obtain ⟨g0, g1, g2, g3, g4, g5⟩ := (unhide H12).2.2.1.six
  obtain ⟨t0, t1, t2, t3, t4, t5⟩ := (unhide H12).2.2.2.2.2.1.six
  obtain ⟨q0, q1, q2, q3, q4, q5⟩ := ((unhide H8).1.blk.ext hx812).six
  obtain ⟨z0, z1, z2, z3, z4, z5⟩ := ((unhide H8).2.2.1.ext hx812).six
  clear hx11 hx12 hx812 hlo11 hab11 H10
  go_wp2_with fail
  clear g0 g1 g2 g3 g4 g5 t0 t1 t2 t3 t4 t5 q0 q1 q2 q3 q4 q5 z0 z1 z2 z3 z4 z5
  generalize w11.alloc (.cells #[.int .i64 J.f, .slice ao11 LW.length cap11, .int .i64 J.ws, .int .i64 J.wt, .int .i64 J.mn, .int .i64 J.mg] 24) = w12 at H12 ⊢
  refine (right_any (IG := J) (IW := J) (IF := X) (IZ := X) (e := er) (unhide H12).2.2.2.2.2.2 (unhide H12).1 (unhide H12).2.2.2.1.lr (unhide H8).1.lo.lr (unhide H8).2.1.lr (unhide H12).2.1.symm (unhide H12).2.2.2.2.1.symm (unhide H8).1.abs (unhide HAZ)
    (byt_ofP (unhide H12).2.1 (unhide HJB)) (byt_ofP (unhide H12).2.2.2.2.1 (unhide HJB)) (unhide H8).1.byt (byt_ofP (unhide HAZ).symm (unhide HBY)) (by omega) (same_refl J) (same_refl X)).mono ?_
  rintro e w13 ⟨rfl, hx13⟩
  have H13 := hide (And.intro ((unhide H8).1.ext hx13) (And.intro ((unhide H8).2.1.ext hx13) (And.intro ((unhide H8).2.2.1.ext hx13) (And.intro ((unhide H8).2.2.2.1.trans hx13) (And.intro ((unhide H8).2.2.2.2.1.ext hx13) ((unhide H8).2.2.2.2.2.ext hx13))))))
  clear H12 hx13 H8 HJ HJB
  have p5 := (unhide H13).2.2.2.2.1.six.2.2.2.2.2
  go_wp2_with fail
  refine (equal_any ow bo oc bcap bs bs _ (unhide H13).2.2.2.2.2 ((unhide HBR).ext (unhide H13).2.2.2.1) (unhide HBB) (unhide HBB)).mono ?_
  rintro e w14 ⟨rfl, hw14⟩
  subst hw14
  rw [decide_eq_true (rfl : bs = bs)]
  clear p5
  obtain ⟨q0, q1, q2, q3, q4, q5⟩ := (unhide H13).1.blk.six
  obtain ⟨p0, p1, p2, p3, p4, p5⟩ := (unhide H13).2.2.2.2.1.six
  go_wp2_with fail
  refine (get_all (I := X) (unhide H13).1.lo.lr (by omega) (unhide H13).1.abs lv PX PY pw ph).mono ?_
  rintro e w15 ⟨ao15, cap15, rfl, ho15, hx15⟩
  have hdl := getB_len (unhide H13).1.abs lv PX PY pw ph
  have hdb := getB_byt (unhide HBY) lv PX PY pw ph
  obtain ⟨dd, hdd⟩ : ∃ dd, dd = getB X lv PX PY pw ph := ⟨_, rfl⟩
  obtain ⟨ee, hee⟩ : ∃ ee, ee = pieceE X lv PX PY pw ph := ⟨_, rfl⟩
  rw [← hdd] at ho15 hdl hdb ⊢
  rw [← hee]
  have HDE := hide (And.intro hdd hee)
  have HDB := hide hdb
  clear hdd hee hdb q0 q1 q2 q3 q4 q5 p0 p1 p2 p3 p4 p5
  have hcap15 : dd.length ≤ cap15 ∧ cap15 ≤ 9223372036854775807 := by
    obtain ⟨_, _, e9, _, h9, h10⟩ := ho15.row.shape
    cases e9
    unfold maxLen at h10
    exact ⟨h9, by omega⟩
  obtain ⟨hca, hcb⟩ := hcap15
  obtain ⟨z0, z1, z2, z3, z4, z5⟩ := ((unhide H13).2.2.1.ext hx15).six
  obtain ⟨p0, p1, p2, p3, p4, p5⟩ := ((unhide H13).2.2.2.2.1.ext hx15).six
  have H15 := hide (And.intro ho15 hx15)
  clear ho15 hx15
  go_wp2_with fail
  refine (refGet_all (I := X) ((unhide H13).2.1.lr.ext (unhide H15).2) (by omega) (unhide HAZ) lv PX PY pw ph).mono ?_
  rintro e w16 ⟨ao16, cap16, rfl, ho16, hx16⟩
  rw [← (unhide HDE).1] at ho16 ⊢
  rw [← (unhide HDE).2]
  have hnee : (ee != ee) = false := by simp
  have H16 := hide (And.intro ((unhide H15).1.kept hx16) (And.intro ((unhide H15).2.trans hx16) ho16.row))
  clear ho16 hx16 H15 HDE z0 z1 z2 z3 z4 z5 p0 p1 p2 p3 p4 p5
  go_wp2_with fail
  refine (equal_any ao15 ao16 cap15 cap16 dd dd _ (unhide H16).1.row (unhide H16).2.2 (unhide HDB) (unhide HDB)).mono ?_
  rintro e w17 ⟨rfl, hw17⟩
  rw [decide_eq_true (rfl : dd = dd)]
  have H17 : Hid (Own .u8 w17 w14.heap.size 5 (.slice ao15 dd.length cap15) dd ∧ Ext w14 w17) := by rw [hw17]; exact ⟨(unhide H16).1, (unhide H16).2.1⟩
  clear hw17 H16 HDB hnee
  obtain ⟨n, hn⟩ : ∃ n, n = dd.length := ⟨_, rfl⟩
  rw [← hn] at H17 hdl hca ⊢
  have HN := hide hn
  clear hn
  go_wp2_with fail
  go_loopw [97] (fun jv wr => ∃ (j : Nat) (ys : List Int), j ≤ n ∧ jv = .int .i64 (j : Int) ∧ ys.length = n ∧ Own .u8 wr w14.heap.size 5 (.slice ao15 n cap15) ys ∧ Ext w14 wr) (fun jv _ => n - (intOf jv).toNat)
  case atStart => exact ⟨0, dd, by omega, rfl, (unhide HN).symm, (unhide H17).1, (unhide H17).2⟩
  case round =>
    clear H17
    obtain ⟨j, ys, hj, rfl, hyl, hown, hxr⟩ := hrel
    by_cases hlt : j < n
    · have hlt2 : (j : Int) < (n : Int) := by omega
      obtain ⟨gb, rfl⟩ : ∃ gb, ao15 = some ⟨gb, 0, none⟩ := by
        rcases hown.2 with ⟨e1, h0⟩ | ⟨g3, c3, cur3, e1, _⟩
        · omega
        · cases e1
          exact ⟨_, rfl⟩
      have cj := hown.cellAt j (by omega)
      have fj := hown.frozenAt j
      have hst := fun z => hown.stored j z
      have hgl := (hown.lt gb rfl).1
      have hgz := fun z => below_grown hxr (grownBy_set wr gb j (.int .u8 z)) hxr.size hgl
      generalize ys[j] = yb at *
      generalize hz : bits .xor .u8 yb 238 = z at *
      have H18 := hide (And.intro (hst z) (And.intro (hgz z) (show (ys.set j z).length = n by rw [List.length_set]; exact hyl)))
      clear hst hgz hown hxr hyl
      go_wp2
      go_roundw
      case rel => exact ⟨j + 1, ys.set j z, by omega, by go_num, (unhide H18).2.2, (unhide H18).1, (unhide H18).2.1⟩
      case measure => simp [intOf]; omega
    · obtain rfl : j = n := by omega
      have hnl : ¬ (j : Int) < (j : Int) := by omega
      have H18 := hide hxr
      clear hown hyl
      obtain ⟨q0, q1, q2, q3, q4, q5⟩ := ((unhide H13).1.blk.ext hxr).six
      obtain ⟨z0, z1, z2, z3, z4, z5⟩ := ((unhide H13).2.2.1.ext hxr).six
      clear hxr
      go_wp2_with fail
      refine (refSame_any (I := X) (J := X) ((unhide H13).1.lo.lr.ext (unhide H18)) ((unhide H13).2.1.lr.ext (unhide H18)) (unhide H13).1.abs (unhide HAZ) (unhide H13).1.byt (byt_ofP (unhide HAZ).symm (unhide HBY))).mono ?_
      rintro e w19 ⟨rfl, hx19⟩
      rw [same_refl]
      have HX19 := hide (((unhide H13).2.2.2.1.trans (unhide H18)).trans hx19)
      clear hx19
      go_wp2
      go_ret
      exact ⟨rfl, unhide HX19⟩

set_option maxRecDepth 10000
theorem cuts_owes (H : Type) (enc : TypeId × Value → H) (W : World) (base : Nat) (args : Array Value) (ds : List (DataW H)) (p : List MemPlace) : Owes H enc Try.prog 3 Try.f3 Rows.imageCutsSpec W base args ds p := by
  intro hval hA hsz
  rw [Try.params3] at hA hval hsz
  obtain ⟨v0, vs0, d0, ds0, p0, q0, hargs, rfl, rfl, h0, r0⟩ := trodAll_cons hA
  obtain ⟨v1, vs1, d1, ds1, p1, q1, rfl, rfl, rfl, h1, r1⟩ := trodAll_cons r0
  obtain ⟨rfl, rfl, rfl⟩ := trodAll_nil r1
  obtain rfl : args = #[v0, v1] := by cases args; simp_all
  obtain ⟨I, u0, L0, rfl, hI⟩ := open_img (hval 0 24 v0 rfl rfl) h0 (Wgt.arg (j := 0) hsz rfl rfl)
  obtain ⟨lv, X, Y, pw, ph, u, bs, rfl, hq1, hq2, hq3⟩ := open_cut (hval 1 29 v1 rfl rfl) h1 (Wgt.arg (j := 1) hsz rfl rfl)
  exact ⟨⟨rfl, rfl, rfl⟩, cuts_walk hI lv X Y pw ph u bs hq1 hq2 hq3⟩

set_option maxRecDepth 100000 in
theorem cuts_lifted (os : Os) (started : os.Started) (H : Type) (enc : TypeId × Value → H) :
    ReturnsInHanded {} Try.checked os 3 .any (Rows.imageCutsSpec.pre6 enc Try.prog Try.f3 [] false) (Rows.imageCutsSpec.post enc Try.prog Try.f3 false true false false) :=
  lift_law (C := Try.checked) own laidOut started (by kernel_rfl) Try.func3 (T := 4) rfl Try.underlying4 rfl (by kernel_rfl)
    (ChangeSpec.witness6 (enc := enc) (C := Try.checked) false ⟨#[], #[.agg #[.int .i64 0, .slice none 0 0, .int .i64 0, .int .i64 0, .int .i64 0, .int .i64 0], .agg #[.int .i64 0, .int .i64 0, .int .i64 0, .int .i64 0, .int .i64 0, .slice none 0 0]], []⟩ 8 (by kernel_rfl) (by kernel_rfl) (by kernel_rfl) (by kernel_rfl)) (cuts_owes H enc)

theorem imageCuts_holds : Rows.ImageCutsSaid :=
  OpenClaim.holds_of_wide 3 Try.f3 rfl rfl rfl rfl rfl rfl rfl ⟨rfl, rfl, rfl, rfl, rfl⟩ rfl rfl rfl rfl rfl (by kernel_rfl) Try.func3 (by kernel_rfl)
    (of_decide_eq_true (by kernel_rfl)) (by unfold Func.isWrapper; rw [if_neg (of_decide_eq_false (by kernel_rfl))]; exact ⟨rfl, rfl⟩)
    (fun os started H enc _ => cuts_lifted os started H enc)
#print axioms imageCuts_holds
end Go.Proofs.Ytpjapdifmfpcnaa
