/-
  Corners: the walk of cutRow. What the dump lacks is left out.
-/
import Derived.Test.YtbhdloanlagddaaHAf
namespace Go.Proofs.Ytbhdloanlagddaa
open Go.RowKit
set_option linter.unusedVariables false
set_option linter.unusedSimpArgs false

/-- The place ahead, round and round. -/
def prvI (len k : Nat) : Int := if k = 0 then (len : Int) - 1 else (k : Int) - 1
theorem prvI_at {len k : Nat} (h : k < len) : ∃ p : Nat, prvI len k = (p : Int) ∧ p < len ∧ (if k = 0 then len - 1 else k - 1) = p := by
  refine ⟨if k = 0 then len - 1 else k - 1, ?_, ?_, rfl⟩
  · unfold prvI; split <;> omega
  · split <;> omega
/-- What cutRow answers. -/
def CrQ (w : World) (L : List Vt) (e : Ending) (w' : World) : Prop := ∃ v' R', e = .returned v' ∧ R'.map Prod.fst = L ∧ VtO w' w.heap.size v' R' ∧ Ext w w'
theorem getD_fst {R : List Vx} {i : Nat} (h : i < R.length) : (R.map Prod.fst).getD i zVt = R[i].1 := by simp [h]

theorem blkA (w : World) (cs : Array Value) (t : TypeId) : Blk (w.alloc (.cells cs t)).drew w.heap.size cs t := (Blk.new w cs t).ext ((Ext.refl _).drew)
theorem blkB (w : World) (c1 c2 : Array Value) (t1 t2 : TypeId) : Blk ((w.alloc (.cells c1 t1)).alloc (.cells c2 t2)).drew w.heap.size c1 t1 := ((Blk.new w c1 t1).alloc _).ext ((Ext.refl _).drew)
theorem blkC (w : World) (c1 c2 : Array Value) (t1 t2 : TypeId) : Blk ((w.alloc (.cells c1 t1)).alloc (.cells c2 t2)).drew (w.heap.size + 1) c2 t2 := (Blk.at (w := w.alloc (.cells c1 t1)) (by simp)).ext ((Ext.refl _).drew)
theorem extA (w : World) (o : Obj) : Ext w (w.alloc o).drew := ((Ext.refl w).alloc o).drew
theorem extB (w : World) (o p : Obj) : Ext w ((w.alloc o).alloc p).drew := (((Ext.refl w).alloc o).alloc p).drew
theorem vtR_one {W : World} {z : Vt} {u : Value} {g : Nat} {t : TypeId} (hB : Blk W g #[.int .i32 (Vt.p z 0), .int .i32 (Vt.p z 1), .int .i32 (Vt.p z 2), .int .i32 (Vt.p z 3), .int .i32 (Vt.s z), u] t) (hv : VQ W u z.vs) : VtR W (.slice (some ⟨g, 0, none⟩) 1 1) [(z, u)] :=
  ⟨SR.ofBlk (R := [(z, u)]) vxC_len hB (by unfold maxLen; simp), fun x hx => by rw [List.mem_singleton] at hx; subst hx; exact hv⟩
theorem vtR_two {W : World} {z y : Vt} {u s : Value} {g : Nat} {t : TypeId} (hB : Blk W g #[.int .i32 (z.p 0), .int .i32 (z.p 1), .int .i32 (z.p 2), .int .i32 (z.p 3), .int .i32 z.s, u, .int .i32 (y.p 0), .int .i32 (y.p 1), .int .i32 (y.p 2), .int .i32 (y.p 3), .int .i32 y.s, s] t) (hv : VQ W u z.vs) (hs : VQ W s y.vs) : VtR W (.slice (some ⟨g, 0, none⟩) 2 2) [(z, u), (y, s)] :=
  ⟨SR.ofBlk (R := [(z, u), (y, s)]) vxC_len hB (by unfold maxLen; simp), fun x hx => by
    simp only [List.mem_cons, List.not_mem_nil, or_false] at hx
    rcases hx with rfl | rfl
    · exact hv
    · exact hs⟩
theorem lie_one (x : Vt) (ap : Option Addr) (cp m : Nat) (n : Int) (g : Nat) (w : World) (hB : Blk w g #[.int .i32 (Vt.p x 0), .int .i32 (Vt.p x 1), .int .i32 (Vt.p x 2), .int .i32 (Vt.p x 3), .int .i32 (Vt.s x), .slice ap m cp] 29) (hm : x.vs.length = m) (hI : ∀ i, I32 (x.p i)) :
    Calls Try.prog 32 #[.int .i64 n, .slice (some ⟨g, 0, none⟩) 1 1] w fun e w' => e = .returned (.bool (clI x.p n)) ∧ Ext w w' := by
  have hS : SR vxC 6 w (.slice (some ⟨g, 0, none⟩) 1 1) [(x, .slice ap m cp)] := SR.ofBlk (R := [(x, .slice ap m cp)]) vxC_len hB (by unfold maxLen; simp)
  refine (lie_any n _ _ w hS (fun y hy => ?_) (fun y hy => ?_) (by simp)).mono ?_
  · rw [List.mem_singleton] at hy
    subst hy
    exact ⟨ap, cp, by rw [hm]⟩
  · rw [List.mem_singleton] at hy
    subst hy
    exact hI
  · rintro e w' ⟨rfl, hx⟩
    exact ⟨by simp [allX], hx⟩
/-- A corner, its Vars the slice u. -/
theorem off_new {w : World} {base : Nat} {rv u : Value} {vs : List (Nat → Int)} {R : List Vx} (h : VtO w base rv R) (hu : ∀ b, u.ownBlock = some b → w.heap.size ≤ b) : Off u vs rv.ownBlock := by
  intro _ b hb e
  have h1 := (GO.lt h.own b hb).2
  have h2 := hu b e
  omega

set_option maxRecDepth 10000 in
set_option maxHeartbeats 8000000 in
theorem cutRow_any (v : Value) (R : List Vx) (n : Int) (m : Nat) (w : World) (hr : VtR w v R) (hm : ∀ x ∈ R, x.1.vs.length = m) (hm4 : m ≤ 4) (h32 : ∀ x ∈ R, Vt32 x.1) (hl : R.length ≤ 1000) :
    Calls Try.prog 31 #[v, .int .i64 n] w (CrQ w (clC (R.map Prod.fst) n)) := by
  obtain ⟨ao, cap, rfl, h1, h2, h3, _⟩ := id hr.row
  have HR := hide hr
  have HQ := hide hm
  have HI := hide h32
  have HL := hide (show (R.map Prod.fst).length = R.length by simp)
  clear h1 h2 h3 hr hm h32
  unfold clC
  rw [unhide HL]
  obtain ⟨Lp, hLp⟩ : ∃ Lp, R.map Prod.fst = Lp := ⟨_, rfl⟩
  have HP := hide hLp
  rw [hLp] at HL ⊢
  clear hLp
  go_enter Try.func31, Try.ntmps31
  go_wp2_with fail
  go_loopw [5, 6, 7] (fun rv iv jv wr => ∃ (k : Nat) (R' : List Vx) (ro : Option Addr) (rc : Nat), k ≤ R.length ∧ iv = .int .i64 (prvI R.length k) ∧ jv = .int .i64 (k : Int) ∧ rv = .slice ro R'.length rc ∧ R'.map Prod.fst = clR Lp n k ∧ VtO wr w.heap.size (.slice ro R'.length rc) R' ∧ Ext w wr) (fun _ _ jv _ => R.length - (intOf jv).toNat)
  case atStart =>
    refine ⟨0, [], none, 0, Nat.zero_le _, ?_, rfl, rfl, rfl, VtO.nil _ _, Ext.refl _⟩
    simp [prvI, IntKind.wrap, IntKind.bits, IntKind.signed]
    try omega
  case round =>
    obtain ⟨k, R', ro, rc, hk, rfl, rfl, rfl, hR', hO, hX⟩ := hrel
    have D := hide (And.intro hR' (And.intro hO hX))
    clear hR' hO hX
    by_cases hlt : k < R.length
    · have hkn : (k : Int) < (R.length : Int) := by omega
      obtain ⟨p, hp, hpl, hpe⟩ := prvI_at hlt
      rw [hp]
      have hpn : (p : Int) < (R.length : Int) := by omega
      have h0 : 0 < R.length := by omega
      obtain ⟨b, off, rfl, hc⟩ := vt_all (unhide HR).row h0
      have hcp := hc p hpl
      have hcq := hc k hlt
      have HPL := hide (show clP Lp k = R[p].1 by unfold clP; rw [unhide HL, hpe, ← unhide HP]; exact getD_fst hpl)
      have HQL := hide (show Lp.getD k zVt = R[k].1 by rw [← unhide HP]; exact getD_fst hlt)
      have HMP := hide (And.intro (unhide HQ _ (List.getElem_mem hpl)) (unhide HI _ (List.getElem_mem hpl)))
      have HMQ := hide (And.intro (unhide HQ _ (List.getElem_mem hlt)) (unhide HI _ (List.getElem_mem hlt)))
      have HVP := hide (fun wx (hx : Ext w wx) => SR.ext ((unhide HR).vars _ (List.getElem_mem hpl)) hx)
      have HVQ := hide (fun wx (hx : Ext w wx) => SR.ext ((unhide HR).vars _ (List.getElem_mem hlt)) hx)
      obtain ⟨ap, cp, ep, _⟩ := id ((unhide HR).vars _ (List.getElem_mem hpl))
      obtain ⟨aq, cq, eq, _⟩ := id ((unhide HR).vars _ (List.getElem_mem hlt))
      clear hc
      generalize R[p] = x at *
      generalize R[k] = y at *
      obtain ⟨x, ux⟩ := x
      obtain ⟨y, uy⟩ := y
      simp only at ep eq hcp hcq HPL HQL HMP HMQ HVP HVQ
      obtain rfl : ux = .slice ap x.vs.length cp := ep
      obtain rfl : uy = .slice aq y.vs.length cq := eq
      have e1 := (unhide HMP).1
      have e2 := (unhide HMQ).1
      rw [e1] at hcp HVP
      rw [e2] at hcq HVQ
      have kx0 : ∀ wx, Ext wr wx → wx.cell? ⟨b, off + p * 6, none⟩ = some (.int .i32 (Vt.p x 0)) := fun wx hx => (hcp wx ((unhide D).2.2.trans hx)).1
      have kx1 : ∀ wx, Ext wr wx → wx.cell? ⟨b, off + p * 6 + 1, none⟩ = some (.int .i32 (Vt.p x 1)) := fun wx hx => (hcp wx ((unhide D).2.2.trans hx)).2.1
      have kx2 : ∀ wx, Ext wr wx → wx.cell? ⟨b, off + p * 6 + 2, none⟩ = some (.int .i32 (Vt.p x 2)) := fun wx hx => (hcp wx ((unhide D).2.2.trans hx)).2.2.1
      have kx3 : ∀ wx, Ext wr wx → wx.cell? ⟨b, off + p * 6 + 3, none⟩ = some (.int .i32 (Vt.p x 3)) := fun wx hx => (hcp wx ((unhide D).2.2.trans hx)).2.2.2.1
      have kx4 : ∀ wx, Ext wr wx → wx.cell? ⟨b, off + p * 6 + 4, none⟩ = some (.int .i32 (Vt.s x)) := fun wx hx => (hcp wx ((unhide D).2.2.trans hx)).2.2.2.2.1
      have kx5 : ∀ wx, Ext wr wx → wx.cell? ⟨b, off + p * 6 + 5, none⟩ = some (.slice ap m cp) := fun wx hx => (hcp wx ((unhide D).2.2.trans hx)).2.2.2.2.2
      have ky0 : ∀ wx, Ext wr wx → wx.cell? ⟨b, off + k * 6, none⟩ = some (.int .i32 (Vt.p y 0)) := fun wx hx => (hcq wx ((unhide D).2.2.trans hx)).1
      have ky1 : ∀ wx, Ext wr wx → wx.cell? ⟨b, off + k * 6 + 1, none⟩ = some (.int .i32 (Vt.p y 1)) := fun wx hx => (hcq wx ((unhide D).2.2.trans hx)).2.1
      have ky2 : ∀ wx, Ext wr wx → wx.cell? ⟨b, off + k * 6 + 2, none⟩ = some (.int .i32 (Vt.p y 2)) := fun wx hx => (hcq wx ((unhide D).2.2.trans hx)).2.2.1
      have ky3 : ∀ wx, Ext wr wx → wx.cell? ⟨b, off + k * 6 + 3, none⟩ = some (.int .i32 (Vt.p y 3)) := fun wx hx => (hcq wx ((unhide D).2.2.trans hx)).2.2.2.1
      have ky4 : ∀ wx, Ext wr wx → wx.cell? ⟨b, off + k * 6 + 4, none⟩ = some (.int .i32 (Vt.s y)) := fun wx hx => (hcq wx ((unhide D).2.2.trans hx)).2.2.2.2.1
      have ky5 : ∀ wx, Ext wr wx → wx.cell? ⟨b, off + k * 6 + 5, none⟩ = some (.slice aq m cq) := fun wx hx => (hcq wx ((unhide D).2.2.trans hx)).2.2.2.2.2
      have D0 := hide (Ext.refl wr)
      clear hcp hcq e1 e2
      go_upto_region 5 with fail
      go_cut [8, 9] (fun u1 u2 wc => ∃ b1 b2, u1 = .pointer (some ⟨b1, 0, none⟩) ∧ u2 = .pointer (some ⟨b2, 0, none⟩) ∧ Blk wc b1 #[.int .i32 (Vt.p x 0), .int .i32 (Vt.p x 1), .int .i32 (Vt.p x 2), .int .i32 (Vt.p x 3), .int .i32 (Vt.s x), .slice ap m cp] 29 ∧ Blk wc b2 #[.int .i32 (Vt.p y 0), .int .i32 (Vt.p y 1), .int .i32 (Vt.p y 2), .int .i32 (Vt.p y 3), .int .i32 (Vt.s y), .slice aq m cq] 29 ∧ Ext wr wc ∧ wr.heap.size ≤ b1 ∧ wr.heap.size ≤ b2)
      case first =>
        go_region_held3 (fun wx => Ext wr wx)
          (first | with_reducible assumption | with_reducible exact (unhide D0).drew | with_reducible exact ((unhide D0).alloc _).drew | with_reducible exact (((unhide D0).alloc _).alloc _).drew)
          (fail)
        all_goals go_wp2
        all_goals go_meet
        · exact ⟨_, _, rfl, rfl, blkB _ _ _ _ _, blkC _ _ _ _ _, extB _ _ _, Nat.le_refl _, Nat.le_add_right _ _⟩
        · exact ⟨_, _, rfl, rfl, blkC _ _ _ _ _, blkB _ _ _ _ _, extB _ _ _, Nat.le_add_right _ _, Nat.le_refl _⟩
      case rest =>
      obtain ⟨b1, b2, rfl, rfl, hB1, hB2, hXc, hg1, hg2⟩ := hcut
      rename_i wc
      clear kx0 kx1 kx2 kx3 kx4 kx5 ky0 ky1 ky2 ky3 ky4 ky5 D0
      have HB := hide (And.intro hB1 (And.intro hB2 (And.intro hXc (And.intro hg1 hg2))))
      have kx := fun wx (hx : Ext wc wx) => (hB1.ext hx).six
      have ky := fun wx (hx : Ext wc wx) => (hB2.ext hx).six
      have HKK := hide (fun wx hx => And.intro (kx wx hx) (ky wx hx))
      have kx0 : ∀ wx, Ext wc wx → wx.cell? ⟨b1, 0, none⟩ = some (.int .i32 (Vt.p x 0)) := fun wx hx => (unhide HKK wx hx).1.1
      have kx1 : ∀ wx, Ext wc wx → wx.cell? ⟨b1, 1, none⟩ = some (.int .i32 (Vt.p x 1)) := fun wx hx => (unhide HKK wx hx).1.2.1
      have kx2 : ∀ wx, Ext wc wx → wx.cell? ⟨b1, 2, none⟩ = some (.int .i32 (Vt.p x 2)) := fun wx hx => (unhide HKK wx hx).1.2.2.1
      have kx3 : ∀ wx, Ext wc wx → wx.cell? ⟨b1, 3, none⟩ = some (.int .i32 (Vt.p x 3)) := fun wx hx => (unhide HKK wx hx).1.2.2.2.1
      have kx4 : ∀ wx, Ext wc wx → wx.cell? ⟨b1, 4, none⟩ = some (.int .i32 (Vt.s x)) := fun wx hx => (unhide HKK wx hx).1.2.2.2.2.1
      have kx5 : ∀ wx, Ext wc wx → wx.cell? ⟨b1, 5, none⟩ = some (.slice ap m cp) := fun wx hx => (unhide HKK wx hx).1.2.2.2.2.2
      have ky0 : ∀ wx, Ext wc wx → wx.cell? ⟨b2, 0, none⟩ = some (.int .i32 (Vt.p y 0)) := fun wx hx => (unhide HKK wx hx).2.1
      have ky1 : ∀ wx, Ext wc wx → wx.cell? ⟨b2, 1, none⟩ = some (.int .i32 (Vt.p y 1)) := fun wx hx => (unhide HKK wx hx).2.2.1
      have ky2 : ∀ wx, Ext wc wx → wx.cell? ⟨b2, 2, none⟩ = some (.int .i32 (Vt.p y 2)) := fun wx hx => (unhide HKK wx hx).2.2.2.1
      have ky3 : ∀ wx, Ext wc wx → wx.cell? ⟨b2, 3, none⟩ = some (.int .i32 (Vt.p y 3)) := fun wx hx => (unhide HKK wx hx).2.2.2.2.1
      have ky4 : ∀ wx, Ext wc wx → wx.cell? ⟨b2, 4, none⟩ = some (.int .i32 (Vt.s y)) := fun wx hx => (unhide HKK wx hx).2.2.2.2.2.1
      have ky5 : ∀ wx, Ext wc wx → wx.cell? ⟨b2, 5, none⟩ = some (.slice aq m cq) := fun wx hx => (unhide HKK wx hx).2.2.2.2.2.2
      clear kx ky hB1 hB2 hXc hg1 hg2
      have hmx := (unhide HMP).1
      have hmy := (unhide HMQ).1
      have HIX := hide (And.intro hmx (unhide HMP).2)
      have HIY := hide (And.intro hmy (unhide HMQ).2)
      have D1 := hide (Ext.refl wc)
      clear hmx hmy
      go_upto_region 6 with fail
      go_cut [10, 11] (fun u1 u2 wz => ∃ wd, wd = wz ∧ u1 = .bool (clI x.p n) ∧ u2 = .bool (clI y.p n) ∧ Ext wc wd)
      case first =>
        go_region_held3 (fun wx => Ext wc wx)
          (first | with_reducible assumption | with_reducible exact unhide X6 | with_reducible exact unhide X5 | with_reducible exact (unhide X5).alloc _ | with_reducible exact (unhide D1).drew | with_reducible exact extA _ _ | with_reducible exact extB _ _ _)
          (first
            | (go_at_call 32; refine (lie_one x ap cp m n _ _ (by first | with_reducible exact blkA _ _ _ | with_reducible exact blkB _ _ _ _ _ | with_reducible exact blkC _ _ _ _ _) (unhide HIX).1 (unhide HIX).2.1).mono ?_; rintro e w5 ⟨rfl, hx5⟩; have X5 := hide ((by assumption : Ext wc _).trans hx5); (try have F5 := hide (show Blk w5 (wc.heap.size + 1) #[.int .i32 (Vt.p y 0), .int .i32 (Vt.p y 1), .int .i32 (Vt.p y 2), .int .i32 (Vt.p y 3), .int .i32 (Vt.s y), .slice aq m cq] 29 by with_reducible exact Blk.ext (blkC _ _ _ _ _) hx5)); (try have F5 := hide (show Blk w5 wc.heap.size #[.int .i32 (Vt.p y 0), .int .i32 (Vt.p y 1), .int .i32 (Vt.p y 2), .int .i32 (Vt.p y 3), .int .i32 (Vt.s y), .slice aq m cq] 29 by with_reducible exact Blk.ext (blkB _ _ _ _ _) hx5)); clear hx5)
            | (go_at_call 32; refine (lie_one y aq cq m n _ _ (by first | with_reducible exact Blk.new _ _ _ | with_reducible exact unhide F5) (unhide HIY).1 (unhide HIY).2.1).mono ?_; rintro e w6 ⟨rfl, hx6⟩; have X6 := hide ((by assumption : Ext wc _).trans hx6); clear hx6))
        all_goals go_wp2
        all_goals go_meet
        all_goals exact ⟨_, rfl, rfl, rfl, unhide X6⟩
      case rest =>
      obtain ⟨wd, rfl, rfl, rfl, hXd⟩ := hcut
      clear kx0 kx1 kx2 kx3 kx4 kx5 ky0 ky1 ky2 ky3 ky4 ky5 D1
      have XD := hide (show Ext wr wd from (unhide HB).2.2.1.trans hXd)
      have HBD := hide (And.intro ((unhide HB).1.ext hXd) ((unhide HB).2.1.ext hXd))
      obtain ⟨x0, x1, x2, x3, x4, x5⟩ := (unhide HBD).1.six
      obtain ⟨y0, y1, y2, y3, y4, y5⟩ := (unhide HBD).2.six
      have HSS := hide (show clR Lp n (k + 1) = clR Lp n k ++ clS n x y by rw [clR_succ, unhide HPL, unhide HQL])
      have HRL := hide (show R'.length ≤ 4000 by
        have h1 := congrArg List.length (unhide D).1
        have h2 := clR_len Lp n k
        have h3 : phi n (clP Lp 0) ≤ 1 := by unfold phi; split <;> omega
        rw [List.length_map] at h1
        omega)
      have HVP2 := hide (fun wx (hx : Ext wd wx) => unhide HVP wx (((unhide D).2.2.trans (unhide XD)).trans hx))
      have HVQ2 := hide (fun wx (hx : Ext wd wx) => unhide HVQ wx (((unhide D).2.2.trans (unhide XD)).trans hx))
      clear hXd HVP HVQ
      cases hx : clI x.p n with
      | true =>
        cases hy : clI y.p n with
        | true =>
          have HS := hide (show clR Lp n (k + 1) = clR Lp n k ++ [y] by rw [unhide HSS]; unfold clS; rw [if_pos hx, if_pos hy])
          have HCP := hide (fun wx hx => copied_any y (.slice aq m cq) wx (unhide HVQ2 wx hx) (by rw [(unhide HIY).1]; omega))
          clear hx hy HSS
          go_wp2_with (first
            | (go_at_call 46; refine (unhide HCP _ (Ext.refl _)).mono ?_; rintro e w7 ⟨u7, rfl, hv7, hb7, ⟨ao7, cap7, rfl⟩, hx7⟩; obtain ⟨ro9, rc9, N, w9, hN, hrun, hO9, hX9, _⟩ := push_vt (W1 := w7.alloc (.cells #[.int .i32 (Vt.p y 0), .int .i32 (Vt.p y 1), .int .i32 (Vt.p y 2), .int .i32 (Vt.p y 3), .int .i32 (Vt.s y), .slice ao7 (Vt.vs y).length cap7] 29)) (unhide D).2.1 (unhide D).2.2 (((unhide XD).trans hx7).alloc _) (vtR_one (z := y) (Blk.new _ _ _) (SR.ext hv7 ((Ext.refl w7).alloc _))) (by simp) (by have := unhide HRL; simp; omega) (fun a ha => by rw [List.mem_singleton] at ha; subst ha; exact off_new (unhide D).2.1 (fun b hb => Nat.le_trans (unhide XD).size (hb7 b hb))); have H9 := hide (And.intro hO9 hX9); have HRUN := hide hrun; have HN := hide hN; clear hN hrun hO9 hX9 hv7 hb7 hx7)
            | (at_builtin; refine wpList_runA rfl (.tmp 68) (.tmp 71) 39 rfl rfl rfl (unhide HRUN) ?_))
          go_roundw
          case rel => exact ⟨k + 1, N, ro9, rc9, by omega, by simp [prvI], by push_cast; rfl, rfl, by rw [unhide HN, List.map_append, (unhide D).1, unhide HS]; rfl, (unhide H9).1, (unhide H9).2⟩
          case measure => simp [intOf]; omega
        | false =>
          obtain ⟨z, hz⟩ : ∃ z, clB x y n = z := ⟨_, rfl⟩
          have HS := hide (show clR Lp n (k + 1) = clR Lp n k ++ [z] by rw [unhide HSS]; unfold clS; rw [if_pos hx, if_neg (by rw [hy]; decide), hz])
          have HBT := hide (fun wx hx => betC_any x y (.slice ap m cp) (.slice aq m cq) n wx (unhide HVP2 wx hx) (unhide HVQ2 wx hx) (by rw [(unhide HIX).1, (unhide HIY).1]) (by rw [(unhide HIX).1]; omega) (unhide HIX).2 (unhide HIY).2)
          rw [hz] at HBT
          clear hx hy HSS hz
          go_wp2_with (first
            | (go_at_call 45; refine (unhide HBT _ (Ext.refl _)).mono ?_; rintro e w7 ⟨u7, rfl, hv7, hb7, ⟨ao7, cap7, rfl⟩, hx7⟩; obtain ⟨ro9, rc9, N, w9, hN, hrun, hO9, hX9, _⟩ := push_vt (W1 := w7.alloc (.cells #[.int .i32 (Vt.p z 0), .int .i32 (Vt.p z 1), .int .i32 (Vt.p z 2), .int .i32 (Vt.p z 3), .int .i32 (Vt.s z), .slice ao7 (Vt.vs z).length cap7] 29)) (unhide D).2.1 (unhide D).2.2 (((unhide XD).trans hx7).alloc _) (vtR_one (z := z) (Blk.new _ _ _) (SR.ext hv7 ((Ext.refl w7).alloc _))) (by simp) (by have := unhide HRL; simp; omega) (fun a ha => by rw [List.mem_singleton] at ha; subst ha; exact off_new (unhide D).2.1 (fun b hb => Nat.le_trans (unhide XD).size (hb7 b hb))); have H9 := hide (And.intro hO9 hX9); have HRUN := hide hrun; have HN := hide hN; clear hN hrun hO9 hX9 hv7 hb7 hx7)
            | (at_builtin; refine wpList_runA rfl (.tmp 44) (.tmp 49) 39 rfl rfl rfl (unhide HRUN) ?_))
          go_roundw
          case rel => exact ⟨k + 1, N, ro9, rc9, by omega, by simp [prvI], by push_cast; rfl, rfl, by rw [unhide HN, List.map_append, (unhide D).1, unhide HS]; rfl, (unhide H9).1, (unhide H9).2⟩
          case measure => simp [intOf]; omega
      | false =>
        cases hy : clI y.p n with
        | true =>
          obtain ⟨z, hz⟩ : ∃ z, clB y x n = z := ⟨_, rfl⟩
          have HS := hide (show clR Lp n (k + 1) = clR Lp n k ++ [z, y] by rw [unhide HSS]; unfold clS; rw [if_neg (by rw [hx]; decide), if_pos hy, hz])
          have HBT := hide (fun wx hx => betC_any y x (.slice aq m cq) (.slice ap m cp) n wx (unhide HVQ2 wx hx) (unhide HVP2 wx hx) (by rw [(unhide HIX).1, (unhide HIY).1]) (by rw [(unhide HIY).1]; omega) (unhide HIY).2 (unhide HIX).2)
          have HCP := hide (fun wx hx => copied_any y (.slice aq m cq) wx (unhide HVQ2 wx hx) (by rw [(unhide HIY).1]; omega))
          rw [hz] at HBT
          clear hx hy HSS hz
          clear x0 x1 x2 x3 x4 x5 y0 y1 y2 y3 y4 y5
          have kx0 : ∀ wx, Blk wx b1 #[.int .i32 (Vt.p x 0), .int .i32 (Vt.p x 1), .int .i32 (Vt.p x 2), .int .i32 (Vt.p x 3), .int .i32 (Vt.s x), .slice ap m cp] 29 ∧ Blk wx b2 #[.int .i32 (Vt.p y 0), .int .i32 (Vt.p y 1), .int .i32 (Vt.p y 2), .int .i32 (Vt.p y 3), .int .i32 (Vt.s y), .slice aq m cq] 29 → wx.cell? ⟨b1, 0, none⟩ = some (.int .i32 (Vt.p x 0)) := fun wx hx => hx.1.six.1
          have kx1 : ∀ wx, Blk wx b1 #[.int .i32 (Vt.p x 0), .int .i32 (Vt.p x 1), .int .i32 (Vt.p x 2), .int .i32 (Vt.p x 3), .int .i32 (Vt.s x), .slice ap m cp] 29 ∧ Blk wx b2 #[.int .i32 (Vt.p y 0), .int .i32 (Vt.p y 1), .int .i32 (Vt.p y 2), .int .i32 (Vt.p y 3), .int .i32 (Vt.s y), .slice aq m cq] 29 → wx.cell? ⟨b1, 1, none⟩ = some (.int .i32 (Vt.p x 1)) := fun wx hx => hx.1.six.2.1
          have kx2 : ∀ wx, Blk wx b1 #[.int .i32 (Vt.p x 0), .int .i32 (Vt.p x 1), .int .i32 (Vt.p x 2), .int .i32 (Vt.p x 3), .int .i32 (Vt.s x), .slice ap m cp] 29 ∧ Blk wx b2 #[.int .i32 (Vt.p y 0), .int .i32 (Vt.p y 1), .int .i32 (Vt.p y 2), .int .i32 (Vt.p y 3), .int .i32 (Vt.s y), .slice aq m cq] 29 → wx.cell? ⟨b1, 2, none⟩ = some (.int .i32 (Vt.p x 2)) := fun wx hx => hx.1.six.2.2.1
          have kx3 : ∀ wx, Blk wx b1 #[.int .i32 (Vt.p x 0), .int .i32 (Vt.p x 1), .int .i32 (Vt.p x 2), .int .i32 (Vt.p x 3), .int .i32 (Vt.s x), .slice ap m cp] 29 ∧ Blk wx b2 #[.int .i32 (Vt.p y 0), .int .i32 (Vt.p y 1), .int .i32 (Vt.p y 2), .int .i32 (Vt.p y 3), .int .i32 (Vt.s y), .slice aq m cq] 29 → wx.cell? ⟨b1, 3, none⟩ = some (.int .i32 (Vt.p x 3)) := fun wx hx => hx.1.six.2.2.2.1
          have kx4 : ∀ wx, Blk wx b1 #[.int .i32 (Vt.p x 0), .int .i32 (Vt.p x 1), .int .i32 (Vt.p x 2), .int .i32 (Vt.p x 3), .int .i32 (Vt.s x), .slice ap m cp] 29 ∧ Blk wx b2 #[.int .i32 (Vt.p y 0), .int .i32 (Vt.p y 1), .int .i32 (Vt.p y 2), .int .i32 (Vt.p y 3), .int .i32 (Vt.s y), .slice aq m cq] 29 → wx.cell? ⟨b1, 4, none⟩ = some (.int .i32 (Vt.s x)) := fun wx hx => hx.1.six.2.2.2.2.1
          have kx5 : ∀ wx, Blk wx b1 #[.int .i32 (Vt.p x 0), .int .i32 (Vt.p x 1), .int .i32 (Vt.p x 2), .int .i32 (Vt.p x 3), .int .i32 (Vt.s x), .slice ap m cp] 29 ∧ Blk wx b2 #[.int .i32 (Vt.p y 0), .int .i32 (Vt.p y 1), .int .i32 (Vt.p y 2), .int .i32 (Vt.p y 3), .int .i32 (Vt.s y), .slice aq m cq] 29 → wx.cell? ⟨b1, 5, none⟩ = some (.slice ap m cp) := fun wx hx => hx.1.six.2.2.2.2.2
          have ky0 : ∀ wx, Blk wx b1 #[.int .i32 (Vt.p x 0), .int .i32 (Vt.p x 1), .int .i32 (Vt.p x 2), .int .i32 (Vt.p x 3), .int .i32 (Vt.s x), .slice ap m cp] 29 ∧ Blk wx b2 #[.int .i32 (Vt.p y 0), .int .i32 (Vt.p y 1), .int .i32 (Vt.p y 2), .int .i32 (Vt.p y 3), .int .i32 (Vt.s y), .slice aq m cq] 29 → wx.cell? ⟨b2, 0, none⟩ = some (.int .i32 (Vt.p y 0)) := fun wx hx => hx.2.six.1
          have ky1 : ∀ wx, Blk wx b1 #[.int .i32 (Vt.p x 0), .int .i32 (Vt.p x 1), .int .i32 (Vt.p x 2), .int .i32 (Vt.p x 3), .int .i32 (Vt.s x), .slice ap m cp] 29 ∧ Blk wx b2 #[.int .i32 (Vt.p y 0), .int .i32 (Vt.p y 1), .int .i32 (Vt.p y 2), .int .i32 (Vt.p y 3), .int .i32 (Vt.s y), .slice aq m cq] 29 → wx.cell? ⟨b2, 1, none⟩ = some (.int .i32 (Vt.p y 1)) := fun wx hx => hx.2.six.2.1
          have ky2 : ∀ wx, Blk wx b1 #[.int .i32 (Vt.p x 0), .int .i32 (Vt.p x 1), .int .i32 (Vt.p x 2), .int .i32 (Vt.p x 3), .int .i32 (Vt.s x), .slice ap m cp] 29 ∧ Blk wx b2 #[.int .i32 (Vt.p y 0), .int .i32 (Vt.p y 1), .int .i32 (Vt.p y 2), .int .i32 (Vt.p y 3), .int .i32 (Vt.s y), .slice aq m cq] 29 → wx.cell? ⟨b2, 2, none⟩ = some (.int .i32 (Vt.p y 2)) := fun wx hx => hx.2.six.2.2.1
          have ky3 : ∀ wx, Blk wx b1 #[.int .i32 (Vt.p x 0), .int .i32 (Vt.p x 1), .int .i32 (Vt.p x 2), .int .i32 (Vt.p x 3), .int .i32 (Vt.s x), .slice ap m cp] 29 ∧ Blk wx b2 #[.int .i32 (Vt.p y 0), .int .i32 (Vt.p y 1), .int .i32 (Vt.p y 2), .int .i32 (Vt.p y 3), .int .i32 (Vt.s y), .slice aq m cq] 29 → wx.cell? ⟨b2, 3, none⟩ = some (.int .i32 (Vt.p y 3)) := fun wx hx => hx.2.six.2.2.2.1
          have ky4 : ∀ wx, Blk wx b1 #[.int .i32 (Vt.p x 0), .int .i32 (Vt.p x 1), .int .i32 (Vt.p x 2), .int .i32 (Vt.p x 3), .int .i32 (Vt.s x), .slice ap m cp] 29 ∧ Blk wx b2 #[.int .i32 (Vt.p y 0), .int .i32 (Vt.p y 1), .int .i32 (Vt.p y 2), .int .i32 (Vt.p y 3), .int .i32 (Vt.s y), .slice aq m cq] 29 → wx.cell? ⟨b2, 4, none⟩ = some (.int .i32 (Vt.s y)) := fun wx hx => hx.2.six.2.2.2.2.1
          have ky5 : ∀ wx, Blk wx b1 #[.int .i32 (Vt.p x 0), .int .i32 (Vt.p x 1), .int .i32 (Vt.p x 2), .int .i32 (Vt.p x 3), .int .i32 (Vt.s x), .slice ap m cp] 29 ∧ Blk wx b2 #[.int .i32 (Vt.p y 0), .int .i32 (Vt.p y 1), .int .i32 (Vt.p y 2), .int .i32 (Vt.p y 3), .int .i32 (Vt.s y), .slice aq m cq] 29 → wx.cell? ⟨b2, 5, none⟩ = some (.slice aq m cq) := fun wx hx => hx.2.six.2.2.2.2.2
          have B0 := hide (And.intro ((unhide HBD).1.ext ((Ext.refl wd).drew)) ((unhide HBD).2.ext ((Ext.refl wd).drew)))
          go_upto_region 10 with fail
          go_region_held3 (fun wx => Blk wx b1 #[.int .i32 (Vt.p x 0), .int .i32 (Vt.p x 1), .int .i32 (Vt.p x 2), .int .i32 (Vt.p x 3), .int .i32 (Vt.s x), .slice ap m cp] 29 ∧ Blk wx b2 #[.int .i32 (Vt.p y 0), .int .i32 (Vt.p y 1), .int .i32 (Vt.p y 2), .int .i32 (Vt.p y 3), .int .i32 (Vt.s y), .slice aq m cq] 29)
            (first | with_reducible exact unhide B0 | with_reducible exact unhide B7 | with_reducible exact unhide B8 | with_reducible exact ⟨Blk.alloc (unhide B8).1 _, Blk.alloc (unhide B8).2 _⟩ | with_reducible exact unhide B9)
            (first
              | (refine step_runA (by rfl) (.tmp 57) (.tmp 64) 39 (by rfl) (by rfl) (by rfl) (unhide HRUN) ?_)
              | (go_at_call 45; refine (unhide HBT _ ((Ext.refl wd).drew)).mono ?_; rintro e w7 ⟨u7, rfl, hv7, hb7, ⟨ao7, cap7, rfl⟩, hx7⟩
                 have X7 := hide (((Ext.refl wd).drew).trans hx7)
                 have B7 := hide (And.intro ((unhide HBD).1.ext (unhide X7)) ((unhide HBD).2.ext (unhide X7)))
                 have H7 := hide (And.intro hv7 hb7)
                 clear hv7 hb7 hx7)
              | (go_at_call 46; refine (unhide HCP _ (unhide X7)).mono ?_; rintro e w8 ⟨u8, rfl, hv8, hb8, ⟨ao8, cap8, rfl⟩, hx8⟩
                 rw [(unhide HIY).1] at *
                 have X8 := hide ((unhide X7).trans hx8)
                 have B8 := hide (And.intro ((unhide HBD).1.ext (unhide X8)) ((unhide HBD).2.ext (unhide X8)))
                 have hd7 : wd.drew.heap.size = wd.heap.size := rfl
                 obtain ⟨ro9, rc9, N, w9, hN, hrun, hO9, hX9, hgr⟩ := push_vt (W1 := w8.alloc (.cells #[.int .i32 (z.p 0), .int .i32 (z.p 1), .int .i32 (z.p 2), .int .i32 (z.p 3), .int .i32 z.s, .slice ao7 z.vs.length cap7, .int .i32 (y.p 0), .int .i32 (y.p 1), .int .i32 (y.p 2), .int .i32 (y.p 3), .int .i32 y.s, .slice ao8 m cap8] 29)) (unhide D).2.1 (unhide D).2.2 (((unhide XD).trans (unhide X8)).alloc _) (vtR_two (z := z) (y := y) (Blk.new _ _ _) (SR.ext (unhide H7).1 (hx8.alloc _)) (SR.ext hv8 ((Ext.refl w8).alloc _))) (by simp) (by have := unhide HRL; simp; omega) (fun a ha => by
                   simp only [List.mem_cons, List.not_mem_nil, or_false] at ha
                   rcases ha with rfl | rfl
                   · exact off_new (unhide D).2.1 (fun b hb => Nat.le_trans (unhide XD).size (Nat.le_trans (Nat.le_of_eq hd7.symm) ((unhide H7).2 b hb)))
                   · exact off_new (unhide D).2.1 (fun b hb => Nat.le_trans (Nat.le_trans (unhide XD).size (unhide X7).size) (hb8 b hb)))
                 have hrb : ∀ b, (Value.slice ro R'.length rc).ownBlock = some b → b < wr.heap.size := fun b hb => (GO.lt (unhide D).2.1.own b hb).2
                 have g1 := (unhide HB).2.2.2.1
                 have g2 := (unhide HB).2.2.2.2
                 have B9 := hide (show Blk w9 b1 #[.int .i32 (Vt.p x 0), .int .i32 (Vt.p x 1), .int .i32 (Vt.p x 2), .int .i32 (Vt.p x 3), .int .i32 (Vt.s x), .slice ap m cp] 29 ∧ Blk w9 b2 #[.int .i32 (Vt.p y 0), .int .i32 (Vt.p y 1), .int .i32 (Vt.p y 2), .int .i32 (Vt.p y 3), .int .i32 (Vt.s y), .slice aq m cq] 29 from ⟨(hgr.block b1 ((unhide B8).1.alloc _).lt (fun e => by have := hrb b1 e.symm; omega)).trans ((unhide B8).1.alloc _), (hgr.block b2 ((unhide B8).2.alloc _).lt (fun e => by have := hrb b2 e.symm; omega)).trans ((unhide B8).2.alloc _)⟩)
                 have H9 := hide (And.intro hO9 hX9)
                 have HRUN := hide hrun
                 have HN := hide hN
                 clear hN hrun hO9 hX9 hgr hv8 hb8 hx8 hrb g1 g2 hd7))
          go_wp2
          go_roundw
          case rel => exact ⟨k + 1, N, ro9, rc9, by omega, by simp [prvI], by push_cast; rfl, rfl, by rw [unhide HN, List.map_append, (unhide D).1, unhide HS]; rfl, (unhide H9).1, (unhide H9).2⟩
          case measure => simp [intOf]; omega
        | false =>
          have HS := hide (show clR Lp n (k + 1) = clR Lp n k by rw [unhide HSS]; unfold clS; rw [if_neg (by rw [hx]; decide), if_neg (by rw [hy]; decide)]; simp)
          clear hx hy HSS
          go_wp2
          go_roundw
          case rel => exact ⟨k + 1, R', ro, rc, by omega, by simp [prvI], by push_cast; rfl, rfl, by rw [(unhide D).1, unhide HS], (unhide D).2.1.ext (unhide XD), (unhide D).2.2.trans (unhide XD)⟩
          case measure => simp [intOf]; omega
    · obtain rfl : k = R.length := by omega
      go_wp2
      go_ret
      exact ⟨_, R', rfl, (unhide D).1, (unhide D).2.1, (unhide D).2.2⟩
end Go.Proofs.Ytbhdloanlagddaa
