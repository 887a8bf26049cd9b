/-
  Corners: the walk of cutWay. What the dump lacks is left out.
-/
import Derived.Test.YtbhdloanlagddaaHAg
namespace Go.Proofs.Ytbhdloanlagddaa
open Go.RowKit
set_option linter.unusedVariables false
set_option linter.unusedSimpArgs false

theorem Blk.oth6 {w : World} {b r : Nat} {cs : Array Value} {t : TypeId} {x0 x1 x2 x3 x4 x5 : Value} (h : Blk w b cs t) (hne : b ≠ r) : Blk ((((((w.setCell ⟨r, 0, none⟩ x0).setCell ⟨r, 1, none⟩ x1).setCell ⟨r, 2, none⟩ x2).setCell ⟨r, 3, none⟩ x3).setCell ⟨r, 4, none⟩ x4).setCell ⟨r, 5, none⟩ x5) b cs t :=
  (((((h.other 0 x0 hne).other 1 x1 hne).other 2 x2 hne).other 3 x3 hne).other 4 x4 hne).other 5 x5 hne
theorem Blk.put6 {w : World} {b : Nat} {c0 c1 c2 c3 c4 c5 : Value} {t : TypeId} (h : Blk w b #[c0, c1, c2, c3, c4, c5] t) (x0 x1 x2 x3 x4 x5 : Value) :
    Blk ((((((w.setCell ⟨b, 0, none⟩ x0).setCell ⟨b, 1, none⟩ x1).setCell ⟨b, 2, none⟩ x2).setCell ⟨b, 3, none⟩ x3).setCell ⟨b, 4, none⟩ x4).setCell ⟨b, 5, none⟩ x5) b #[x0, x1, x2, x3, x4, x5] t := h.lay6 x0 x1 x2 x3 x4 x5
theorem VQ.oth6 {w1 : World} {b : Nat} {u : Value} {vs : List (Nat → Int)} {x0 x1 x2 x3 x4 x5 : Value} (h : VQ w1 u vs) (hne : vs ≠ [] → ∀ c, u.ownBlock = some c → c ≠ b) : VQ ((((((w1.setCell ⟨b, 0, none⟩ x0).setCell ⟨b, 1, none⟩ x1).setCell ⟨b, 2, none⟩ x2).setCell ⟨b, 3, none⟩ x3).setCell ⟨b, 4, none⟩ x4).setCell ⟨b, 5, none⟩ x5) u vs :=
  SR.grown h (grown_set6 w1 b x0 x1 x2 x3 x4 x5) (fun hv e => hne hv b e rfl)
theorem below_lay6 {B : Nat} {w0 w1 : World} {b : Nat} {x0 x1 x2 x3 x4 x5 : Value} (h : Below B w0 w1) (h0 : B ≤ w0.heap.size) (hb : B ≤ b) : Below B w0 ((((((w1.setCell ⟨b, 0, none⟩ x0).setCell ⟨b, 1, none⟩ x1).setCell ⟨b, 2, none⟩ x2).setCell ⟨b, 3, none⟩ x3).setCell ⟨b, 4, none⟩ x4).setCell ⟨b, 5, none⟩ x5) :=
  below_grown h (grown_set6 w1 b x0 x1 x2 x3 x4 x5) (Nat.le_trans h0 h.size) hb
/-- Vars that lie below a block. -/
theorem VQ.below {w : World} {u : Value} {vs : List (Nat → Int)} (h : VQ w u vs) {b : Nat} (hb : w.heap.size ≤ b) : vs ≠ [] → ∀ c, u.ownBlock = some c → c ≠ b := fun hv c hc => by
  have := SR.lt h vEnc_len (by decide) hv c hc
  omega
/-- What cutWay answers. -/
def CwQ (w : World) (o : Option (Vt × Vt)) (e : Ending) (w' : World) : Prop :=
  ∃ x y ux uy, e = .returned (.tuple #[.agg #[.int .i32 (Vt.p x 0), .int .i32 (Vt.p x 1), .int .i32 (Vt.p x 2), .int .i32 (Vt.p x 3), .int .i32 (Vt.s x), ux], .agg #[.int .i32 (Vt.p y 0), .int .i32 (Vt.p y 1), .int .i32 (Vt.p y 2), .int .i32 (Vt.p y 3), .int .i32 (Vt.s y), uy], .bool o.isSome]) ∧ (∀ r, o = some r → r = (x, y) ∧ VQ w' ux x.vs ∧ VQ w' uy y.vs) ∧ (∃ ao n cap, ux = .slice ao n cap) ∧ (∃ ao n cap, uy = .slice ao n cap) ∧ Ext w w'

/-- Two blocks laid, one behind the other. -/
theorem two_laid {w w5 : World} {b1 b2 : Nat} {c0 c1 c2 c3 c4 c5 d0 d1 d2 d3 d4 d5 : Value} {t : TypeId} (h1 : Blk w5 b1 #[c0, c1, c2, c3, c4, c5] t) (h2 : Blk w5 b2 #[d0, d1, d2, d3, d4, d5] t) (hne : b1 ≠ b2) (hw1 : w.heap.size ≤ b1) (hw2 : w.heap.size ≤ b2) (hx : Ext w w5) (x0 x1 x2 x3 x4 x5 y0 y1 y2 y3 y4 y5 : Value) :
    Blk ((((((((((((w5.setCell ⟨b1, 0, none⟩ x0).setCell ⟨b1, 1, none⟩ x1).setCell ⟨b1, 2, none⟩ x2).setCell ⟨b1, 3, none⟩ x3).setCell ⟨b1, 4, none⟩ x4).setCell ⟨b1, 5, none⟩ x5).setCell ⟨b2, 0, none⟩ y0).setCell ⟨b2, 1, none⟩ y1).setCell ⟨b2, 2, none⟩ y2).setCell ⟨b2, 3, none⟩ y3).setCell ⟨b2, 4, none⟩ y4).setCell ⟨b2, 5, none⟩ y5) b1 #[x0, x1, x2, x3, x4, x5] t ∧ Blk ((((((((((((w5.setCell ⟨b1, 0, none⟩ x0).setCell ⟨b1, 1, none⟩ x1).setCell ⟨b1, 2, none⟩ x2).setCell ⟨b1, 3, none⟩ x3).setCell ⟨b1, 4, none⟩ x4).setCell ⟨b1, 5, none⟩ x5).setCell ⟨b2, 0, none⟩ y0).setCell ⟨b2, 1, none⟩ y1).setCell ⟨b2, 2, none⟩ y2).setCell ⟨b2, 3, none⟩ y3).setCell ⟨b2, 4, none⟩ y4).setCell ⟨b2, 5, none⟩ y5) b2 #[y0, y1, y2, y3, y4, y5] t ∧ Ext w ((((((((((((w5.setCell ⟨b1, 0, none⟩ x0).setCell ⟨b1, 1, none⟩ x1).setCell ⟨b1, 2, none⟩ x2).setCell ⟨b1, 3, none⟩ x3).setCell ⟨b1, 4, none⟩ x4).setCell ⟨b1, 5, none⟩ x5).setCell ⟨b2, 0, none⟩ y0).setCell ⟨b2, 1, none⟩ y1).setCell ⟨b2, 2, none⟩ y2).setCell ⟨b2, 3, none⟩ y3).setCell ⟨b2, 4, none⟩ y4).setCell ⟨b2, 5, none⟩ y5) ∧ ∀ u vs, VQ w5 u vs → (vs ≠ [] → ∀ c, u.ownBlock = some c → c ≠ b1 ∧ c ≠ b2) → VQ ((((((((((((w5.setCell ⟨b1, 0, none⟩ x0).setCell ⟨b1, 1, none⟩ x1).setCell ⟨b1, 2, none⟩ x2).setCell ⟨b1, 3, none⟩ x3).setCell ⟨b1, 4, none⟩ x4).setCell ⟨b1, 5, none⟩ x5).setCell ⟨b2, 0, none⟩ y0).setCell ⟨b2, 1, none⟩ y1).setCell ⟨b2, 2, none⟩ y2).setCell ⟨b2, 3, none⟩ y3).setCell ⟨b2, 4, none⟩ y4).setCell ⟨b2, 5, none⟩ y5) u vs :=
  ⟨(h1.put6 x0 x1 x2 x3 x4 x5).oth6 hne, (h2.oth6 (Ne.symm hne)).put6 y0 y1 y2 y3 y4 y5, ext_lay6 (ext_lay6 hx hw1) hw2, fun u vs hv hn => (hv.oth6 (fun h c hc => (hn h c hc).1)).oth6 (fun h c hc => (hn h c hc).2)⟩
theorem cw_some {w w' : World} {x y a b : Vt} {n : Int} {ua ub : Value} (hw : wayP x y n = some (a, b)) (ha : VQ w' ua a.vs) (hb : VQ w' ub b.vs) (hx : Ext w w') : CwQ w (wayP x y n) (.returned (.tuple #[.agg #[.int .i32 (Vt.p a 0), .int .i32 (Vt.p a 1), .int .i32 (Vt.p a 2), .int .i32 (Vt.p a 3), .int .i32 (Vt.s a), ua], .agg #[.int .i32 (Vt.p b 0), .int .i32 (Vt.p b 1), .int .i32 (Vt.p b 2), .int .i32 (Vt.p b 3), .int .i32 (Vt.s b), ub], .bool true])) w' := by
  obtain ⟨ao, ca, ea, _⟩ := id ha
  obtain ⟨bo, cb, eb, _⟩ := id hb
  rw [hw]
  exact ⟨a, b, ua, ub, rfl, fun r hr => ⟨(Option.some.inj hr).symm, ha, hb⟩, ⟨_, _, _, ea⟩, ⟨_, _, _, eb⟩, hx⟩
theorem cw_none {w w' : World} {x y : Vt} {n : Int} (hw : wayP x y n = none) (hx : Ext w w') : CwQ w (wayP x y n) (.returned (.tuple #[.agg #[.int .i32 0, .int .i32 0, .int .i32 0, .int .i32 0, .int .i32 0, .slice none 0 0], .agg #[.int .i32 0, .int .i32 0, .int .i32 0, .int .i32 0, .int .i32 0, .slice none 0 0], .bool false])) w' := by
  rw [hw]
  exact ⟨zVt, zVt, .slice none 0 0, .slice none 0 0, rfl, (fun r hr => by cases hr), ⟨_, _, _, rfl⟩, ⟨_, _, _, rfl⟩, hx⟩

set_option maxRecDepth 10000 in
set_option maxHeartbeats 8000000 in
theorem cutWay_any (x y : Vt) (ux uy : Value) (n : Int) (m : Nat) (w : World) (h1 : VQ w ux x.vs) (h2 : VQ w uy y.vs) (hm1 : x.vs.length = m) (hm2 : y.vs.length = m) (hm4 : m ≤ 4) (I1 : Vt32 x) (I2 : Vt32 y) :
    Calls Try.prog 34 #[.agg #[.int .i32 (Vt.p x 0), .int .i32 (Vt.p x 1), .int .i32 (Vt.p x 2), .int .i32 (Vt.p x 3), .int .i32 (Vt.s x), ux], .agg #[.int .i32 (Vt.p y 0), .int .i32 (Vt.p y 1), .int .i32 (Vt.p y 2), .int .i32 (Vt.p y 3), .int .i32 (Vt.s y), uy], .int .i64 n] w (CwQ w (wayP x y n)) := by
  obtain ⟨ap, cp, rfl, _⟩ := id h1
  obtain ⟨aq, cq, rfl, _⟩ := id h2
  rw [hm1] at h1 ⊢
  rw [hm2] at h2 ⊢
  have HV1 := hide h1
  have HV2 := hide h2
  have HIX := hide (And.intro hm1 I1)
  have HIY := hide (And.intro hm2 I2)
  have hP : Blk ((((w.alloc (.cells #[.int .i32 (Vt.p x 0), .int .i32 (Vt.p x 1), .int .i32 (Vt.p x 2), .int .i32 (Vt.p x 3), .int .i32 (Vt.s x), .slice ap m cp] 29)).alloc (.cells #[.int .i32 (Vt.p y 0), .int .i32 (Vt.p y 1), .int .i32 (Vt.p y 2), .int .i32 (Vt.p y 3), .int .i32 (Vt.s y), .slice aq m cq] 29)).alloc (.cells #[.int .i32 0, .int .i32 0, .int .i32 0, .int .i32 0, .int .i32 0, .slice none 0 0] 29)).alloc (.cells #[.int .i32 0, .int .i32 0, .int .i32 0, .int .i32 0, .int .i32 0, .slice none 0 0] 29)) (w.heap.size) #[.int .i32 (Vt.p x 0), .int .i32 (Vt.p x 1), .int .i32 (Vt.p x 2), .int .i32 (Vt.p x 3), .int .i32 (Vt.s x), .slice ap m cp] 29 := (((Blk.new _ _ _).alloc _).alloc _).alloc _
  have hQ : Blk ((((w.alloc (.cells #[.int .i32 (Vt.p x 0), .int .i32 (Vt.p x 1), .int .i32 (Vt.p x 2), .int .i32 (Vt.p x 3), .int .i32 (Vt.s x), .slice ap m cp] 29)).alloc (.cells #[.int .i32 (Vt.p y 0), .int .i32 (Vt.p y 1), .int .i32 (Vt.p y 2), .int .i32 (Vt.p y 3), .int .i32 (Vt.s y), .slice aq m cq] 29)).alloc (.cells #[.int .i32 0, .int .i32 0, .int .i32 0, .int .i32 0, .int .i32 0, .slice none 0 0] 29)).alloc (.cells #[.int .i32 0, .int .i32 0, .int .i32 0, .int .i32 0, .int .i32 0, .slice none 0 0] 29)) (w.heap.size + 1) #[.int .i32 (Vt.p y 0), .int .i32 (Vt.p y 1), .int .i32 (Vt.p y 2), .int .i32 (Vt.p y 3), .int .i32 (Vt.s y), .slice aq m cq] 29 := ((Blk.at (by simp)).alloc _).alloc _
  have hZ1 : Blk ((((w.alloc (.cells #[.int .i32 (Vt.p x 0), .int .i32 (Vt.p x 1), .int .i32 (Vt.p x 2), .int .i32 (Vt.p x 3), .int .i32 (Vt.s x), .slice ap m cp] 29)).alloc (.cells #[.int .i32 (Vt.p y 0), .int .i32 (Vt.p y 1), .int .i32 (Vt.p y 2), .int .i32 (Vt.p y 3), .int .i32 (Vt.s y), .slice aq m cq] 29)).alloc (.cells #[.int .i32 0, .int .i32 0, .int .i32 0, .int .i32 0, .int .i32 0, .slice none 0 0] 29)).alloc (.cells #[.int .i32 0, .int .i32 0, .int .i32 0, .int .i32 0, .int .i32 0, .slice none 0 0] 29)) (w.heap.size + 1 + 1) #[.int .i32 0, .int .i32 0, .int .i32 0, .int .i32 0, .int .i32 0, .slice none 0 0] 29 := (Blk.at (by simp)).alloc _
  have hZ2 : Blk ((((w.alloc (.cells #[.int .i32 (Vt.p x 0), .int .i32 (Vt.p x 1), .int .i32 (Vt.p x 2), .int .i32 (Vt.p x 3), .int .i32 (Vt.s x), .slice ap m cp] 29)).alloc (.cells #[.int .i32 (Vt.p y 0), .int .i32 (Vt.p y 1), .int .i32 (Vt.p y 2), .int .i32 (Vt.p y 3), .int .i32 (Vt.s y), .slice aq m cq] 29)).alloc (.cells #[.int .i32 0, .int .i32 0, .int .i32 0, .int .i32 0, .int .i32 0, .slice none 0 0] 29)).alloc (.cells #[.int .i32 0, .int .i32 0, .int .i32 0, .int .i32 0, .int .i32 0, .slice none 0 0] 29)) (w.heap.size + 1 + 1 + 1) #[.int .i32 0, .int .i32 0, .int .i32 0, .int .i32 0, .int .i32 0, .slice none 0 0] 29 := Blk.at (by simp)
  have hX : Ext w ((((w.alloc (.cells #[.int .i32 (Vt.p x 0), .int .i32 (Vt.p x 1), .int .i32 (Vt.p x 2), .int .i32 (Vt.p x 3), .int .i32 (Vt.s x), .slice ap m cp] 29)).alloc (.cells #[.int .i32 (Vt.p y 0), .int .i32 (Vt.p y 1), .int .i32 (Vt.p y 2), .int .i32 (Vt.p y 3), .int .i32 (Vt.s y), .slice aq m cq] 29)).alloc (.cells #[.int .i32 0, .int .i32 0, .int .i32 0, .int .i32 0, .int .i32 0, .slice none 0 0] 29)).alloc (.cells #[.int .i32 0, .int .i32 0, .int .i32 0, .int .i32 0, .int .i32 0, .slice none 0 0] 29)) := ((((Ext.refl w).alloc _).alloc _).alloc _).alloc _
  clear h1 h2 hm1 hm2 I1 I2
  go_enter Try.func34, Try.ntmps34
  go_upto_region 1 with fail
  obtain ⟨wc, hwc⟩ : ∃ wc, wc = ((((w.alloc (.cells #[.int .i32 (Vt.p x 0), .int .i32 (Vt.p x 1), .int .i32 (Vt.p x 2), .int .i32 (Vt.p x 3), .int .i32 (Vt.s x), .slice ap m cp] 29)).alloc (.cells #[.int .i32 (Vt.p y 0), .int .i32 (Vt.p y 1), .int .i32 (Vt.p y 2), .int .i32 (Vt.p y 3), .int .i32 (Vt.s y), .slice aq m cq] 29)).alloc (.cells #[.int .i32 0, .int .i32 0, .int .i32 0, .int .i32 0, .int .i32 0, .slice none 0 0] 29)).alloc (.cells #[.int .i32 0, .int .i32 0, .int .i32 0, .int .i32 0, .int .i32 0, .slice none 0 0] 29)) := ⟨_, rfl⟩
  rw [← hwc] at hP hQ hZ1 hZ2 hX ⊢
  clear hwc
  have HB := hide (And.intro hP (And.intro hQ (And.intro hZ1 (And.intro hZ2 hX))))
  clear hP hQ hZ1 hZ2 hX
  have kk := fun wx (hx : Ext wc wx) => And.intro ((unhide HB).1.ext hx).six ((unhide HB).2.1.ext hx).six
  have kx0 : ∀ wx, Ext wc wx → wx.cell? ⟨w.heap.size, 0, none⟩ = some (.int .i32 (Vt.p x 0)) := fun wx hx => (kk wx hx).1.1
  have kx1 : ∀ wx, Ext wc wx → wx.cell? ⟨w.heap.size, 1, none⟩ = some (.int .i32 (Vt.p x 1)) := fun wx hx => (kk wx hx).1.2.1
  have kx2 : ∀ wx, Ext wc wx → wx.cell? ⟨w.heap.size, 2, none⟩ = some (.int .i32 (Vt.p x 2)) := fun wx hx => (kk wx hx).1.2.2.1
  have kx3 : ∀ wx, Ext wc wx → wx.cell? ⟨w.heap.size, 3, none⟩ = some (.int .i32 (Vt.p x 3)) := fun wx hx => (kk wx hx).1.2.2.2.1
  have kx4 : ∀ wx, Ext wc wx → wx.cell? ⟨w.heap.size, 4, none⟩ = some (.int .i32 (Vt.s x)) := fun wx hx => (kk wx hx).1.2.2.2.2.1
  have kx5 : ∀ wx, Ext wc wx → wx.cell? ⟨w.heap.size, 5, none⟩ = some (.slice ap m cp) := fun wx hx => (kk wx hx).1.2.2.2.2.2
  have ky0 : ∀ wx, Ext wc wx → wx.cell? ⟨w.heap.size + 1, 0, none⟩ = some (.int .i32 (Vt.p y 0)) := fun wx hx => (kk wx hx).2.1
  have ky1 : ∀ wx, Ext wc wx → wx.cell? ⟨w.heap.size + 1, 1, none⟩ = some (.int .i32 (Vt.p y 1)) := fun wx hx => (kk wx hx).2.2.1
  have ky2 : ∀ wx, Ext wc wx → wx.cell? ⟨w.heap.size + 1, 2, none⟩ = some (.int .i32 (Vt.p y 2)) := fun wx hx => (kk wx hx).2.2.2.1
  have ky3 : ∀ wx, Ext wc wx → wx.cell? ⟨w.heap.size + 1, 3, none⟩ = some (.int .i32 (Vt.p y 3)) := fun wx hx => (kk wx hx).2.2.2.2.1
  have ky4 : ∀ wx, Ext wc wx → wx.cell? ⟨w.heap.size + 1, 4, none⟩ = some (.int .i32 (Vt.s y)) := fun wx hx => (kk wx hx).2.2.2.2.2.1
  have ky5 : ∀ wx, Ext wc wx → wx.cell? ⟨w.heap.size + 1, 5, none⟩ = some (.slice aq m cq) := fun wx hx => (kk wx hx).2.2.2.2.2.2
  clear kk
  have D1 := hide (Ext.refl wc)
  go_cut [9, 10] (fun u1 u2 wz => ∃ wd, wd = wz ∧ u1 = .bool (clI x.p n) ∧ u2 = .bool (clI y.p n) ∧ Ext wc wd)
  case first =>
    go_region_held3 (fun wx => Ext wc wx)
      (first | with_reducible assumption | with_reducible exact unhide X6 | with_reducible exact unhide X5 | with_reducible exact (unhide X5).alloc _ | with_reducible exact (unhide D1).drew | with_reducible exact extA _ _ | with_reducible exact extB _ _ _)
      (first
        | (go_at_call 32; refine (lie_one x ap cp m n _ _ (by first | with_reducible exact blkA _ _ _ | with_reducible exact blkB _ _ _ _ _ | with_reducible exact blkC _ _ _ _ _) (unhide HIX).1 (unhide HIX).2.1).mono ?_; rintro e w5 ⟨rfl, hx5⟩; have X5 := hide ((by assumption : Ext wc _).trans hx5); (try have F5 := hide (show Blk w5 (wc.heap.size + 1) #[.int .i32 (Vt.p y 0), .int .i32 (Vt.p y 1), .int .i32 (Vt.p y 2), .int .i32 (Vt.p y 3), .int .i32 (Vt.s y), .slice aq m cq] 29 by with_reducible exact Blk.ext (blkC _ _ _ _ _) hx5)); (try have F5 := hide (show Blk w5 wc.heap.size #[.int .i32 (Vt.p y 0), .int .i32 (Vt.p y 1), .int .i32 (Vt.p y 2), .int .i32 (Vt.p y 3), .int .i32 (Vt.s y), .slice aq m cq] 29 by with_reducible exact Blk.ext (blkB _ _ _ _ _) hx5)); clear hx5)
        | (go_at_call 32; refine (lie_one y aq cq m n _ _ (by first | with_reducible exact Blk.new _ _ _ | with_reducible exact unhide F5) (unhide HIY).1 (unhide HIY).2.1).mono ?_; rintro e w6 ⟨rfl, hx6⟩; have X6 := hide ((by assumption : Ext wc _).trans hx6); clear hx6))
    all_goals go_wp2
    all_goals go_meet
    all_goals exact ⟨_, rfl, rfl, rfl, unhide X6⟩
  case rest =>
  obtain ⟨wd, rfl, rfl, rfl, hXd⟩ := hcut
  clear kx0 kx1 kx2 kx3 kx4 kx5 ky0 ky1 ky2 ky3 ky4 ky5 D1
  have XD := hide ((unhide HB).2.2.2.2.trans hXd)
  have BP := (unhide HB).1.ext hXd
  have BQ := (unhide HB).2.1.ext hXd
  have BZ1 := (unhide HB).2.2.1.ext hXd
  have BZ2 := (unhide HB).2.2.2.1.ext hXd
  have n1 : ¬ w.heap.size + 1 + 1 = w.heap.size + 1 + 1 + 1 := by omega
  have n2 : ¬ w.heap.size + 1 + 1 + 1 = w.heap.size + 1 + 1 := by omega
  have HN := hide (show w.heap.size ≠ w.heap.size + 1 + 1 ∧ w.heap.size ≠ w.heap.size + 1 + 1 + 1 ∧ w.heap.size + 1 ≠ w.heap.size + 1 + 1 ∧ w.heap.size + 1 ≠ w.heap.size + 1 + 1 + 1 by omega)
  have HSZ := hide (show w.heap.size + 1 + 1 + 1 < wd.heap.size from BZ2.lt)
  have HBD := hide (And.intro BP (And.intro BQ (And.intro BZ1 BZ2)))
  clear hXd BP BQ BZ1 BZ2 HB
  cases hx : clI x.p n with
  | true =>
    cases hy : clI y.p n with
    | true =>
      have HW := hide (show wayP x y n = some (x, y) by unfold wayP; rw [if_pos hx, if_pos hy])
      clear hx hy
      have kk := fun wx (hx : Below (w.heap.size + 1 + 1) wd wx) => And.intro (Blk.six (show Blk wx w.heap.size #[.int .i32 (Vt.p x 0), .int .i32 (Vt.p x 1), .int .i32 (Vt.p x 2), .int .i32 (Vt.p x 3), .int .i32 (Vt.s x), .slice ap m cp] 29 from (hx.block _ (by omega)).trans (unhide HBD).1)) (Blk.six (show Blk wx (w.heap.size + 1) #[.int .i32 (Vt.p y 0), .int .i32 (Vt.p y 1), .int .i32 (Vt.p y 2), .int .i32 (Vt.p y 3), .int .i32 (Vt.s y), .slice aq m cq] 29 from (hx.block _ (by omega)).trans (unhide HBD).2.1))
      have kx0 : ∀ wx, Below (w.heap.size + 1 + 1) wd wx → wx.cell? ⟨w.heap.size, 0, none⟩ = some (.int .i32 (Vt.p x 0)) := fun wx hx => (kk wx hx).1.1
      have kx1 : ∀ wx, Below (w.heap.size + 1 + 1) wd wx → wx.cell? ⟨w.heap.size, 1, none⟩ = some (.int .i32 (Vt.p x 1)) := fun wx hx => (kk wx hx).1.2.1
      have kx2 : ∀ wx, Below (w.heap.size + 1 + 1) wd wx → wx.cell? ⟨w.heap.size, 2, none⟩ = some (.int .i32 (Vt.p x 2)) := fun wx hx => (kk wx hx).1.2.2.1
      have kx3 : ∀ wx, Below (w.heap.size + 1 + 1) wd wx → wx.cell? ⟨w.heap.size, 3, none⟩ = some (.int .i32 (Vt.p x 3)) := fun wx hx => (kk wx hx).1.2.2.2.1
      have kx4 : ∀ wx, Below (w.heap.size + 1 + 1) wd wx → wx.cell? ⟨w.heap.size, 4, none⟩ = some (.int .i32 (Vt.s x)) := fun wx hx => (kk wx hx).1.2.2.2.2.1
      have kx5 : ∀ wx, Below (w.heap.size + 1 + 1) wd wx → wx.cell? ⟨w.heap.size, 5, none⟩ = some (.slice ap m cp) := fun wx hx => (kk wx hx).1.2.2.2.2.2
      have ky0 : ∀ wx, Below (w.heap.size + 1 + 1) wd wx → wx.cell? ⟨w.heap.size + 1, 0, none⟩ = some (.int .i32 (Vt.p y 0)) := fun wx hx => (kk wx hx).2.1
      have ky1 : ∀ wx, Below (w.heap.size + 1 + 1) wd wx → wx.cell? ⟨w.heap.size + 1, 1, none⟩ = some (.int .i32 (Vt.p y 1)) := fun wx hx => (kk wx hx).2.2.1
      have ky2 : ∀ wx, Below (w.heap.size + 1 + 1) wd wx → wx.cell? ⟨w.heap.size + 1, 2, none⟩ = some (.int .i32 (Vt.p y 2)) := fun wx hx => (kk wx hx).2.2.2.1
      have ky3 : ∀ wx, Below (w.heap.size + 1 + 1) wd wx → wx.cell? ⟨w.heap.size + 1, 3, none⟩ = some (.int .i32 (Vt.p y 3)) := fun wx hx => (kk wx hx).2.2.2.2.1
      have ky4 : ∀ wx, Below (w.heap.size + 1 + 1) wd wx → wx.cell? ⟨w.heap.size + 1, 4, none⟩ = some (.int .i32 (Vt.s y)) := fun wx hx => (kk wx hx).2.2.2.2.2.1
      have ky5 : ∀ wx, Below (w.heap.size + 1 + 1) wd wx → wx.cell? ⟨w.heap.size + 1, 5, none⟩ = some (.slice aq m cq) := fun wx hx => (kk wx hx).2.2.2.2.2.2
      clear kk
      have BR := hide (show Below (w.heap.size + 1 + 1) wd wd from Below.refl _ _)
      have B0 := hide (show Below (w.heap.size + 1 + 1) wd wd.drew from (Below.refl _ _).drew)
      have BS := hide (show w.heap.size + 1 + 1 ≤ wd.heap.size by have := unhide HSZ; omega)
      have BT := hide (show w.heap.size + 1 + 1 ≤ w.heap.size + 1 + 1 + 1 by omega)
      obtain ⟨r0, r1, r2, r3, r4, r5⟩ := (unhide HBD).2.2.1.six
      obtain ⟨f0, f1, f2, f3, f4, f5⟩ := (unhide HBD).2.2.1.free6
      obtain ⟨s0, s1, s2, s3, s4, s5⟩ := (unhide HBD).2.2.2.six
      obtain ⟨g0, g1, g2, g3, g4, g5⟩ := (unhide HBD).2.2.2.free6
      go_upto_region 3 with fail
      go_cut [8] (fun u wz => ∃ we, we = wz ∧ u = .bool true ∧ Blk we (w.heap.size + 1 + 1) #[.int .i32 (Vt.p x 0), .int .i32 (Vt.p x 1), .int .i32 (Vt.p x 2), .int .i32 (Vt.p x 3), .int .i32 (Vt.s x), .slice ap m cp] 29 ∧ Blk we (w.heap.size + 1 + 1 + 1) #[.int .i32 (Vt.p y 0), .int .i32 (Vt.p y 1), .int .i32 (Vt.p y 2), .int .i32 (Vt.p y 3), .int .i32 (Vt.s y), .slice aq m cq] 29 ∧ VQ we (.slice ap m cp) (Vt.vs x) ∧ VQ we (.slice aq m cq) (Vt.vs y) ∧ Ext w we)
      case first =>
        go_region_held3 (fun wx => Below (w.heap.size + 1 + 1) wd wx)
          (first | with_reducible exact unhide B0 | with_reducible assumption | with_reducible exact (below_lay6 (unhide BR) (unhide BS) (Nat.le_refl _)).drew | with_reducible exact (below_lay6 (below_lay6 (unhide BR) (unhide BS) (Nat.le_refl _)) (unhide BS) (unhide BT)).drew)
          (fail)
        all_goals go_wp2
        all_goals go_meet
        obtain ⟨t1, t2, t3, t4⟩ := two_laid (w := w) (unhide HBD).2.2.1 (unhide HBD).2.2.2 (show w.heap.size + 1 + 1 ≠ w.heap.size + 1 + 1 + 1 by omega) (by omega) (by omega) (unhide XD) (.int .i32 (Vt.p x 0)) (.int .i32 (Vt.p x 1)) (.int .i32 (Vt.p x 2)) (.int .i32 (Vt.p x 3)) (.int .i32 (Vt.s x)) (.slice ap m cp) (.int .i32 (Vt.p y 0)) (.int .i32 (Vt.p y 1)) (.int .i32 (Vt.p y 2)) (.int .i32 (Vt.p y 3)) (.int .i32 (Vt.s y)) (.slice aq m cq)
        exact ⟨_, rfl, rfl, t1.ext ((Ext.refl _).drew), t2.ext ((Ext.refl _).drew), SR.ext (t4 _ _ (SR.ext (unhide HV1) (unhide XD)) (fun h c hc => by have h2 := SR.lt (unhide HV1) vEnc_len (by decide) h c hc; omega)) ((Ext.refl _).drew), SR.ext (t4 _ _ (SR.ext (unhide HV2) (unhide XD)) (fun h c hc => by have h2 := SR.lt (unhide HV2) vEnc_len (by decide) h c hc; omega)) ((Ext.refl _).drew), t3.trans ((Ext.refl _).drew)⟩
      case rest =>
        obtain ⟨we, rfl, rfl, hA, hB, hva, hvb, hxe⟩ := hcut
        obtain ⟨p0, p1, p2, p3, p4, p5⟩ := hA.six
        obtain ⟨q0, q1, q2, q3, q4, q5⟩ := hB.six
        have HF := hide (And.intro hva (And.intro hvb hxe))
        clear hA hB hva hvb hxe
        try go_wp2
        exact bodyPost_ret (v := .tuple #[.agg #[.int .i32 (Vt.p x 0), .int .i32 (Vt.p x 1), .int .i32 (Vt.p x 2), .int .i32 (Vt.p x 3), .int .i32 (Vt.s x), .slice ap m cp], .agg #[.int .i32 (Vt.p y 0), .int .i32 (Vt.p y 1), .int .i32 (Vt.p y 2), .int .i32 (Vt.p y 3), .int .i32 (Vt.s y), .slice aq m cq], .bool true]) (by simp [results, Try.results34, go_sem, p0, p1, p2, p3, p4, p5, q0, q1, q2, q3, q4, q5]) rfl (cw_some (unhide HW) (unhide HF).1 (unhide HF).2.1 (unhide HF).2.2)
    | false =>
      obtain ⟨z, hz⟩ : ∃ z, clB x y n = z := ⟨_, rfl⟩
      have HW := hide (show wayP x y n = some (x, z) by unfold wayP; rw [if_pos hx, if_neg (by rw [hy]; decide), hz])
      have HBT := hide (fun wx hx => betC_any x y (.slice ap m cp) (.slice aq m cq) n wx (show VQ wx _ _ from SR.ext (unhide HV1) ((unhide XD).trans hx)) (show VQ wx _ _ from SR.ext (unhide HV2) ((unhide XD).trans hx)) (by rw [(unhide HIX).1, (unhide HIY).1]) (by rw [(unhide HIX).1]; omega) (unhide HIX).2 (unhide HIY).2)
      rw [hz] at HBT
      clear hx hy hz
      have kk := fun wx (hx : Below (w.heap.size + 1 + 1) wd wx) => And.intro (Blk.six (show Blk wx w.heap.size #[.int .i32 (Vt.p x 0), .int .i32 (Vt.p x 1), .int .i32 (Vt.p x 2), .int .i32 (Vt.p x 3), .int .i32 (Vt.s x), .slice ap m cp] 29 from (hx.block _ (by omega)).trans (unhide HBD).1)) (Blk.six (show Blk wx (w.heap.size + 1) #[.int .i32 (Vt.p y 0), .int .i32 (Vt.p y 1), .int .i32 (Vt.p y 2), .int .i32 (Vt.p y 3), .int .i32 (Vt.s y), .slice aq m cq] 29 from (hx.block _ (by omega)).trans (unhide HBD).2.1))
      have kx0 : ∀ wx, Below (w.heap.size + 1 + 1) wd wx → wx.cell? ⟨w.heap.size, 0, none⟩ = some (.int .i32 (Vt.p x 0)) := fun wx hx => (kk wx hx).1.1
      have kx1 : ∀ wx, Below (w.heap.size + 1 + 1) wd wx → wx.cell? ⟨w.heap.size, 1, none⟩ = some (.int .i32 (Vt.p x 1)) := fun wx hx => (kk wx hx).1.2.1
      have kx2 : ∀ wx, Below (w.heap.size + 1 + 1) wd wx → wx.cell? ⟨w.heap.size, 2, none⟩ = some (.int .i32 (Vt.p x 2)) := fun wx hx => (kk wx hx).1.2.2.1
      have kx3 : ∀ wx, Below (w.heap.size + 1 + 1) wd wx → wx.cell? ⟨w.heap.size, 3, none⟩ = some (.int .i32 (Vt.p x 3)) := fun wx hx => (kk wx hx).1.2.2.2.1
      have kx4 : ∀ wx, Below (w.heap.size + 1 + 1) wd wx → wx.cell? ⟨w.heap.size, 4, none⟩ = some (.int .i32 (Vt.s x)) := fun wx hx => (kk wx hx).1.2.2.2.2.1
      have kx5 : ∀ wx, Below (w.heap.size + 1 + 1) wd wx → wx.cell? ⟨w.heap.size, 5, none⟩ = some (.slice ap m cp) := fun wx hx => (kk wx hx).1.2.2.2.2.2
      have ky0 : ∀ wx, Below (w.heap.size + 1 + 1) wd wx → wx.cell? ⟨w.heap.size + 1, 0, none⟩ = some (.int .i32 (Vt.p y 0)) := fun wx hx => (kk wx hx).2.1
      have ky1 : ∀ wx, Below (w.heap.size + 1 + 1) wd wx → wx.cell? ⟨w.heap.size + 1, 1, none⟩ = some (.int .i32 (Vt.p y 1)) := fun wx hx => (kk wx hx).2.2.1
      have ky2 : ∀ wx, Below (w.heap.size + 1 + 1) wd wx → wx.cell? ⟨w.heap.size + 1, 2, none⟩ = some (.int .i32 (Vt.p y 2)) := fun wx hx => (kk wx hx).2.2.2.1
      have ky3 : ∀ wx, Below (w.heap.size + 1 + 1) wd wx → wx.cell? ⟨w.heap.size + 1, 3, none⟩ = some (.int .i32 (Vt.p y 3)) := fun wx hx => (kk wx hx).2.2.2.2.1
      have ky4 : ∀ wx, Below (w.heap.size + 1 + 1) wd wx → wx.cell? ⟨w.heap.size + 1, 4, none⟩ = some (.int .i32 (Vt.s y)) := fun wx hx => (kk wx hx).2.2.2.2.2.1
      have ky5 : ∀ wx, Below (w.heap.size + 1 + 1) wd wx → wx.cell? ⟨w.heap.size + 1, 5, none⟩ = some (.slice aq m cq) := fun wx hx => (kk wx hx).2.2.2.2.2.2
      clear kk
      have BR := hide (show Below (w.heap.size + 1 + 1) wd wd from Below.refl _ _)
      have B0 := hide (show Below (w.heap.size + 1 + 1) wd wd.drew from (Below.refl _ _).drew)
      have BS := hide (show w.heap.size + 1 + 1 ≤ wd.heap.size by have := unhide HSZ; omega)
      have BT := hide (show w.heap.size + 1 + 1 ≤ w.heap.size + 1 + 1 + 1 by omega)
      go_upto_region 5 with fail
      go_cut [8] (fun u wz => ∃ we ao7 cap7, we = wz ∧ u = .bool true ∧ Blk we (w.heap.size + 1 + 1) #[.int .i32 (Vt.p x 0), .int .i32 (Vt.p x 1), .int .i32 (Vt.p x 2), .int .i32 (Vt.p x 3), .int .i32 (Vt.s x), .slice ap m cp] 29 ∧ Blk we (w.heap.size + 1 + 1 + 1) #[.int .i32 (Vt.p z 0), .int .i32 (Vt.p z 1), .int .i32 (Vt.p z 2), .int .i32 (Vt.p z 3), .int .i32 (Vt.s z), .slice ao7 z.vs.length cap7] 29 ∧ VQ we (.slice ap m cp) (Vt.vs x) ∧ VQ we (.slice ao7 z.vs.length cap7) (Vt.vs z) ∧ Ext w we)
      case first =>
        go_region_held3 (fun wx => Below (w.heap.size + 1 + 1) wd wx)
          (first | with_reducible exact unhide B0 | with_reducible assumption | with_reducible exact unhide B7 | with_reducible exact below_lay6 (unhide B7) (unhide BS) (Nat.le_refl _) | with_reducible exact below_lay6 (below_lay6 (unhide B7) (unhide BS) (Nat.le_refl _)) (unhide BS) (unhide BT))
          (first
            | (go_at_call 45; refine (unhide HBT _ ((Ext.refl wd).drew)).mono ?_; rintro e w7 ⟨u7, rfl, hv7, hb7, ⟨ao7, cap7, rfl⟩, hx7⟩
               have X7 := hide (((Ext.refl wd).drew).trans hx7)
               have B7 := hide (show Below (w.heap.size + 1 + 1) wd w7 from Below.mono (unhide X7) (unhide BS))
               have H7 := hide (And.intro hv7 hb7)
               have HB7 := hide (And.intro ((unhide HBD).1.ext (unhide X7)) (And.intro ((unhide HBD).2.1.ext (unhide X7)) (And.intro ((unhide HBD).2.2.1.ext (unhide X7)) ((unhide HBD).2.2.2.ext (unhide X7)))))
               obtain ⟨r0, r1, r2, r3, r4, r5⟩ := (unhide HB7).2.2.1.six
               obtain ⟨f0, f1, f2, f3, f4, f5⟩ := (unhide HB7).2.2.1.free6
               obtain ⟨s0, s1, s2, s3, s4, s5⟩ := (unhide HB7).2.2.2.six
               obtain ⟨g0, g1, g2, g3, g4, g5⟩ := (unhide HB7).2.2.2.free6
               clear hv7 hb7 hx7))
        all_goals go_wp2
        all_goals go_meet
        obtain ⟨t1, t2, t3, t4⟩ := two_laid (w := w) (unhide HB7).2.2.1 (unhide HB7).2.2.2 (show w.heap.size + 1 + 1 ≠ w.heap.size + 1 + 1 + 1 by omega) (by omega) (by omega) ((unhide XD).trans (unhide X7)) (.int .i32 (Vt.p x 0)) (.int .i32 (Vt.p x 1)) (.int .i32 (Vt.p x 2)) (.int .i32 (Vt.p x 3)) (.int .i32 (Vt.s x)) (.slice ap m cp) (.int .i32 (Vt.p z 0)) (.int .i32 (Vt.p z 1)) (.int .i32 (Vt.p z 2)) (.int .i32 (Vt.p z 3)) (.int .i32 (Vt.s z)) (.slice ao7 z.vs.length cap7)
        exact ⟨_, ao7, cap7, rfl, rfl, t1, t2, t4 _ _ (SR.ext (unhide HV1) ((unhide XD).trans (unhide X7))) (fun h c hc => by have h2 := SR.lt (unhide HV1) vEnc_len (by decide) h c hc; omega), t4 _ _ (unhide H7).1 (fun h c hc => by have h2 := (unhide H7).2 c hc; have h3 := unhide HSZ; have h4 : wd.drew.heap.size = wd.heap.size := rfl; omega), t3⟩
      case rest =>
        obtain ⟨we, ao7, cap7, rfl, rfl, hA, hB, hva, hvb, hxe⟩ := hcut
        obtain ⟨p0, p1, p2, p3, p4, p5⟩ := hA.six
        obtain ⟨q0, q1, q2, q3, q4, q5⟩ := hB.six
        have HF := hide (And.intro hva (And.intro hvb hxe))
        clear hA hB hva hvb hxe
        try go_wp2
        exact bodyPost_ret (v := .tuple #[.agg #[.int .i32 (Vt.p x 0), .int .i32 (Vt.p x 1), .int .i32 (Vt.p x 2), .int .i32 (Vt.p x 3), .int .i32 (Vt.s x), .slice ap m cp], .agg #[.int .i32 (Vt.p z 0), .int .i32 (Vt.p z 1), .int .i32 (Vt.p z 2), .int .i32 (Vt.p z 3), .int .i32 (Vt.s z), .slice ao7 z.vs.length cap7], .bool true]) (by simp [results, Try.results34, go_sem, p0, p1, p2, p3, p4, p5, q0, q1, q2, q3, q4, q5]) rfl (cw_some (unhide HW) (unhide HF).1 (unhide HF).2.1 (unhide HF).2.2)
  | false =>
    cases hy : clI y.p n with
    | true =>
      obtain ⟨z, hz⟩ : ∃ z, clB y x n = z := ⟨_, rfl⟩
      have HW := hide (show wayP x y n = some (z, y) by unfold wayP; rw [if_neg (by rw [hx]; decide), if_pos hy, hz])
      have HBT := hide (fun wx hx => betC_any y x (.slice aq m cq) (.slice ap m cp) n wx (show VQ wx _ _ from SR.ext (unhide HV2) ((unhide XD).trans hx)) (show VQ wx _ _ from SR.ext (unhide HV1) ((unhide XD).trans hx)) (by rw [(unhide HIX).1, (unhide HIY).1]) (by rw [(unhide HIY).1]; omega) (unhide HIY).2 (unhide HIX).2)
      rw [hz] at HBT
      clear hx hy hz
      have kk := fun wx (hx : Below (w.heap.size + 1 + 1) wd wx) => And.intro (Blk.six (show Blk wx w.heap.size #[.int .i32 (Vt.p x 0), .int .i32 (Vt.p x 1), .int .i32 (Vt.p x 2), .int .i32 (Vt.p x 3), .int .i32 (Vt.s x), .slice ap m cp] 29 from (hx.block _ (by omega)).trans (unhide HBD).1)) (Blk.six (show Blk wx (w.heap.size + 1) #[.int .i32 (Vt.p y 0), .int .i32 (Vt.p y 1), .int .i32 (Vt.p y 2), .int .i32 (Vt.p y 3), .int .i32 (Vt.s y), .slice aq m cq] 29 from (hx.block _ (by omega)).trans (unhide HBD).2.1))
      have kx0 : ∀ wx, Below (w.heap.size + 1 + 1) wd wx → wx.cell? ⟨w.heap.size, 0, none⟩ = some (.int .i32 (Vt.p x 0)) := fun wx hx => (kk wx hx).1.1
      have kx1 : ∀ wx, Below (w.heap.size + 1 + 1) wd wx → wx.cell? ⟨w.heap.size, 1, none⟩ = some (.int .i32 (Vt.p x 1)) := fun wx hx => (kk wx hx).1.2.1
      have kx2 : ∀ wx, Below (w.heap.size + 1 + 1) wd wx → wx.cell? ⟨w.heap.size, 2, none⟩ = some (.int .i32 (Vt.p x 2)) := fun wx hx => (kk wx hx).1.2.2.1
      have kx3 : ∀ wx, Below (w.heap.size + 1 + 1) wd wx → wx.cell? ⟨w.heap.size, 3, none⟩ = some (.int .i32 (Vt.p x 3)) := fun wx hx => (kk wx hx).1.2.2.2.1
      have kx4 : ∀ wx, Below (w.heap.size + 1 + 1) wd wx → wx.cell? ⟨w.heap.size, 4, none⟩ = some (.int .i32 (Vt.s x)) := fun wx hx => (kk wx hx).1.2.2.2.2.1
      have kx5 : ∀ wx, Below (w.heap.size + 1 + 1) wd wx → wx.cell? ⟨w.heap.size, 5, none⟩ = some (.slice ap m cp) := fun wx hx => (kk wx hx).1.2.2.2.2.2
      have ky0 : ∀ wx, Below (w.heap.size + 1 + 1) wd wx → wx.cell? ⟨w.heap.size + 1, 0, none⟩ = some (.int .i32 (Vt.p y 0)) := fun wx hx => (kk wx hx).2.1
      have ky1 : ∀ wx, Below (w.heap.size + 1 + 1) wd wx → wx.cell? ⟨w.heap.size + 1, 1, none⟩ = some (.int .i32 (Vt.p y 1)) := fun wx hx => (kk wx hx).2.2.1
      have ky2 : ∀ wx, Below (w.heap.size + 1 + 1) wd wx → wx.cell? ⟨w.heap.size + 1, 2, none⟩ = some (.int .i32 (Vt.p y 2)) := fun wx hx => (kk wx hx).2.2.2.1
      have ky3 : ∀ wx, Below (w.heap.size + 1 + 1) wd wx → wx.cell? ⟨w.heap.size + 1, 3, none⟩ = some (.int .i32 (Vt.p y 3)) := fun wx hx => (kk wx hx).2.2.2.2.1
      have ky4 : ∀ wx, Below (w.heap.size + 1 + 1) wd wx → wx.cell? ⟨w.heap.size + 1, 4, none⟩ = some (.int .i32 (Vt.s y)) := fun wx hx => (kk wx hx).2.2.2.2.2.1
      have ky5 : ∀ wx, Below (w.heap.size + 1 + 1) wd wx → wx.cell? ⟨w.heap.size + 1, 5, none⟩ = some (.slice aq m cq) := fun wx hx => (kk wx hx).2.2.2.2.2.2
      clear kk
      have BR := hide (show Below (w.heap.size + 1 + 1) wd wd from Below.refl _ _)
      have B0 := hide (show Below (w.heap.size + 1 + 1) wd wd.drew from (Below.refl _ _).drew)
      have BS := hide (show w.heap.size + 1 + 1 ≤ wd.heap.size by have := unhide HSZ; omega)
      have BT := hide (show w.heap.size + 1 + 1 ≤ w.heap.size + 1 + 1 + 1 by omega)
      go_upto_region 7 with fail
      go_cut [8] (fun u wz => ∃ we ao7 cap7, we = wz ∧ u = .bool true ∧ Blk we (w.heap.size + 1 + 1) #[.int .i32 (Vt.p z 0), .int .i32 (Vt.p z 1), .int .i32 (Vt.p z 2), .int .i32 (Vt.p z 3), .int .i32 (Vt.s z), .slice ao7 z.vs.length cap7] 29 ∧ Blk we (w.heap.size + 1 + 1 + 1) #[.int .i32 (Vt.p y 0), .int .i32 (Vt.p y 1), .int .i32 (Vt.p y 2), .int .i32 (Vt.p y 3), .int .i32 (Vt.s y), .slice aq m cq] 29 ∧ VQ we (.slice ao7 z.vs.length cap7) (Vt.vs z) ∧ VQ we (.slice aq m cq) (Vt.vs y) ∧ Ext w we)
      case first =>
        go_region_held3 (fun wx => Below (w.heap.size + 1 + 1) wd wx)
          (first | with_reducible exact unhide B0 | with_reducible assumption | with_reducible exact unhide B7 | with_reducible exact below_lay6 (unhide B7) (unhide BS) (Nat.le_refl _) | with_reducible exact below_lay6 (below_lay6 (unhide B7) (unhide BS) (Nat.le_refl _)) (unhide BS) (unhide BT))
          (first
            | (go_at_call 45; refine (unhide HBT _ ((Ext.refl wd).drew)).mono ?_; rintro e w7 ⟨u7, rfl, hv7, hb7, ⟨ao7, cap7, rfl⟩, hx7⟩
               have X7 := hide (((Ext.refl wd).drew).trans hx7)
               have B7 := hide (show Below (w.heap.size + 1 + 1) wd w7 from Below.mono (unhide X7) (unhide BS))
               have H7 := hide (And.intro hv7 hb7)
               have HB7 := hide (And.intro ((unhide HBD).1.ext (unhide X7)) (And.intro ((unhide HBD).2.1.ext (unhide X7)) (And.intro ((unhide HBD).2.2.1.ext (unhide X7)) ((unhide HBD).2.2.2.ext (unhide X7)))))
               obtain ⟨r0, r1, r2, r3, r4, r5⟩ := (unhide HB7).2.2.1.six
               obtain ⟨f0, f1, f2, f3, f4, f5⟩ := (unhide HB7).2.2.1.free6
               obtain ⟨s0, s1, s2, s3, s4, s5⟩ := (unhide HB7).2.2.2.six
               obtain ⟨g0, g1, g2, g3, g4, g5⟩ := (unhide HB7).2.2.2.free6
               clear hv7 hb7 hx7))
        all_goals go_wp2
        all_goals go_meet
        obtain ⟨t1, t2, t3, t4⟩ := two_laid (w := w) (unhide HB7).2.2.1 (unhide HB7).2.2.2 (show w.heap.size + 1 + 1 ≠ w.heap.size + 1 + 1 + 1 by omega) (by omega) (by omega) ((unhide XD).trans (unhide X7)) (.int .i32 (Vt.p z 0)) (.int .i32 (Vt.p z 1)) (.int .i32 (Vt.p z 2)) (.int .i32 (Vt.p z 3)) (.int .i32 (Vt.s z)) (.slice ao7 z.vs.length cap7) (.int .i32 (Vt.p y 0)) (.int .i32 (Vt.p y 1)) (.int .i32 (Vt.p y 2)) (.int .i32 (Vt.p y 3)) (.int .i32 (Vt.s y)) (.slice aq m cq)
        exact ⟨_, ao7, cap7, rfl, rfl, t1, t2, t4 _ _ (unhide H7).1 (fun h c hc => by have h2 := (unhide H7).2 c hc; have h3 := unhide HSZ; have h4 : wd.drew.heap.size = wd.heap.size := rfl; omega), t4 _ _ (SR.ext (unhide HV2) ((unhide XD).trans (unhide X7))) (fun h c hc => by have h2 := SR.lt (unhide HV2) vEnc_len (by decide) h c hc; omega), t3⟩
      case rest =>
        obtain ⟨we, ao7, cap7, rfl, rfl, hA, hB, hva, hvb, hxe⟩ := hcut
        obtain ⟨p0, p1, p2, p3, p4, p5⟩ := hA.six
        obtain ⟨q0, q1, q2, q3, q4, q5⟩ := hB.six
        have HF := hide (And.intro hva (And.intro hvb hxe))
        clear hA hB hva hvb hxe
        try go_wp2
        exact bodyPost_ret (v := .tuple #[.agg #[.int .i32 (Vt.p z 0), .int .i32 (Vt.p z 1), .int .i32 (Vt.p z 2), .int .i32 (Vt.p z 3), .int .i32 (Vt.s z), .slice ao7 z.vs.length cap7], .agg #[.int .i32 (Vt.p y 0), .int .i32 (Vt.p y 1), .int .i32 (Vt.p y 2), .int .i32 (Vt.p y 3), .int .i32 (Vt.s y), .slice aq m cq], .bool true]) (by simp [results, Try.results34, go_sem, p0, p1, p2, p3, p4, p5, q0, q1, q2, q3, q4, q5]) rfl (cw_some (unhide HW) (unhide HF).1 (unhide HF).2.1 (unhide HF).2.2)
    | false =>
      have HW := hide (show wayP x y n = none by unfold wayP; rw [if_neg (by rw [hx]; decide), if_neg (by rw [hy]; decide)])
      clear hx hy
      obtain ⟨r0, r1, r2, r3, r4, r5⟩ := (unhide HBD).2.2.1.six
      obtain ⟨f0, f1, f2, f3, f4, f5⟩ := (unhide HBD).2.2.1.free6
      obtain ⟨s0, s1, s2, s3, s4, s5⟩ := (unhide HBD).2.2.2.six
      obtain ⟨g0, g1, g2, g3, g4, g5⟩ := (unhide HBD).2.2.2.free6
      go_wp2
      obtain ⟨t1, t2, t3, _⟩ := two_laid (w := w) (unhide HBD).2.2.1 (unhide HBD).2.2.2 (show w.heap.size + 1 + 1 ≠ w.heap.size + 1 + 1 + 1 by omega) (by omega) (by omega) (unhide XD) (.int .i32 0) (.int .i32 0) (.int .i32 0) (.int .i32 0) (.int .i32 0) (.slice none 0 0) (.int .i32 0) (.int .i32 0) (.int .i32 0) (.int .i32 0) (.int .i32 0) (.slice none 0 0)
      obtain ⟨p0, p1, p2, p3, p4, p5⟩ := t1.six
      obtain ⟨q0, q1, q2, q3, q4, q5⟩ := t2.six
      exact bodyPost_ret (v := .tuple #[.agg #[.int .i32 0, .int .i32 0, .int .i32 0, .int .i32 0, .int .i32 0, .slice none 0 0], .agg #[.int .i32 0, .int .i32 0, .int .i32 0, .int .i32 0, .int .i32 0, .slice none 0 0], .bool false]) (by simp [results, Try.results34, go_sem, p0, p1, p2, p3, p4, p5, q0, q1, q2, q3, q4, q5]) rfl (cw_none (unhide HW) t3)
end Go.Proofs.Ytbhdloanlagddaa
