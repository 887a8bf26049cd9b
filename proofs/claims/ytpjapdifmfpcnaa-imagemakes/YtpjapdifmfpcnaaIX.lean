/-
  Images: the walk of Put. What the dump lacks is left out.
-/
import Derived.Test.YtpjapdifmfpcnaaIW
import Derived.Deep.DeepCutAuto
namespace Go.Proofs.Ytpjapdifmfpcnaa
open Go.RowKit
set_option linter.unusedVariables false
set_option linter.unusedSimpArgs false

/-- The bytes of a level that is put: noughts, if there are none. -/
def fillB (n : Nat) (xs : List Int) : List Int := if xs.length = 0 then List.replicate n 0 else xs
/-- Levels, one being put. -/
def putL (A : List Lev) (k : Nat) (x : Lev) : List Lev := (A ++ List.replicate (k + 1 - A.length) noLev).set k x
/-- What becomes of an image. -/
def putI (I : Img) (lv f W H : Int) (bs : List Int) : Img :=
  if putE I lv f W H bs.length = 0 then ⟨f, putL (if f = I.f then I.L else []) lv.toNat (W, H, fillB (W * H * sizI f).toNat bs), I.ws, I.wt, I.mn, I.mg⟩ else zimg

theorem putE_zero {I : Img} {lv f W H : Int} {n : Nat} (h : putE I lv f W H n = 0) : okB (sizI I.f) I = true ∧ (0 ≤ lv ∧ lv < 7) ∧ sizI f ≠ 0 ∧ (1 ≤ W ∧ W ≤ 64) ∧ (1 ≤ H ∧ H ≤ 64) ∧ (n = 0 ∨ (n : Int) = W * H * sizI f) := by
  unfold putE at h
  cases hok : okB (sizI I.f) I with
  | false =>
    rw [if_pos hok] at h
    simp at h
  | true =>
    rw [if_neg (by rw [hok]; simp)] at h
    by_cases h1 : lv < 0 ∨ 7 ≤ lv ∨ sizI f = 0 ∨ sideB W = false ∨ sideB H = false
    · rw [if_pos h1] at h
      simp at h
    · rw [if_neg h1] at h
      have hw : sideB W = true := by
        cases e : sideB W with
        | true => rfl
        | false => exact absurd (.inr (.inr (.inr (.inl e)))) h1
      have hh : sideB H = true := by
        cases e : sideB H with
        | true => rfl
        | false => exact absurd (.inr (.inr (.inr (.inr e)))) h1
      refine ⟨rfl, by omega, fun e => h1 (.inr (.inr (.inl e))), sideB_iff.1 hw, sideB_iff.1 hh, ?_⟩
      by_cases h2 : n ≠ 0 ∧ (n : Int) ≠ W * H * sizI f
      · rw [if_pos h2] at h
        simp at h
      · by_cases h3 : n = 0
        · exact .inl h3
        · exact .inr (Classical.byContradiction fun h4 => h2 ⟨h3, h4⟩)

def zcells : Array Value := #[.int .i64 0, .slice none 0 0, .int .i64 0, .int .i64 0, .int .i64 0, .int .i64 0]
/-- How far Put has come: the image under way in block Y, the level that was handed in, the result's block. -/
structure PutS (w wr : World) (base Y : Nat) (J : Img) (W H : Int) (vb : Value) (ao : Option Addr) (cap : Nat) (D : List Ent) : Prop where
  blk : Blk wr Y #[.int .i64 J.f, .slice ao D.length cap, .int .i64 J.ws, .int .i64 J.wt, .int .i64 J.mn, .int .i64 J.mg] 24
  lo : LO wr base (.slice ao D.length cap) D
  lev : Blk wr (w.heap.size + 1) #[.int .i64 W, .int .i64 H, vb] 48
  res : Blk wr (w.heap.size + 1 + 1) #[.int .i64 0, .slice none 0 0, .int .i64 0, .int .i64 0, .int .i64 0, .int .i64 0] 24
  low : w.heap.size + 3 ≤ base ∧ w.heap.size + 3 ≤ Y
  ext : Ext w wr
theorem PutS.exts {w wr w' : World} {base Y : Nat} {J : Img} {W H : Int} {vb : Value} {ao : Option Addr} {cap : Nat} {D : List Ent} (h : PutS w wr base Y J W H vb ao cap D) (hx : Ext wr w') : PutS w w' base Y J W H vb ao cap D :=
  ⟨h.blk.ext hx, h.lo.ext hx, h.lev.ext hx, h.res.ext hx, h.low, h.ext.trans hx⟩
def zent : Ent := (0, 0, .slice none 0 0, [])
/-- An empty level is appended, and the row stored. -/
theorem PutS.more {w wr w5 : World} {base Y : Nat} {J : Img} {W H : Int} {vb : Value} {ao ao' : Option Addr} {cap cap' : Nat} {D : List Ent} {o : Obj} (h : PutS w wr base Y J W H vb ao cap D)
    (hown0 : w5.ownsRow base 48 3 (.slice ao' (D.length + 1) cap') (D.length + 1) (lcells (D ++ [zent]))) (hg : (wr.alloc o).grownBy w5 (Value.slice ao D.length cap).ownBlock) :
    w5.cell? ⟨Y, 1, none⟩ = some (.slice ao D.length cap) ∧ w5.frozen? ⟨Y, 1, none⟩ = false ∧ PutS w (w5.setCell ⟨Y, 1, none⟩ (.slice ao' (D.length + 1) cap')) base Y J W H vb ao' cap' (D ++ [zent]) := by
  have hown : w5.ownsRow base 48 3 (.slice ao' (D.length + 1) cap') (D ++ [zent]).length (lcells (D ++ [zent])) := by rw [show (D ++ [zent]).length = D.length + 1 by simp]; exact hown0
  have h1 := h.exts ((Ext.refl wr).alloc o)
  have hlo5 : LO w5 base (.slice ao' (D.length + 1) cap') (D ++ [zent]) := h1.lo.app hown hg (Own.nil _ _ _ _) (fun p hp b hb => by simp [zent, Value.ownBlock])
  have hb5 := h1.blk.by (by decide) h1.lo hg
  have hl5 := h1.lev.byL (by have := h.low.1; omega) h1.lo hg
  have hr5 := h1.res.by (by decide) h1.lo hg
  have hx5 : Ext w w5 := h1.ext.grown hg h1.ext.size (fun k e => by
    have h3 := (World.ownsRow.lt h1.lo.own k e).1
    have h4 := h.low.1
    omega)
  have hg6 := grownBy_set w5 Y 1 (.slice ao' (D.length + 1) cap')
  have hl : (D ++ [zent]).length = D.length + 1 := by simp
  refine ⟨hb5.six.2.1, hb5.free 1, ⟨?_, ?_, ?_, ?_, h.low, ?_⟩⟩
  · have := hb5.set 1 (.slice ao' (D.length + 1) cap')
    rw [hl]
    simpa using this
  · rw [hl]
    exact hlo5.grown hb5 ⟨by decide, by decide⟩ hg6
  · exact hl5.other (r := Y) _ _ (by have := h.low.2; omega)
  · exact hr5.other (r := Y) _ _ (by have := h.low.2; omega)
  · exact below_grown hx5 hg6 hx5.size (by have := h.low.2; omega)

theorem pad_end {A : List Lev} {D : List Ent} {j k : Nat} (h : absL D = A ++ List.replicate j noLev) (hj : j = 0 ∨ D.length ≤ k + 1) (hk : k < D.length) : absL D = A ++ List.replicate (k + 1 - A.length) noLev := by
  have hl := congrArg List.length h
  rw [absL_len, List.length_append, List.length_replicate] at hl
  rw [h]
  congr 2
  omega

theorem ext_set3 {w w1 : World} {b : Nat} {x0 x1 x2 : Value} (h : Ext w w1) (hb : w.heap.size ≤ b) : Ext w (((w1.setCell ⟨b, 0, none⟩ x0).setCell ⟨b, 1, none⟩ x1).setCell ⟨b, 2, none⟩ x2) :=
  below_grown h (((grownBy_set _ _ _ _).trans (grownBy_set _ _ _ _)).trans (grownBy_set _ _ _ _)) h.size hb
theorem grown_set3 (w : World) (b : Nat) (x0 x1 x2 : Value) : w.grownBy (((w.setCell ⟨b, 0, none⟩ x0).setCell ⟨b, 1, none⟩ x1).setCell ⟨b, 2, none⟩ x2) (some b) := ((grownBy_set _ _ _ _).trans (grownBy_set _ _ _ _)).trans (grownBy_set _ _ _ _)
theorem Blk.put3 {w : World} {b : Nat} {o0 o1 o2 : Value} {t : TypeId} (h : Blk w b #[o0, o1, o2] t) (a0 a1 a2 : Value) :
    Blk (((w.setCell ⟨b, 0, none⟩ a0).setCell ⟨b, 1, none⟩ a1).setCell ⟨b, 2, none⟩ a2) b #[a0, a1, a2] t := by
  have h1 := ((h.set 0 a0).set 1 a1).set 2 a2
  simpa using h1
theorem grown_set3L (w : World) (b i : Nat) (x0 x1 x2 : Value) : w.grownBy (((w.setCell ⟨b, i, none⟩ x0).setCell ⟨b, i + 1, none⟩ x1).setCell ⟨b, i + 2, none⟩ x2) (some b) := ((grownBy_set _ _ _ _).trans (grownBy_set _ _ _ _)).trans (grownBy_set _ _ _ _)
theorem ext_1 (w : World) (o : Obj) : Ext w (w.alloc o).drew := ((Ext.refl w).alloc o).drew
theorem ext_0 (w : World) : Ext w w.drew := (Ext.refl w).drew
theorem blk_1 (w : World) (cs : Array Value) (t : TypeId) {w' : World} (hx : Ext (w.alloc (.cells cs t)).drew w') : Blk w' w.heap.size cs t := Blk.ext (w := (w.alloc (.cells cs t)).drew) (Blk.new w cs t) hx
theorem blk_0 (w : World) (cs : Array Value) (t : TypeId) {w' : World} (hx : Ext (w.alloc (.cells cs t)) w') : Blk w' w.heap.size cs t := (Blk.new w cs t).ext hx
theorem size8 : (Try.prog.info? 5).map (·.size) = some 1 := by kernel_rfl
/-- 'copy' into a part of a row of the call's own. -/
theorem copy_in {w : World} {base g n c : Nat} {xs ys : List Int} (ho : Own .u8 w base 5 (.slice (some ⟨g, 0, none⟩) n c) xs) (p : Nat) (hp : p + ys.length ≤ xs.length) {bo : Option Addr} {bcap : Nat} (hr : Row .u8 w (.slice bo ys.length bcap) ys) (hne : 0 < ys.length) (cap2 : Nat) :
    ∃ w', (∀ ty, (Builtin.copy_ #[27, 27] ty #[.slice (some ⟨g, p, none⟩) ys.length cap2, .slice bo ys.length bcap]).run Try.prog w = .ok (goInt ys.length) w') ∧ Own .u8 w' base 5 (.slice (some ⟨g, 0, none⟩) n c) (layB xs p ys) ∧ w.grownBy w' (some g) := by
  have hl : n = xs.length := by obtain ⟨_, _, e⟩ := ho.shape; cases e; rfl
  subst hl
  obtain ⟨hlen, hown⟩ := ho
  rcases hown with ⟨e, _⟩ | ⟨g2, c2, cur, e, hbase, hblk, hnc, hccm, hsz, hcur⟩
  · cases e
  cases e
  obtain ⟨b, off, rfl, hc⟩ := hr.at 0 hne
  simp only [Nat.mul_one] at hsz hcur
  have hl2 : (ys.map (Value.int .u8)).length = ys.length := by simp
  have hrun := fun ty => run_copy_row (P := Try.prog) w 27 27 ty 5 g p ys.length cap2 ⟨b, off, none⟩ ys.length bcap cur 5 (ys.map (Value.int .u8)) Try.underlying27 size8 hblk (by simp)
    (by
      refine Row.news fun i hi => ?_
      rw [hc i hi]
      simp [hi]) (by rw [hl2, hsz]; omega) (ints_oneCell _ _)
  rw [hl2] at hrun
  refine ⟨_, hrun, ?_, ⟨rfl, rfl, rfl, by simp [World.setRow], fun k _ hk => setRow_other w g k _ (fun e => hk (by rw [e]))⟩⟩
  have hnew := setRow_heap w g cur (cur.toList.take p ++ ys.map (Value.int .u8) ++ cur.toList.drop (p + ys.length)).toArray 5 (0, 0) hblk
  have hlb := layB_len hp
  refine ⟨by simp, .inr ⟨g, c, _, by rw [hlb], hbase, hnew, by rw [hlb]; exact hnc, hccm, ?_, ?_⟩⟩
  · simp
    omega
  · rw [hlb, Nat.mul_one]
    unfold layB
    have e1 : cur.toList.take p = (xs.take p).map (Value.int .u8) := by
      rw [List.map_take, ← hcur, List.take_take, Nat.min_eq_left (by omega)]
    have e2 : (cur.toList.drop (p + ys.length)).take (xs.length - (p + ys.length)) = (xs.drop (p + ys.length)).map (Value.int .u8) := by
      rw [List.map_drop, ← hcur, List.drop_take]
    simp only [List.map_append, List.append_assoc]
    rw [e1, ← e2]
    have l1 : ((xs.take p).map (Value.int .u8)).length = p := by simp; omega
    rw [← List.append_assoc, List.take_append, List.take_of_length_le (by rw [List.length_append, l1, hl2]; omega), List.length_append, l1, hl2, List.append_assoc]
theorem blk_neU {w : World} {b g base n c : Nat} {cs : Array Value} {t : TypeId} {xs : List Int} (h : Blk w b cs t) (ht : t ≠ 5) (ho : Own .u8 w base 5 (.slice (some ⟨g, 0, none⟩) n c) xs) : b ≠ g := by
  intro e
  rcases ho.2 with ⟨e1, _⟩ | ⟨g2, c2, cur, e1, _, hg2, _⟩
  · cases e1
  · injection e1 with e2 _ _
    cases e2
    rw [← e, show w.heap[b]? = some (.cells cs t (0, 0)) from h] at hg2
    simp at hg2
    exact ht hg2.2
theorem own_neB {w : World} {base g : Nat} {cs : Array Value} {u : Value} {xs : List Int} (hB : Blk w g cs 48) (h : Own .u8 w base 5 u xs) : ∀ b, u.ownBlock = some b → b ≠ g := own_ne (cur := cs) hB h
/-- How many levels an image in memory has. -/
def lenAt (w : World) (Y : Nat) : Nat := match w.cell? ⟨Y, 1, none⟩ with | some (.slice _ n _) => n | _ => 0
theorem lenAt_of {w : World} {Y n cap : Nat} {ao : Option Addr} (h : w.cell? ⟨Y, 1, none⟩ = some (.slice ao n cap)) : lenAt w Y = n := by unfold lenAt; rw [h]

section
variable {w : World} {v : Value} {L : List Ent} {I : Img}

set_option maxRecDepth 10000 in
set_option maxHeartbeats 1000000 in
theorem put_bad (h : LR w v L) (hL : L.length ≤ 1000) (hA : I.L = absL L) (lv f W H : Int) (bo : Option Addr) (bcap : Nat) (bs : List Int) (hr : Row .u8 w (.slice bo bs.length bcap) bs) (hE : putE I lv f W H bs.length ≠ 0) :
    Calls Try.prog 22 #[.agg #[.int .i64 I.f, v, .int .i64 I.ws, .int .i64 I.wt, .int .i64 I.mn, .int .i64 I.mg], .int .i64 lv, .int .i64 f, .agg #[.int .i64 W, .int .i64 H, .slice bo bs.length bcap]] w fun e w' => e = .returned (.tuple #[.agg #[.int .i64 0, .slice none 0 0, .int .i64 0, .int .i64 0, .int .i64 0, .int .i64 0], .int .i64 (putE I lv f W H bs.length)]) ∧ Ext w w' := by
  obtain ⟨ao, cap, rfl, hao, hlc, hcm, _⟩ := h.shape
  have hcm2 : cap ≤ 9223372036854775807 := by unfold maxLen at hcm; omega
  obtain ⟨_, _, _, _, hb1, hb2⟩ := hr.shape
  have hbn : bs.length ≤ 9223372036854775807 := by unfold maxLen at hb2; omega
  have HH := hide h
  have HA := hide hA
  have hX1 := (((Ext.refl w).alloc (.cells #[.int .i64 I.f, .slice ao L.length cap, .int .i64 I.ws, .int .i64 I.wt, .int .i64 I.mn, .int .i64 I.mg] 24)).alloc (.cells #[.int .i64 W, .int .i64 H, .slice bo bs.length bcap] 48)).alloc (.cells #[.int .i64 0, .slice none 0 0, .int .i64 0, .int .i64 0, .int .i64 0, .int .i64 0] 24)
  have hR1 : Blk (((w.alloc (.cells #[.int .i64 I.f, .slice ao L.length cap, .int .i64 I.ws, .int .i64 I.wt, .int .i64 I.mn, .int .i64 I.mg] 24)).alloc (.cells #[.int .i64 W, .int .i64 H, .slice bo bs.length bcap] 48)).alloc (.cells #[.int .i64 0, .slice none 0 0, .int .i64 0, .int .i64 0, .int .i64 0, .int .i64 0] 24)) (w.heap.size + 1 + 1) #[.int .i64 0, .slice none 0 0, .int .i64 0, .int .i64 0, .int .i64 0, .int .i64 0] 24 := Blk.at (by simp)
  have H1 := hide (And.intro hX1 hR1)
  have hne : (putE I lv f W H bs.length != 0) = true := by rw [bne_iff_ne]; exact hE
  clear h hA hao hcm hX1 hR1 hE hr hb1 hb2
  go_enter Try.func22, Try.ntmps22
  go_wp2_with fail
  refine (putRefusal_any (I := I) ((unhide HH).ext (unhide H1).1) hL (unhide HA) lv f W H bo bs.length bcap hbn).mono ?_
  rintro e w2 ⟨rfl, hx2⟩
  have hR2 := (unhide H1).2.ext hx2
  have hX2 := (unhide H1).1.trans hx2
  obtain ⟨p0, p1, p2, p3, p4, p5⟩ := hR2.six
  obtain ⟨f0, f1, f2, f3, f4, f5⟩ := hR2.frees
  have hB7 := hR2.put6 (.int .i64 0) (.slice none 0 0) (.int .i64 0) (.int .i64 0) (.int .i64 0) (.int .i64 0)
  have hg7 := grown_put6 w2 (w.heap.size + 1 + 1) (.int .i64 0) (.slice none 0 0) (.int .i64 0) (.int .i64 0) (.int .i64 0) (.int .i64 0)
  have hX7 : Ext w _ := below_grown hX2 hg7 hX2.size (by omega)
  have H7 := hide (And.intro hB7 hX7)
  clear hR2 hX2 hB7 hg7 hX7 hx2
  go_wp2
  obtain ⟨r0, r1, r2, r3, r4, r5⟩ := (unhide H7).1.six
  refine bodyPost_ret (v := .tuple #[.agg #[.int .i64 0, .slice none 0 0, .int .i64 0, .int .i64 0, .int .i64 0, .int .i64 0], .int .i64 (putE I lv f W H bs.length)]) (by simp [results, Try.results22, go_sem, r0, r1, r2, r3, r4, r5]) rfl ?_
  exact ⟨rfl, (unhide H7).2⟩

set_option maxRecDepth 10000 in
set_option maxHeartbeats 4000000 in
theorem put_good (h : LR w v L) (hL : L.length ≤ 1000) (hA : I.L = absL L) (hbL : ∀ p ∈ L, p.2.2.2.length ≤ 140737488355328) (k : Nat) (f : Int) (W H s : Nat) (bo : Option Addr) (bcap : Nat) (bs : List Int) (hr : Row .u8 w (.slice bo bs.length bcap) bs)
    (hE : putE I k f W H bs.length = 0) (hk : k < 7) (hW : 1 ≤ W ∧ W ≤ 64) (hH : 1 ≤ H ∧ H ≤ 64) (hs : sizI f = (s : Int)) (hbs : bs.length = 0 ∨ bs.length = W * H * s) (A0 : List Lev) (hA0 : A0 = if f = I.f then I.L else []) :
    Calls Try.prog 22 #[.agg #[.int .i64 I.f, v, .int .i64 I.ws, .int .i64 I.wt, .int .i64 I.mn, .int .i64 I.mg], .int .i64 (k : Int), .int .i64 f, .agg #[.int .i64 (W : Int), .int .i64 (H : Int), .slice bo bs.length bcap]] w fun e w' => ∃ ao cap L', e = .returned (.tuple #[.agg #[.int .i64 f, .slice ao L'.length cap, .int .i64 I.ws, .int .i64 I.wt, .int .i64 I.mn, .int .i64 I.mg], .int .i64 0]) ∧
      LO w' w.heap.size (.slice ao L'.length cap) L' ∧ absL L' = putL A0 k (W, H, fillB (W * H * s) bs) ∧ Ext w w' := by
  obtain ⟨ao, cap, rfl, hao, hlc, hcm, _⟩ := h.shape
  have hcm2 : cap ≤ 9223372036854775807 := by unfold maxLen at hcm; omega
  obtain ⟨_, _, _, _, hb1, hb2⟩ := hr.shape
  have hbn : bs.length ≤ 9223372036854775807 := by unfold maxLen at hb2; omega
  have hs4 : s ≤ 4 := by have := siz_bd f; omega
  have HH := hide h
  have HA := hide hA
  have HBL := hide hbL
  have HR := hide hr
  have HS := hide hs
  have HBS := hide hbs
  have HA0 := hide hA0
  have hX1 := (((Ext.refl w).alloc (.cells #[.int .i64 I.f, .slice ao L.length cap, .int .i64 I.ws, .int .i64 I.wt, .int .i64 I.mn, .int .i64 I.mg] 24)).alloc (.cells #[.int .i64 (W : Int), .int .i64 (H : Int), .slice bo bs.length bcap] 48)).alloc (.cells #[.int .i64 0, .slice none 0 0, .int .i64 0, .int .i64 0, .int .i64 0, .int .i64 0] 24)
  have hB1 := ((Blk.new w #[.int .i64 I.f, .slice ao L.length cap, .int .i64 I.ws, .int .i64 I.wt, .int .i64 I.mn, .int .i64 I.mg] 24).alloc (.cells #[.int .i64 (W : Int), .int .i64 (H : Int), .slice bo bs.length bcap] 48)).alloc (.cells #[.int .i64 0, .slice none 0 0, .int .i64 0, .int .i64 0, .int .i64 0, .int .i64 0] 24)
  have hP1 : Blk (((w.alloc (.cells #[.int .i64 I.f, .slice ao L.length cap, .int .i64 I.ws, .int .i64 I.wt, .int .i64 I.mn, .int .i64 I.mg] 24)).alloc (.cells #[.int .i64 (W : Int), .int .i64 (H : Int), .slice bo bs.length bcap] 48)).alloc (.cells #[.int .i64 0, .slice none 0 0, .int .i64 0, .int .i64 0, .int .i64 0, .int .i64 0] 24)) (w.heap.size + 1) #[.int .i64 (W : Int), .int .i64 (H : Int), .slice bo bs.length bcap] 48 := (Blk.at (by simp)).alloc _
  have hR1 : Blk (((w.alloc (.cells #[.int .i64 I.f, .slice ao L.length cap, .int .i64 I.ws, .int .i64 I.wt, .int .i64 I.mn, .int .i64 I.mg] 24)).alloc (.cells #[.int .i64 (W : Int), .int .i64 (H : Int), .slice bo bs.length bcap] 48)).alloc (.cells #[.int .i64 0, .slice none 0 0, .int .i64 0, .int .i64 0, .int .i64 0, .int .i64 0] 24)) (w.heap.size + 1 + 1) #[.int .i64 0, .slice none 0 0, .int .i64 0, .int .i64 0, .int .i64 0, .int .i64 0] 24 := Blk.at (by simp)
  have H1 := hide (And.intro hX1 (And.intro hB1 (And.intro hP1 hR1)))
  have HE := hide hE
  clear h hA hbL hao hcm hX1 hB1 hP1 hR1 hE hr hb1 hb2 hs hbs hA0
  go_enter Try.func22, Try.ntmps22
  go_wp2_with fail
  refine (putRefusal_any (I := I) ((unhide HH).ext (unhide H1).1) hL (unhide HA) k f W H bo bs.length bcap hbn).mono ?_
  rintro e w2 ⟨rfl, hx2⟩
  rw [unhide HE]
  have H2 := hide (And.intro ((unhide H1).1.trans hx2) (And.intro ((unhide H1).2.1.ext hx2) (And.intro ((unhide H1).2.2.1.ext hx2) ((unhide H1).2.2.2.ext hx2))))
  clear H1 hx2
  obtain ⟨q0, q1, q2, q3, q4, q5⟩ := (unhide H2).2.1.six
  have hsz2 := (unhide H2).2.2.2.lt
  go_wp2_with fail
  refine (duplicate_any (I := I) ((unhide HH).ext (unhide H2).1) (by omega) (unhide HBL)).mono ?_
  rintro e w3 ⟨ao3, cap3, D0, rfl, hlo3, habs3, hx3⟩
  have hP0 : PutS w (w3.alloc (.cells #[.int .i64 I.f, .slice ao3 D0.length cap3, .int .i64 I.ws, .int .i64 I.wt, .int .i64 I.mn, .int .i64 I.mg] 24)) w2.heap.size w3.heap.size I W H (.slice bo bs.length bcap) ao3 cap3 D0 :=
    ⟨Blk.new _ _ _, hlo3.ext ((Ext.refl w3).alloc _), ((unhide H2).2.2.1.ext hx3).alloc _, ((unhide H2).2.2.2.ext hx3).alloc _, ⟨by omega, by have := hx3.size; omega⟩, ((unhide H2).1.trans hx3).alloc _⟩
  have hq0 := (((unhide H2).2.1.ext hx3).alloc (.cells #[.int .i64 I.f, .slice ao3 D0.length cap3, .int .i64 I.ws, .int .i64 I.wt, .int .i64 I.mn, .int .i64 I.mg] 24)).six.1
  have HP0 := hide hP0
  have HABS := hide habs3
  have hlow3 : w2.heap.size ≤ w3.heap.size := hx3.size
  clear hlo3 habs3 hx3 hP0 q0 q1 q2 q3 q4 q5
  have hcase : ((f != I.f) = false ∧ f = I.f) ∨ ((f != I.f) = true ∧ f ≠ I.f) := by
    by_cases hf : f = I.f
    · exact .inl ⟨by simp [hf], hf⟩
    · exact .inr ⟨by simp [hf], hf⟩
  rcases hcase with ⟨bf, hf⟩ | ⟨bf, hf⟩
  · subst hf
    have HAA : Hid (A0 = absL D0) := by
      show _ = _
      rw [unhide HA0, if_pos rfl, unhide HA, unhide HABS]
    have hD9 : D0.length ≤ 1000 := by
      have h5 := congrArg List.length (unhide HABS)
      rw [absL_len, absL_len] at h5
      omega
    have HP1 := HP0
    clear HP0 HA0
    go_wp2_with fail
    generalize w3.alloc (.cells #[.int .i64 I.f, .slice ao3 D0.length cap3, .int .i64 I.ws, .int .i64 I.wt, .int .i64 I.mn, .int .i64 I.mg] 24) = w4 at HP1 hq0 ⊢
    clear hq0 bf
    have HS' := HS
    go_loopw [31] (fun _ wr => ∃ (j : Nat) (ao : Option Addr) (cap : Nat) (D : List Ent), absL D = absL D0 ++ List.replicate j noLev ∧ (j = 0 ∨ D.length ≤ k + 1) ∧ D.length ≤ 1010 ∧ PutS w wr w2.heap.size w3.heap.size I W H (.slice bo bs.length bcap) ao cap D) (fun _ wr => k + 1 - lenAt wr w3.heap.size)
    case atStart => exact ⟨0, ao3, cap3, D0, by simp, .inl rfl, by omega, unhide HP1⟩
    case round =>
      clear HP1
      obtain ⟨j, ao5, cap5, D, habs, hj, hDl, hS⟩ := hrel
      have q1 := hS.blk.six.2.1
      have hla := lenAt_of q1
      have HLA := hide hla
      have HS := hide hS
      have hsz := hS.ext.size
      clear hla
      by_cases hlt : D.length ≤ k
      · have hlt2 : (D.length : Int) ≤ (k : Int) := by omega
        have HABJ := hide (And.intro habs hj)
        have HO := hide (hS.lo.ext ((Ext.refl wr).alloc (.cells #[.int .i64 0, .int .i64 0, .slice none 0 0] 48))).own
        clear hS habs hj
        go_wp2_with (at_builtin; refine wpList_append_lev rfl (.tmp 37) (.tmp 39) rfl w2.heap.size _ D zent rfl (unhide HO) wr.heap.size 1 rfl 48 (Blk.new _ _ _) rfl (by omega) ?b1 ?_)
        case b1 =>
          have h5 := (unhide HS).blk.lt
          have h6 := (unhide HS).low.1
          simp
          omega
        intro ao6 cap6 w5 hown5 hg5
        obtain ⟨c1, f1, hS5⟩ := (unhide HS).more hown5 hg5
        have HS5 := hide hS5
        have HL5 := hide (lenAt_of hS5.blk.six.2.1)
        clear hown5 hg5 hS5
        go_wp2
        go_roundw
        case rel =>
          obtain ⟨ha, hj⟩ := unhide HABJ
          refine ⟨j + 1, ao6, cap6, D ++ [zent], ?_, .inr (by simp; omega), by simp; omega, ?_⟩
          · rw [absL_append, ha, List.append_assoc, List.replicate_succ']
            rfl
          · exact unhide HS5
        case measure =>
          have e1 := unhide HLA
          have e2 := unhide HL5
          simp at e2
          rw [e1, e2]
          omega
      · have hlt2 : ¬ (D.length : Int) ≤ (k : Int) := by omega
        have hpad := pad_end habs hj (by omega)
        have HPAD := hide hpad
        clear habs hj hpad
        obtain ⟨l0, l1, l2⟩ := hS.lev.three
        have HCL : Hid (∀ wx, Ext wr wx → wx.cell? ⟨w.heap.size + 1, 0, none⟩ = some (.int .i64 (W : Int)) ∧ wx.cell? ⟨w.heap.size + 1, 1, none⟩ = some (.int .i64 (H : Int))) := fun wx hx => by
          obtain ⟨a, b, c⟩ := (hS.lev.ext hx).three
          exact ⟨a, b⟩
        clear hS
        go_wp2_with fail
        have HSZ : Hid (∀ wx, Calls Try.prog 25 #[.int .i64 I.f] wx fun e w' => e = .returned (.int .i64 (s : Int)) ∧ Ext wx w') := fun wx => by rw [← unhide HS']; exact size_any I.f wx
        go_cut [12] (fun p wc => ∃ r g, p = .pointer (some ⟨r, 0, none⟩) ∧ Blk wc r #[.int .i64 (W : Int), .int .i64 (H : Int), .slice (some ⟨g, 0, none⟩) (W * H * s) (W * H * s)] 48 ∧ Own .u8 wc wr.heap.size 5 (.slice (some ⟨g, 0, none⟩) (W * H * s) (W * H * s)) (List.replicate (W * H * s) 0) ∧ wr.heap.size ≤ r ∧ Ext wr wc)
        case first =>
          go_region_held3 (fun w' => w'.cell? ⟨w.heap.size + 1, 0, none⟩ = some (.int .i64 (W : Int)) ∧ w'.cell? ⟨w.heap.size + 1, 1, none⟩ = some (.int .i64 (H : Int)))
            (first | with_reducible exact unhide HCL _ bx | with_reducible exact unhide HCL _ (bx.alloc _) | with_reducible exact unhide HCL _ (ext_0 wr) | with_reducible exact unhide HCL _ (ext_1 wr _) | with_reducible exact unhide HCL _ (ext_set3 bx (by omega)))
            (first
              | (go_at_call 25; refine (unhide HSZ _).mono ?_; rintro e ws ⟨rfl, hxs⟩; have bx : Ext wr ws := (by first | with_reducible exact (ext_0 wr).trans hxs | exact (ext_1 wr _).trans hxs); have szs := bx.size; (first | (have RB := hide (blk_1 wr _ _ hxs); obtain ⟨r0, r1, r2⟩ := (unhide RB).three; obtain ⟨z0, z1, z2, _⟩ := (unhide RB).frees) | skip))
              | (go_at_call 46; refine (blank_any W H s (by omega) (by omega) hs4 _).mono ?_; rintro e wb ⟨g, rfl, hob, hxb⟩; have bx : Ext wr wb := (by first | with_reducible exact bx.trans hxb | exact (bx.alloc _).trans hxb); have szb := bx.size; have hob2 := hide (hob.lower (b2 := wr.heap.size) (by first | exact szs | (simp; omega))); clear hob; (first | (have RB := hide ((unhide RB).ext hxb); obtain ⟨r0, r1, r2⟩ := (unhide RB).three; obtain ⟨z0, z1, z2, _⟩ := (unhide RB).frees) | (have RB := hide (blk_0 _ _ _ hxb); obtain ⟨r0, r1, r2⟩ := (unhide RB).three; obtain ⟨z0, z1, z2, _⟩ := (unhide RB).frees) | skip)))
          all_goals go_wp2
          all_goals go_meet
          all_goals
            refine ⟨_, g, rfl, ?gb, ?go, ?gl, ?gx⟩
            case gb => first | (with_reducible exact Blk.new _ _ _) | (with_reducible exact (unhide RB).put3 _ _ _)
            case go => first | (with_reducible exact (unhide hob2).alloc _) | (with_reducible exact (unhide hob2).grown (grown_set3 _ _ _ _ _) (own_neB (unhide RB) (unhide hob2)))
            case gl => omega
            case gx => first | (with_reducible exact bx.alloc _) | (with_reducible exact ext_set3 bx (by omega))
        case rest =>
        obtain ⟨r, g, rfl, hPB, hPO, hrl, hx6⟩ := hcut
        rename_i wc
        have hS6 := (unhide HS).exts hx6
        obtain ⟨l0, l1, l2⟩ := hS6.lev.three
        obtain ⟨p0, p1, p2⟩ := hPB.three
        have hR6 := (unhide HR).ext hS6.ext
        -- what the copy comes to
        have hcopy : ∃ w7, (∀ ty, (Builtin.copy_ #[27, 27] ty #[.slice (some ⟨g, 0, none⟩) (W * H * s) (W * H * s), .slice bo bs.length bcap]).run Try.prog wc = .ok (goInt bs.length) w7) ∧ Own .u8 w7 wr.heap.size 5 (.slice (some ⟨g, 0, none⟩) (W * H * s) (W * H * s)) (fillB (W * H * s) bs) ∧ wc.grownBy w7 (some g) := by
          by_cases h0 : bs.length = 0
          · refine ⟨wc, fun ty => ?_, ?_, World.grownBy.refl _ _⟩
            · have := run_copy_none (P := Try.prog) wc 27 27 ty 5 (some ⟨g, 0, none⟩) bo (W * H * s) (W * H * s) bs.length bcap Try.underlying27 size8 (by simp [h0])
              rw [h0] at this ⊢
              exact this
            · unfold fillB
              rw [if_pos h0]
              exact hPO
          · have hn : bs.length = W * H * s := by
              rcases unhide HBS with h | h
              · exact absurd h h0
              · exact h
            have h5 := copy_in hPO 0 (ys := bs) (by simp [hn]) hR6 (by omega) (W * H * s)
            obtain ⟨w7, c1, c2, c3⟩ := h5
            rw [hn] at c1 ⊢
            refine ⟨w7, c1, ?_, c3⟩
            have e : layB (List.replicate (W * H * s) 0) 0 bs = fillB (W * H * s) bs := by
              unfold layB fillB
              rw [if_neg h0]
              simp [hn]
            rw [← e]
            exact c2
        obtain ⟨w7, hrun, hPO7, hg7⟩ := hcopy
        simp only [goInt] at hrun
        -- the blocks behind it
        have hng : ∀ {b : Nat} {cs : Array Value} {t : TypeId}, Blk wc b cs t → t ≠ 5 → Blk w7 b cs t := fun {b cs t} hb ht => hb.grown hg7 (blk_neU hb ht hPO)
        have hgr : wr.heap.size ≤ g := (hPO.lt g rfl).1
        have hLO7 : LO w7 w2.heap.size (.slice ao5 D.length cap5) D := by
          obtain ⟨gL, cur, eL, _, hbL2, hcur⟩ := hS6.lo.blk (by omega)
          subst eL
          have hcur7 : w7.heap[gL]? = some (.cells cur 48 (0, 0)) := hng (b := gL) hcur (by decide)
          refine ⟨World.ownsRow.kept hS6.lo.own hg7 (.inr fun e => ?_), fun p hp => (hS6.lo.bys p hp).grown hg7 fun b hb e => ?_, hS6.lo.alone⟩
          · simp [Value.ownBlock] at e
            subst e
            exact absurd hcur (own_ne hcur hPO gL rfl rfl).elim
          · have h9 := (((unhide HS).lo.bys p hp).lt b hb).2
            omega
        have hX7 : Ext w w7 := below_grown hS6.ext hg7 hS6.ext.size (by have := (unhide HS).ext.size; omega)
        have hS7 : PutS w w7 w2.heap.size w3.heap.size I W H (.slice bo bs.length bcap) ao5 cap5 D := ⟨hng hS6.blk (by decide), hLO7, hng hS6.lev (by decide), hng hS6.res (by decide), hS6.low, hX7⟩
        have hPB7 := hng hPB (by decide)
        have hnew : ∀ p ∈ D, ∀ b, p.2.2.1.ownBlock = some b → (Value.slice (some ⟨g, 0, none⟩) (W * H * s) (W * H * s)).ownBlock ≠ some b := fun p hp b hb e => by
          have h9 := (((unhide HS).lo.bys p hp).lt b hb).2
          simp [Value.ownBlock] at e
          omega
        have H7 := hide (And.intro hS7 (And.intro hPO7 (And.intro hgr hnew)))
        have u1 := hS7.blk.six.2.1
        obtain ⟨p0', p1', p2'⟩ := hPB7.three
        obtain ⟨gL, cur, eL, _, hbL2, hcur⟩ := hS7.lo.blk (by omega)
        subst eL
        have hkD : k < D.length := by omega
        obtain ⟨bx, offx, box, bcapx, e1, ebx, c0, c1, c2, _⟩ := hS7.lo.lr.at k hkD
        cases e1
        simp only [Nat.zero_add] at c0 c1 c2
        have z0 := World.ownsRow.frozenAt hS7.lo.own (k * 3)
        have z1 := World.ownsRow.frozenAt hS7.lo.own (k * 3 + 1)
        have z2 := World.ownsRow.frozenAt hS7.lo.own (k * 3 + 2)
        have hkD2 : (k : Int) < (D.length : Int) := by omega
        have hDc : D.length ≤ cap5 ∧ cap5 ≤ 9223372036854775807 := by
          obtain ⟨_, _, e9, _, h9, h10⟩ := hS7.lo.cut
          cases e9
          unfold maxLen at h10
          exact ⟨h9, by omega⟩
        obtain ⟨hDc1, hDc2⟩ := hDc
        -- the level set
        have hsplit : D = D.take k ++ D[k] :: D.drop (k + 1) := by rw [← List.drop_eq_getElem_cons hkD, List.take_append_drop]
        have hlt : (D.take k).length = k := by simp; omega
        have hset := LO.setAt (w := w7) (base := w2.heap.size) (g := gL) (n := D.length) (cap := cap5) (A := D.take k) (x := D[k]) (B := D.drop (k + 1)) (by rw [← hsplit]; exact hS7.lo) ((W : Int), (H : Int), .slice (some ⟨g, 0, none⟩) (W * H * s) (W * H * s), fillB (W * H * s) bs) (hPO7.lower (by have := (unhide HS).lo; have := (unhide HS).blk.lt; omega))
          (fun p hp b hb => hnew p (by
            rcases List.mem_append.1 hp with hp | hp
            · exact List.mem_of_mem_take hp
            · exact List.mem_of_mem_drop hp) b hb)
        rw [hlt] at hset
        simp only at hset
        have hg8 := grown_set3L w7 gL (k * 3) (.int .i64 (W : Int)) (.int .i64 (H : Int)) (.slice (some ⟨g, 0, none⟩) (W * H * s) (W * H * s))
        have hY8 := hS7.blk.grown hg8 (blk_ne hS7.blk (by decide) hcur)
        have hR8 := hS7.res.grown hg8 (blk_ne hS7.res (by decide) hcur)
        have hX8 : Ext w _ := below_grown hS7.ext hg8 hS7.ext.size (by have := hS7.low.1; omega)
        have hlen8 : (D.take k ++ ((W : Int), (H : Int), Value.slice (some ⟨g, 0, none⟩) (W * H * s) (W * H * s), fillB (W * H * s) bs) :: D.drop (k + 1)).length = D.length := by simp; omega
        have hab8 : absL (D.take k ++ ((W : Int), (H : Int), Value.slice (some ⟨g, 0, none⟩) (W * H * s) (W * H * s), fillB (W * H * s) bs) :: D.drop (k + 1)) = putL A0 k (W, H, fillB (W * H * s) bs) := by
          unfold putL
          rw [unhide HAA, ← unhide HPAD]
          have hkA : k < (absL D).length := by rw [absL_len]; exact hkD
          rw [List.set_eq_take_append_cons_drop, if_pos hkA]
          unfold absL
          rw [List.map_append, List.map_take, List.map_cons, List.map_drop]
          rfl
        generalize hD8 : (D.take k ++ ((W : Int), (H : Int), Value.slice (some ⟨g, 0, none⟩) (W * H * s) (W * H * s), fillB (W * H * s) bs) :: D.drop (k + 1)) = D8 at hset hlen8 hab8
        clear hD8
        have H8 := hide (And.intro hset (And.intro hY8 (And.intro hR8 (And.intro hX8 (And.intro hlen8 hab8)))))
        clear hset hY8 hR8 hX8 hlen8 hab8 hg8 hsplit hlt hS7 hPB7 hnew hX7 hLO7 hng hg7 hPO7 hS6 hR6 hPB hPO hx6 hcur ebx HCL hbL2
        go_upto_region 12 with fail
        generalize ((w7.setCell ⟨gL, k * 3, none⟩ (.int .i64 (W : Int))).setCell ⟨gL, k * 3 + 1, none⟩ (.int .i64 (H : Int))).setCell ⟨gL, k * 3 + 2, none⟩ (.slice (some ⟨g, 0, none⟩) (W * H * s) (W * H * s)) = w8 at H8 ⊢
        clear hrun p0 p1 p2 p0' p1' p2' c0 c1 c2 z0 z1 z2 u1 l0 l1 l2
        obtain ⟨hset, hY8, hR8, hX8, hlen8, hab8⟩ := unhide H8
        clear H8
        obtain ⟨q0, q1, q2, q3, q4, q5⟩ := hY8.six
        obtain ⟨p0, p1, p2, p3, p4, p5⟩ := hR8.six
        obtain ⟨f0, f1, f2, f3, f4, f5⟩ := hR8.frees
        have hB9 := hR8.put6 (.int .i64 I.f) (.slice (some ⟨gL, 0, none⟩) D.length cap5) (.int .i64 I.ws) (.int .i64 I.wt) (.int .i64 I.mn) (.int .i64 I.mg)
        have hg9 := grown_put6 w8 (w.heap.size + 1 + 1) (.int .i64 I.f) (.slice (some ⟨gL, 0, none⟩) D.length cap5) (.int .i64 I.ws) (.int .i64 I.wt) (.int .i64 I.mn) (.int .i64 I.mg)
        have hL9 := (hset.grown hR8 ⟨by decide, by decide⟩ hg9).lower (b2 := w.heap.size) (by omega)
        have hX9 : Ext w _ := below_grown hX8 hg9 hX8.size (by omega)
        have H9 := hide (And.intro hB9 (And.intro hL9 (And.intro hX9 (And.intro hlen8 hab8))))
        clear hset hY8 hR8 hX8 hlen8 hab8 hB9 hg9 hL9 hX9
        go_wp2
        obtain ⟨hB9, hL9, hX9, hlen8, hab8⟩ := unhide H9
        obtain ⟨r0, r1, r2, r3, r4, r5⟩ := hB9.six
        refine bodyPost_ret (v := .tuple #[.agg #[.int .i64 I.f, .slice (some ⟨gL, 0, none⟩) D.length cap5, .int .i64 I.ws, .int .i64 I.wt, .int .i64 I.mn, .int .i64 I.mg], .int .i64 0]) (by simp [results, Try.results22, go_sem, r0, r1, r2, r3, r4, r5]) rfl ?_
        exact ⟨some ⟨gL, 0, none⟩, cap5, D8, by rw [hlen8], by rw [hlen8]; exact hL9, hab8, hX9⟩
  · have HP1 : Hid (PutS w (w3.alloc (.cells #[.int .i64 f, .slice none 0 0, .int .i64 I.ws, .int .i64 I.wt, .int .i64 I.mn, .int .i64 I.mg] 24)) w2.heap.size w3.heap.size ⟨f, I.L, I.ws, I.wt, I.mn, I.mg⟩ W H (.slice bo bs.length bcap) none 0 []) := by
      have h0 := unhide HP0
      have hx3 : Ext w w3 := by
        refine ⟨h0.ext.os, h0.ext.tape, h0.ext.output, ?_, fun i hi => ?_⟩
        · omega
        · have h5 := h0.ext.block i hi
          rw [heap_alloc_old w3 _ (by omega)] at h5
          exact h5
      have hl : w.heap.size + 3 ≤ w3.heap.size := h0.low.2
      refine ⟨Blk.new _ _ _, LO.nil _ _, ?_, ?_, h0.low, hx3.alloc _⟩
      · have h5 := h0.lev
        unfold Blk at h5 ⊢
        rw [heap_alloc_old w3 _ (by omega)] at h5 ⊢
        exact h5
      · have h5 := h0.res
        unfold Blk at h5 ⊢
        rw [heap_alloc_old w3 _ (by omega)] at h5 ⊢
        exact h5
    have HAA : Hid (A0 = absL []) := by
      show _ = _
      rw [unhide HA0, if_neg hf]
      rfl
    clear HP0 hf HA0
    go_wp2_with fail
    obtain ⟨D0, hD0⟩ : ∃ D0 : List Ent, D0 = [] := ⟨_, rfl⟩
    generalize w3.alloc (.cells #[.int .i64 f, .slice none 0 0, .int .i64 I.ws, .int .i64 I.wt, .int .i64 I.mn, .int .i64 I.mg] 24) = w4 at HP1 hq0 ⊢
    obtain ⟨ao3, hao3⟩ : ∃ a : Option Addr, a = none := ⟨_, rfl⟩
    obtain ⟨cap3, hcap3⟩ : ∃ a : Nat, a = 0 := ⟨_, rfl⟩
    have hD9 : D0.length ≤ 1000 := by rw [hD0]; simp
    rw [← hD0] at HAA HP1
    rw [← hao3, ← hcap3] at HP1
    clear hq0 hD0 hao3 hcap3 bf
    have HS' := HS
    go_loopw [31] (fun _ wr => ∃ (j : Nat) (ao : Option Addr) (cap : Nat) (D : List Ent), absL D = absL D0 ++ List.replicate j noLev ∧ (j = 0 ∨ D.length ≤ k + 1) ∧ D.length ≤ 1010 ∧ PutS w wr w2.heap.size w3.heap.size ⟨f, I.L, I.ws, I.wt, I.mn, I.mg⟩ W H (.slice bo bs.length bcap) ao cap D) (fun _ wr => k + 1 - lenAt wr w3.heap.size)
    case atStart => exact ⟨0, ao3, cap3, D0, by simp, .inl rfl, by omega, unhide HP1⟩
    case round =>
      clear HP1
      obtain ⟨j, ao5, cap5, D, habs, hj, hDl, hS⟩ := hrel
      have q1 := hS.blk.six.2.1
      have hla := lenAt_of q1
      have HLA := hide hla
      have HS := hide hS
      have hsz := hS.ext.size
      clear hla
      by_cases hlt : D.length ≤ k
      · have hlt2 : (D.length : Int) ≤ (k : Int) := by omega
        have HABJ := hide (And.intro habs hj)
        have HO := hide (hS.lo.ext ((Ext.refl wr).alloc (.cells #[.int .i64 0, .int .i64 0, .slice none 0 0] 48))).own
        clear hS habs hj
        go_wp2_with (at_builtin; refine wpList_append_lev rfl (.tmp 37) (.tmp 39) rfl w2.heap.size _ D zent rfl (unhide HO) wr.heap.size 1 rfl 48 (Blk.new _ _ _) rfl (by omega) ?b1 ?_)
        case b1 =>
          have h5 := (unhide HS).blk.lt
          have h6 := (unhide HS).low.1
          simp
          omega
        intro ao6 cap6 w5 hown5 hg5
        obtain ⟨c1, f1, hS5⟩ := (unhide HS).more hown5 hg5
        have HS5 := hide hS5
        have HL5 := hide (lenAt_of hS5.blk.six.2.1)
        clear hown5 hg5 hS5
        go_wp2
        go_roundw
        case rel =>
          obtain ⟨ha, hj⟩ := unhide HABJ
          refine ⟨j + 1, ao6, cap6, D ++ [zent], ?_, .inr (by simp; omega), by simp; omega, ?_⟩
          · rw [absL_append, ha, List.append_assoc, List.replicate_succ']
            rfl
          · exact unhide HS5
        case measure =>
          have e1 := unhide HLA
          have e2 := unhide HL5
          simp at e2
          rw [e1, e2]
          omega
      · have hlt2 : ¬ (D.length : Int) ≤ (k : Int) := by omega
        have hpad := pad_end habs hj (by omega)
        have HPAD := hide hpad
        clear habs hj hpad
        obtain ⟨l0, l1, l2⟩ := hS.lev.three
        have HCL : Hid (∀ wx, Ext wr wx → wx.cell? ⟨w.heap.size + 1, 0, none⟩ = some (.int .i64 (W : Int)) ∧ wx.cell? ⟨w.heap.size + 1, 1, none⟩ = some (.int .i64 (H : Int))) := fun wx hx => by
          obtain ⟨a, b, c⟩ := (hS.lev.ext hx).three
          exact ⟨a, b⟩
        clear hS
        go_wp2_with fail
        have HSZ : Hid (∀ wx, Calls Try.prog 25 #[.int .i64 f] wx fun e w' => e = .returned (.int .i64 (s : Int)) ∧ Ext wx w') := fun wx => by rw [← unhide HS']; exact size_any f wx
        go_cut [12] (fun p wc => ∃ r g, p = .pointer (some ⟨r, 0, none⟩) ∧ Blk wc r #[.int .i64 (W : Int), .int .i64 (H : Int), .slice (some ⟨g, 0, none⟩) (W * H * s) (W * H * s)] 48 ∧ Own .u8 wc wr.heap.size 5 (.slice (some ⟨g, 0, none⟩) (W * H * s) (W * H * s)) (List.replicate (W * H * s) 0) ∧ wr.heap.size ≤ r ∧ Ext wr wc)
        case first =>
          go_region_held3 (fun w' => w'.cell? ⟨w.heap.size + 1, 0, none⟩ = some (.int .i64 (W : Int)) ∧ w'.cell? ⟨w.heap.size + 1, 1, none⟩ = some (.int .i64 (H : Int)))
            (first | with_reducible exact unhide HCL _ bx | with_reducible exact unhide HCL _ (bx.alloc _) | with_reducible exact unhide HCL _ (ext_0 wr) | with_reducible exact unhide HCL _ (ext_1 wr _) | with_reducible exact unhide HCL _ (ext_set3 bx (by omega)))
            (first
              | (go_at_call 25; refine (unhide HSZ _).mono ?_; rintro e ws ⟨rfl, hxs⟩; have bx : Ext wr ws := (by first | with_reducible exact (ext_0 wr).trans hxs | exact (ext_1 wr _).trans hxs); have szs := bx.size; (first | (have RB := hide (blk_1 wr _ _ hxs); obtain ⟨r0, r1, r2⟩ := (unhide RB).three; obtain ⟨z0, z1, z2, _⟩ := (unhide RB).frees) | skip))
              | (go_at_call 46; refine (blank_any W H s (by omega) (by omega) hs4 _).mono ?_; rintro e wb ⟨g, rfl, hob, hxb⟩; have bx : Ext wr wb := (by first | with_reducible exact bx.trans hxb | exact (bx.alloc _).trans hxb); have szb := bx.size; have hob2 := hide (hob.lower (b2 := wr.heap.size) (by first | exact szs | (simp; omega))); clear hob; (first | (have RB := hide ((unhide RB).ext hxb); obtain ⟨r0, r1, r2⟩ := (unhide RB).three; obtain ⟨z0, z1, z2, _⟩ := (unhide RB).frees) | (have RB := hide (blk_0 _ _ _ hxb); obtain ⟨r0, r1, r2⟩ := (unhide RB).three; obtain ⟨z0, z1, z2, _⟩ := (unhide RB).frees) | skip)))
          all_goals go_wp2
          all_goals go_meet
          all_goals
            refine ⟨_, g, rfl, ?gb, ?go, ?gl, ?gx⟩
            case gb => first | (with_reducible exact Blk.new _ _ _) | (with_reducible exact (unhide RB).put3 _ _ _)
            case go => first | (with_reducible exact (unhide hob2).alloc _) | (with_reducible exact (unhide hob2).grown (grown_set3 _ _ _ _ _) (own_neB (unhide RB) (unhide hob2)))
            case gl => omega
            case gx => first | (with_reducible exact bx.alloc _) | (with_reducible exact ext_set3 bx (by omega))
        case rest =>
        obtain ⟨r, g, rfl, hPB, hPO, hrl, hx6⟩ := hcut
        rename_i wc
        have hS6 := (unhide HS).exts hx6
        obtain ⟨l0, l1, l2⟩ := hS6.lev.three
        obtain ⟨p0, p1, p2⟩ := hPB.three
        have hR6 := (unhide HR).ext hS6.ext
        -- what the copy comes to
        have hcopy : ∃ w7, (∀ ty, (Builtin.copy_ #[27, 27] ty #[.slice (some ⟨g, 0, none⟩) (W * H * s) (W * H * s), .slice bo bs.length bcap]).run Try.prog wc = .ok (goInt bs.length) w7) ∧ Own .u8 w7 wr.heap.size 5 (.slice (some ⟨g, 0, none⟩) (W * H * s) (W * H * s)) (fillB (W * H * s) bs) ∧ wc.grownBy w7 (some g) := by
          by_cases h0 : bs.length = 0
          · refine ⟨wc, fun ty => ?_, ?_, World.grownBy.refl _ _⟩
            · have := run_copy_none (P := Try.prog) wc 27 27 ty 5 (some ⟨g, 0, none⟩) bo (W * H * s) (W * H * s) bs.length bcap Try.underlying27 size8 (by simp [h0])
              rw [h0] at this ⊢
              exact this
            · unfold fillB
              rw [if_pos h0]
              exact hPO
          · have hn : bs.length = W * H * s := by
              rcases unhide HBS with h | h
              · exact absurd h h0
              · exact h
            have h5 := copy_in hPO 0 (ys := bs) (by simp [hn]) hR6 (by omega) (W * H * s)
            obtain ⟨w7, c1, c2, c3⟩ := h5
            rw [hn] at c1 ⊢
            refine ⟨w7, c1, ?_, c3⟩
            have e : layB (List.replicate (W * H * s) 0) 0 bs = fillB (W * H * s) bs := by
              unfold layB fillB
              rw [if_neg h0]
              simp [hn]
            rw [← e]
            exact c2
        obtain ⟨w7, hrun, hPO7, hg7⟩ := hcopy
        simp only [goInt] at hrun
        -- the blocks behind it
        have hng : ∀ {b : Nat} {cs : Array Value} {t : TypeId}, Blk wc b cs t → t ≠ 5 → Blk w7 b cs t := fun {b cs t} hb ht => hb.grown hg7 (blk_neU hb ht hPO)
        have hgr : wr.heap.size ≤ g := (hPO.lt g rfl).1
        have hLO7 : LO w7 w2.heap.size (.slice ao5 D.length cap5) D := by
          obtain ⟨gL, cur, eL, _, hbL2, hcur⟩ := hS6.lo.blk (by omega)
          subst eL
          have hcur7 : w7.heap[gL]? = some (.cells cur 48 (0, 0)) := hng (b := gL) hcur (by decide)
          refine ⟨World.ownsRow.kept hS6.lo.own hg7 (.inr fun e => ?_), fun p hp => (hS6.lo.bys p hp).grown hg7 fun b hb e => ?_, hS6.lo.alone⟩
          · simp [Value.ownBlock] at e
            subst e
            exact absurd hcur (own_ne hcur hPO gL rfl rfl).elim
          · have h9 := (((unhide HS).lo.bys p hp).lt b hb).2
            omega
        have hX7 : Ext w w7 := below_grown hS6.ext hg7 hS6.ext.size (by have := (unhide HS).ext.size; omega)
        have hS7 : PutS w w7 w2.heap.size w3.heap.size ⟨f, I.L, I.ws, I.wt, I.mn, I.mg⟩ W H (.slice bo bs.length bcap) ao5 cap5 D := ⟨hng hS6.blk (by decide), hLO7, hng hS6.lev (by decide), hng hS6.res (by decide), hS6.low, hX7⟩
        have hPB7 := hng hPB (by decide)
        have hnew : ∀ p ∈ D, ∀ b, p.2.2.1.ownBlock = some b → (Value.slice (some ⟨g, 0, none⟩) (W * H * s) (W * H * s)).ownBlock ≠ some b := fun p hp b hb e => by
          have h9 := (((unhide HS).lo.bys p hp).lt b hb).2
          simp [Value.ownBlock] at e
          omega
        have H7 := hide (And.intro hS7 (And.intro hPO7 (And.intro hgr hnew)))
        have u1 := hS7.blk.six.2.1
        obtain ⟨p0', p1', p2'⟩ := hPB7.three
        obtain ⟨gL, cur, eL, _, hbL2, hcur⟩ := hS7.lo.blk (by omega)
        subst eL
        have hkD : k < D.length := by omega
        obtain ⟨bx, offx, box, bcapx, e1, ebx, c0, c1, c2, _⟩ := hS7.lo.lr.at k hkD
        cases e1
        simp only [Nat.zero_add] at c0 c1 c2
        have z0 := World.ownsRow.frozenAt hS7.lo.own (k * 3)
        have z1 := World.ownsRow.frozenAt hS7.lo.own (k * 3 + 1)
        have z2 := World.ownsRow.frozenAt hS7.lo.own (k * 3 + 2)
        have hkD2 : (k : Int) < (D.length : Int) := by omega
        have hDc : D.length ≤ cap5 ∧ cap5 ≤ 9223372036854775807 := by
          obtain ⟨_, _, e9, _, h9, h10⟩ := hS7.lo.cut
          cases e9
          unfold maxLen at h10
          exact ⟨h9, by omega⟩
        obtain ⟨hDc1, hDc2⟩ := hDc
        -- the level set
        have hsplit : D = D.take k ++ D[k] :: D.drop (k + 1) := by rw [← List.drop_eq_getElem_cons hkD, List.take_append_drop]
        have hlt : (D.take k).length = k := by simp; omega
        have hset := LO.setAt (w := w7) (base := w2.heap.size) (g := gL) (n := D.length) (cap := cap5) (A := D.take k) (x := D[k]) (B := D.drop (k + 1)) (by rw [← hsplit]; exact hS7.lo) ((W : Int), (H : Int), .slice (some ⟨g, 0, none⟩) (W * H * s) (W * H * s), fillB (W * H * s) bs) (hPO7.lower (by have := (unhide HS).lo; have := (unhide HS).blk.lt; omega))
          (fun p hp b hb => hnew p (by
            rcases List.mem_append.1 hp with hp | hp
            · exact List.mem_of_mem_take hp
            · exact List.mem_of_mem_drop hp) b hb)
        rw [hlt] at hset
        simp only at hset
        have hg8 := grown_set3L w7 gL (k * 3) (.int .i64 (W : Int)) (.int .i64 (H : Int)) (.slice (some ⟨g, 0, none⟩) (W * H * s) (W * H * s))
        have hY8 := hS7.blk.grown hg8 (blk_ne hS7.blk (by decide) hcur)
        have hR8 := hS7.res.grown hg8 (blk_ne hS7.res (by decide) hcur)
        have hX8 : Ext w _ := below_grown hS7.ext hg8 hS7.ext.size (by have := hS7.low.1; omega)
        have hlen8 : (D.take k ++ ((W : Int), (H : Int), Value.slice (some ⟨g, 0, none⟩) (W * H * s) (W * H * s), fillB (W * H * s) bs) :: D.drop (k + 1)).length = D.length := by simp; omega
        have hab8 : absL (D.take k ++ ((W : Int), (H : Int), Value.slice (some ⟨g, 0, none⟩) (W * H * s) (W * H * s), fillB (W * H * s) bs) :: D.drop (k + 1)) = putL A0 k (W, H, fillB (W * H * s) bs) := by
          unfold putL
          rw [unhide HAA, ← unhide HPAD]
          have hkA : k < (absL D).length := by rw [absL_len]; exact hkD
          rw [List.set_eq_take_append_cons_drop, if_pos hkA]
          unfold absL
          rw [List.map_append, List.map_take, List.map_cons, List.map_drop]
          rfl
        generalize hD8 : (D.take k ++ ((W : Int), (H : Int), Value.slice (some ⟨g, 0, none⟩) (W * H * s) (W * H * s), fillB (W * H * s) bs) :: D.drop (k + 1)) = D8 at hset hlen8 hab8
        clear hD8
        have H8 := hide (And.intro hset (And.intro hY8 (And.intro hR8 (And.intro hX8 (And.intro hlen8 hab8)))))
        clear hset hY8 hR8 hX8 hlen8 hab8 hg8 hsplit hlt hS7 hPB7 hnew hX7 hLO7 hng hg7 hPO7 hS6 hR6 hPB hPO hx6 hcur ebx HCL hbL2
        go_upto_region 12 with fail
        generalize ((w7.setCell ⟨gL, k * 3, none⟩ (.int .i64 (W : Int))).setCell ⟨gL, k * 3 + 1, none⟩ (.int .i64 (H : Int))).setCell ⟨gL, k * 3 + 2, none⟩ (.slice (some ⟨g, 0, none⟩) (W * H * s) (W * H * s)) = w8 at H8 ⊢
        clear hrun p0 p1 p2 p0' p1' p2' c0 c1 c2 z0 z1 z2 u1 l0 l1 l2
        obtain ⟨hset, hY8, hR8, hX8, hlen8, hab8⟩ := unhide H8
        clear H8
        obtain ⟨q0, q1, q2, q3, q4, q5⟩ := hY8.six
        obtain ⟨p0, p1, p2, p3, p4, p5⟩ := hR8.six
        obtain ⟨f0, f1, f2, f3, f4, f5⟩ := hR8.frees
        have hB9 := hR8.put6 (.int .i64 f) (.slice (some ⟨gL, 0, none⟩) D.length cap5) (.int .i64 I.ws) (.int .i64 I.wt) (.int .i64 I.mn) (.int .i64 I.mg)
        have hg9 := grown_put6 w8 (w.heap.size + 1 + 1) (.int .i64 f) (.slice (some ⟨gL, 0, none⟩) D.length cap5) (.int .i64 I.ws) (.int .i64 I.wt) (.int .i64 I.mn) (.int .i64 I.mg)
        have hL9 := (hset.grown hR8 ⟨by decide, by decide⟩ hg9).lower (b2 := w.heap.size) (by omega)
        have hX9 : Ext w _ := below_grown hX8 hg9 hX8.size (by omega)
        have H9 := hide (And.intro hB9 (And.intro hL9 (And.intro hX9 (And.intro hlen8 hab8))))
        clear hset hY8 hR8 hX8 hlen8 hab8 hB9 hg9 hL9 hX9
        go_wp2
        obtain ⟨hB9, hL9, hX9, hlen8, hab8⟩ := unhide H9
        obtain ⟨r0, r1, r2, r3, r4, r5⟩ := hB9.six
        refine bodyPost_ret (v := .tuple #[.agg #[.int .i64 f, .slice (some ⟨gL, 0, none⟩) D.length cap5, .int .i64 I.ws, .int .i64 I.wt, .int .i64 I.mn, .int .i64 I.mg], .int .i64 0]) (by simp [results, Try.results22, go_sem, r0, r1, r2, r3, r4, r5]) rfl ?_
        exact ⟨some ⟨gL, 0, none⟩, cap5, D8, by rw [hlen8], by rw [hlen8]; exact hL9, hab8, hX9⟩

end
end Go.Proofs.Ytpjapdifmfpcnaa
