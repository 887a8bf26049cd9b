/-
  Images: the walk of Put. What the dump lacks is left out.
-/
import Derived.Test.YtadajaoidhbmgaaIW
import Derived.Deep.DeepCutAuto
namespace Go.Proofs.Ytadajaoidhbmgaa
open Go.RowKit
set_option linter.unusedVariables false
set_option linter.unusedSimpArgs false

/-- The bytes of a level that is put: noughts, if there are none. -/
def fillB (n : Nat) (xs : List Int) : List Int := if xs.length = 0 then List.replicate n 0 else xs
/-- Levels, one being put. -/
def putL (A : List Lev) (k : Nat) (x : Lev) : List Lev := (A ++ List.replicate (k + 1 - A.length) noLev).set k x
/-- What becomes of an image. -/
def putI (I : Img) (lv f W H : Int) (bs : List Int) : Img :=
  if putE I lv f W H bs.length = 0 then ⟨f, putL (if f = I.f then I.L else []) lv.toNat (W, H, fillB (W * H * sizI f).toNat bs), I.ws, I.wt, I.mn, I.mg⟩ else zimg

theorem putE_zero {I : Img} {lv f W H : Int} {n : Nat} (h : putE I lv f W H n = 0) : okB (sizI I.f) I = true ∧ (0 ≤ lv ∧ lv < 7) ∧ sizI f ≠ 0 ∧ (1 ≤ W ∧ W ≤ 64) ∧ (1 ≤ H ∧ H ≤ 64) ∧ (n = 0 ∨ (n : Int) = W * H * sizI f) := by
  unfold putE at h
  cases hok : okB (sizI I.f) I with
  | false =>
    rw [if_pos hok] at h
    simp at h
  | true =>
    rw [if_neg (by rw [hok]; simp)] at h
    by_cases h1 : lv < 0 ∨ 7 ≤ lv ∨ sizI f = 0 ∨ sideB W = false ∨ sideB H = false
    · rw [if_pos h1] at h
      simp at h
    · rw [if_neg h1] at h
      have hw : sideB W = true := by
        cases e : sideB W with
        | true => rfl
        | false => exact absurd (.inr (.inr (.inr (.inl e)))) h1
      have hh : sideB H = true := by
        cases e : sideB H with
        | true => rfl
        | false => exact absurd (.inr (.inr (.inr (.inr e)))) h1
      refine ⟨rfl, by omega, fun e => h1 (.inr (.inr (.inl e))), sideB_iff.1 hw, sideB_iff.1 hh, ?_⟩
      by_cases h2 : n ≠ 0 ∧ (n : Int) ≠ W * H * sizI f
      · rw [if_pos h2] at h
        simp at h
      · by_cases h3 : n = 0
        · exact .inl h3
        · exact .inr (Classical.byContradiction fun h4 => h2 ⟨h3, h4⟩)

def zcells : Array Value := #[.int .i64 0, .slice none 0 0, .int .i64 0, .int .i64 0, .int .i64 0, .int .i64 0]
/-- How far Put has come: the image under way in block Y, the level that was handed in, the result's block. -/
structure PutS (w wr : World) (base Y : Nat) (J : Img) (W H : Int) (vb : Value) (ao : Option Addr) (cap : Nat) (D : List Ent) : Prop where
  blk : Blk wr Y #[.int .i64 J.f, .slice ao D.length cap, .int .i64 J.ws, .int .i64 J.wt, .int .i64 J.mn, .int .i64 J.mg] 24
  lo : LO wr base (.slice ao D.length cap) D
  lev : Blk wr (w.heap.size + 1) #[.int .i64 W, .int .i64 H, vb] 46
  res : Blk wr (w.heap.size + 1 + 1) #[.int .i64 0, .slice none 0 0, .int .i64 0, .int .i64 0, .int .i64 0, .int .i64 0] 24
  low : w.heap.size + 3 ≤ base ∧ w.heap.size + 3 ≤ Y
  ext : Ext w wr
theorem PutS.exts {w wr w' : World} {base Y : Nat} {J : Img} {W H : Int} {vb : Value} {ao : Option Addr} {cap : Nat} {D : List Ent} (h : PutS w wr base Y J W H vb ao cap D) (hx : Ext wr w') : PutS w w' base Y J W H vb ao cap D :=
  ⟨h.blk.ext hx, h.lo.ext hx, h.lev.ext hx, h.res.ext hx, h.low, h.ext.trans hx⟩
def zent : Ent := (0, 0, .slice none 0 0, [])
/-- An empty level is appended, and the row stored. -/
theorem PutS.more {w wr w5 : World} {base Y : Nat} {J : Img} {W H : Int} {vb : Value} {ao ao' : Option Addr} {cap cap' : Nat} {D : List Ent} {o : Obj} (h : PutS w wr base Y J W H vb ao cap D)
    (hown0 : w5.ownsRow base 46 3 (.slice ao' (D.length + 1) cap') (D.length + 1) (lcells (D ++ [zent]))) (hg : (wr.alloc o).grownBy w5 (Value.slice ao D.length cap).ownBlock) :
    w5.cell? ⟨Y, 1, none⟩ = some (.slice ao D.length cap) ∧ w5.frozen? ⟨Y, 1, none⟩ = false ∧ PutS w (w5.setCell ⟨Y, 1, none⟩ (.slice ao' (D.length + 1) cap')) base Y J W H vb ao' cap' (D ++ [zent]) := by
  have hown : w5.ownsRow base 46 3 (.slice ao' (D.length + 1) cap') (D ++ [zent]).length (lcells (D ++ [zent])) := by rw [show (D ++ [zent]).length = D.length + 1 by simp]; exact hown0
  have h1 := h.exts ((Ext.refl wr).alloc o)
  have hlo5 : LO w5 base (.slice ao' (D.length + 1) cap') (D ++ [zent]) := h1.lo.app hown hg (Own.nil _ _ _ _) (fun p hp b hb => by simp [zent, Value.ownBlock])
  have hb5 := h1.blk.by (by decide) h1.lo hg
  have hl5 := h1.lev.byL (by have := h.low.1; omega) h1.lo hg
  have hr5 := h1.res.by (by decide) h1.lo hg
  have hx5 : Ext w w5 := h1.ext.grown hg h1.ext.size (fun k e => by
    have h3 := (World.ownsRow.lt h1.lo.own k e).1
    have h4 := h.low.1
    omega)
  have hg6 := grownBy_set w5 Y 1 (.slice ao' (D.length + 1) cap')
  have hl : (D ++ [zent]).length = D.length + 1 := by simp
  refine ⟨hb5.six.2.1, hb5.free 1, ⟨?_, ?_, ?_, ?_, h.low, ?_⟩⟩
  · have := hb5.set 1 (.slice ao' (D.length + 1) cap')
    rw [hl]
    simpa using this
  · rw [hl]
    exact hlo5.grown hb5 ⟨by decide, by decide⟩ hg6
  · exact hl5.other (r := Y) _ _ (by have := h.low.2; omega)
  · exact hr5.other (r := Y) _ _ (by have := h.low.2; omega)
  · exact below_grown hx5 hg6 hx5.size (by have := h.low.2; omega)

theorem pad_end {A : List Lev} {D : List Ent} {j k : Nat} (h : absL D = A ++ List.replicate j noLev) (hj : j = 0 ∨ D.length ≤ k + 1) (hk : k < D.length) : absL D = A ++ List.replicate (k + 1 - A.length) noLev := by
  have hl := congrArg List.length h
  rw [absL_len, List.length_append, List.length_replicate] at hl
  rw [h]
  congr 2
  omega

theorem ext_set3 {w w1 : World} {b : Nat} {x0 x1 x2 : Value} (h : Ext w w1) (hb : w.heap.size ≤ b) : Ext w (((w1.setCell ⟨b, 0, none⟩ x0).setCell ⟨b, 1, none⟩ x1).setCell ⟨b, 2, none⟩ x2) :=
  below_grown h (((grownBy_set _ _ _ _).trans (grownBy_set _ _ _ _)).trans (grownBy_set _ _ _ _)) h.size hb
theorem grown_set3 (w : World) (b : Nat) (x0 x1 x2 : Value) : w.grownBy (((w.setCell ⟨b, 0, none⟩ x0).setCell ⟨b, 1, none⟩ x1).setCell ⟨b, 2, none⟩ x2) (some b) := ((grownBy_set _ _ _ _).trans (grownBy_set _ _ _ _)).trans (grownBy_set _ _ _ _)
theorem Blk.put3 {w : World} {b : Nat} {o0 o1 o2 : Value} {t : TypeId} (h : Blk w b #[o0, o1, o2] t) (a0 a1 a2 : Value) :
    Blk (((w.setCell ⟨b, 0, none⟩ a0).setCell ⟨b, 1, none⟩ a1).setCell ⟨b, 2, none⟩ a2) b #[a0, a1, a2] t := by
  have h1 := ((h.set 0 a0).set 1 a1).set 2 a2
  simpa using h1
theorem grown_set3L (w : World) (b i : Nat) (x0 x1 x2 : Value) : w.grownBy (((w.setCell ⟨b, i, none⟩ x0).setCell ⟨b, i + 1, none⟩ x1).setCell ⟨b, i + 2, none⟩ x2) (some b) := ((grownBy_set _ _ _ _).trans (grownBy_set _ _ _ _)).trans (grownBy_set _ _ _ _)
theorem ext_1 (w : World) (o : Obj) : Ext w (w.alloc o).drew := ((Ext.refl w).alloc o).drew
theorem ext_0 (w : World) : Ext w w.drew := (Ext.refl w).drew
theorem blk_1 (w : World) (cs : Array Value) (t : TypeId) {w' : World} (hx : Ext (w.alloc (.cells cs t)).drew w') : Blk w' w.heap.size cs t := Blk.ext (w := (w.alloc (.cells cs t)).drew) (Blk.new w cs t) hx
theorem blk_0 (w : World) (cs : Array Value) (t : TypeId) {w' : World} (hx : Ext (w.alloc (.cells cs t)) w') : Blk w' w.heap.size cs t := (Blk.new w cs t).ext hx
theorem size8 : (Try.prog.info? 5).map (·.size) = some 1 := by kernel_rfl
/-- 'copy' into a part of a row of the call's own. -/
theorem copy_in {w : World} {base g n c : Nat} {xs ys : List Int} (ho : Own .u8 w base 5 (.slice (some ⟨g, 0, none⟩) n c) xs) (p : Nat) (hp : p + ys.length ≤ xs.length) {bo : Option Addr} {bcap : Nat} (hr : Row .u8 w (.slice bo ys.length bcap) ys) (hne : 0 < ys.length) (cap2 : Nat) :
    ∃ w', (∀ ty, (Builtin.copy_ #[44, 44] ty #[.slice (some ⟨g, p, none⟩) ys.length cap2, .slice bo ys.length bcap]).run Try.prog w = .ok (goInt ys.length) w') ∧ Own .u8 w' base 5 (.slice (some ⟨g, 0, none⟩) n c) (layB xs p ys) ∧ w.grownBy w' (some g) := by
  have hl : n = xs.length := by obtain ⟨_, _, e⟩ := ho.shape; cases e; rfl
  subst hl
  obtain ⟨hlen, hown⟩ := ho
  rcases hown with ⟨e, _⟩ | ⟨g2, c2, cur, e, hbase, hblk, hnc, hccm, hsz, hcur⟩
  · cases e
  cases e
  obtain ⟨b, off, rfl, hc⟩ := hr.at 0 hne
  simp only [Nat.mul_one] at hsz hcur
  have hl2 : (ys.map (Value.int .u8)).length = ys.length := by simp
  have hrun := fun ty => run_copy_row (P := Try.prog) w 44 44 ty 5 g p ys.length cap2 ⟨b, off, none⟩ ys.length bcap cur 5 (ys.map (Value.int .u8)) Try.underlying44 size8 hblk (by simp)
    (by
      refine Row.news fun i hi => ?_
      rw [hc i hi]
      simp [hi]) (by rw [hl2, hsz]; omega) (ints_oneCell _ _)
  rw [hl2] at hrun
  refine ⟨_, hrun, ?_, ⟨rfl, rfl, rfl, by simp [World.setRow], fun k _ hk => setRow_other w g k _ (fun e => hk (by rw [e]))⟩⟩
  have hnew := setRow_heap w g cur (cur.toList.take p ++ ys.map (Value.int .u8) ++ cur.toList.drop (p + ys.length)).toArray 5 (0, 0) hblk
  have hlb := layB_len hp
  refine ⟨by simp, .inr ⟨g, c, _, by rw [hlb], hbase, hnew, by rw [hlb]; exact hnc, hccm, ?_, ?_⟩⟩
  · simp
    omega
  · rw [hlb, Nat.mul_one]
    unfold layB
    have e1 : cur.toList.take p = (xs.take p).map (Value.int .u8) := by
      rw [List.map_take, ← hcur, List.take_take, Nat.min_eq_left (by omega)]
    have e2 : (cur.toList.drop (p + ys.length)).take (xs.length - (p + ys.length)) = (xs.drop (p + ys.length)).map (Value.int .u8) := by
      rw [List.map_drop, ← hcur, List.drop_take]
    simp only [List.map_append, List.append_assoc]
    rw [e1, ← e2]
    have l1 : ((xs.take p).map (Value.int .u8)).length = p := by simp; omega
    rw [← List.append_assoc, List.take_append, List.take_of_length_le (by rw [List.length_append, l1, hl2]; omega), List.length_append, l1, hl2, List.append_assoc]
theorem blk_neU {w : World} {b g base n c : Nat} {cs : Array Value} {t : TypeId} {xs : List Int} (h : Blk w b cs t) (ht : t ≠ 5) (ho : Own .u8 w base 5 (.slice (some ⟨g, 0, none⟩) n c) xs) : b ≠ g := by
  intro e
  rcases ho.2 with ⟨e1, _⟩ | ⟨g2, c2, cur, e1, _, hg2, _⟩
  · cases e1
  · injection e1 with e2 _ _
    cases e2
    rw [← e, show w.heap[b]? = some (.cells cs t (0, 0)) from h] at hg2
    simp at hg2
    exact ht hg2.2
theorem own_neB {w : World} {base g : Nat} {cs : Array Value} {u : Value} {xs : List Int} (hB : Blk w g cs 46) (h : Own .u8 w base 5 u xs) : ∀ b, u.ownBlock = some b → b ≠ g := own_ne (cur := cs) hB h
/-- How many levels an image in memory has. -/
def lenAt (w : World) (Y : Nat) : Nat := match w.cell? ⟨Y, 1, none⟩ with | some (.slice _ n _) => n | _ => 0
theorem lenAt_of {w : World} {Y n cap : Nat} {ao : Option Addr} (h : w.cell? ⟨Y, 1, none⟩ = some (.slice ao n cap)) : lenAt w Y = n := by unfold lenAt; rw [h]

section
variable {w : World} {v : Value} {L : List Ent} {I : Img}

end
end Go.Proofs.Ytadajaoidhbmgaa
