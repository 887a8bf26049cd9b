/- Several texts in one. -/
import Derived.Test.YtgmahpkhdnabjaaGreatQtJ
import Derived.Deep.DeepCutAuto
import Derived.Test.YtgmahpkhdnabjaaGreatIAJ
/-
  Images: the walk of putRefusal; a level more, or another one, in a row of the call's own. What the dump lacks is left out.
-/
namespace Go.Proofs.YtgmahpkhdnabjaaGreat
open Go.RowKit
set_option linter.unusedVariables false
set_option linter.unusedSimpArgs false

/-- What Put answers. -/
def putE (I : Img) (lv f W H : Int) (n : Nat) : Int :=
  if okB (sizI I.f) I = false then 180 else if lv < 0 ∨ 7 ≤ lv ∨ sizI f = 0 ∨ sideB W = false ∨ sideB H = false then 2
  else if n ≠ 0 ∧ (n : Int) ≠ W * H * sizI f then 7 else if lv ≠ 0 ∧ I.L.length ≠ 0 ∧ f ≠ I.f then 181 else 0

/-- A block of another type is no block of levels. -/
theorem blk_ne {w : World} {b g : Nat} {cs cur : Array Value} {t : TypeId} (h : Blk w b cs t) (ht : t ≠ 160) (hg : w.heap[g]? = some (.cells cur 160 (0, 0))) : b ≠ g := by
  intro e
  rw [← e, show w.heap[b]? = some (.cells cs t (0, 0)) from h] at hg
  simp at hg
  exact ht hg.2
section
variable {w w' : World} {base : Nat} {v v' : Value} {L : List Ent}
/-- What stands in a row's block, if there is one. -/
theorem LO.block (h : LO w base v L) {g : Nat} (hg : v.ownBlock = some g) : ∃ cur, w.heap[g]? = some (.cells cur 160 (0, 0)) := by
  rcases h.own.2 with ⟨e, _⟩ | ⟨g2, c, cur, e, _, hg2, _⟩
  · rw [e] at hg; cases hg
  · rw [e] at hg
    cases hg
    exact ⟨cur, hg2⟩
theorem Own.by {xs : List Int} {u : Value} (h : Own .u8 w base 5 u xs) (hL : LO w base v L) (hg : w.grownBy w' v.ownBlock) : Own .u8 w' base 5 u xs := by
  cases hv : v.ownBlock with
  | none =>
    rw [hv] at hg
    refine World.ownsRow.kept h hg ?_
    cases u.ownBlock <;> simp
  | some g =>
    rw [hv] at hg
    obtain ⟨cur, hc⟩ := hL.block hv
    exact h.grown hg (own_ne hc h)
theorem Blk.by {b : Nat} {cs : Array Value} {t : TypeId} (h : Blk w b cs t) (ht : t ≠ 160) (hL : LO w base v L) (hg : w.grownBy w' v.ownBlock) : Blk w' b cs t := by
  cases hv : v.ownBlock with
  | none =>
    rw [hv] at hg
    exact (hg.block b h.lt (by simp)).trans h
  | some g =>
    rw [hv] at hg
    obtain ⟨cur, hc⟩ := hL.block hv
    exact h.grown hg (blk_ne h ht hc)
/-- A block of a level that stands alone, not in the row. -/
theorem Blk.byL {b : Nat} {cs : Array Value} {t : TypeId} (h : Blk w b cs t) (hb : b < base) (hL : LO w base v L) (hg : w.grownBy w' v.ownBlock) : Blk w' b cs t := by
  refine (hg.block b h.lt fun e => ?_).trans h
  have := (World.ownsRow.lt hL.own b e.symm).1
  omega
theorem LO.app {y : Ent} (h : LO w base v L) (hown : w'.ownsRow base 160 3 v' (L ++ [y]).length (lcells (L ++ [y]))) (hg : w.grownBy w' v.ownBlock) (hy : Own .u8 w base 5 y.2.2.1 y.2.2.2)
    (hal : ∀ p ∈ L, ∀ b, p.2.2.1.ownBlock = some b → y.2.2.1.ownBlock ≠ some b) : LO w' base v' (L ++ [y]) := by
  refine ⟨hown, fun p hp => ?_, List.pairwise_append.2 ⟨h.alone, by simp, fun p hp q hq => ?_⟩⟩
  · rcases List.mem_append.1 hp with hp | hp
    · exact (h.bys p hp).by h hg
    · simp at hp
      subst hp
      exact hy.by h hg
  · simp at hq
    subst hq
    exact hal p hp
/-- One level is set. -/
theorem LO.setAt {g n cap : Nat} {A B : List Ent} {x : Ent} (h : LO w base (.slice (some ⟨g, 0, none⟩) n cap) (A ++ x :: B)) (y : Ent) (hy : Own .u8 w base 5 y.2.2.1 y.2.2.2)
    (hal : ∀ p ∈ A ++ B, ∀ b, p.2.2.1.ownBlock = some b → y.2.2.1.ownBlock ≠ some b) :
    LO (((w.setCell ⟨g, A.length * 3, none⟩ (.int .i64 y.1)).setCell ⟨g, A.length * 3 + 1, none⟩ (.int .i64 y.2.1)).setCell ⟨g, A.length * 3 + 2, none⟩ y.2.2.1) base (.slice (some ⟨g, 0, none⟩) n cap) (A ++ y :: B) := by
  have hn : n = (A ++ x :: B).length := by
    rcases h.own.2 with ⟨e, _⟩ | ⟨g2, c, cur, e, _⟩
    · cases e
    · cases e; rfl
  have hl2 : (A ++ y :: B).length = (A ++ x :: B).length := by simp
  obtain ⟨h1, g1⟩ := World.ownsRow.stored (hn ▸ h.own) (A.length * 3) (.int .i64 y.1)
  obtain ⟨h2, g2⟩ := World.ownsRow.stored h1 (A.length * 3 + 1) (.int .i64 y.2.1)
  obtain ⟨h3, g3⟩ := World.ownsRow.stored h2 (A.length * 3 + 2) y.2.2.1
  rw [lcells_set3] at h3
  have hg := (g1.trans g2).trans g3
  refine ⟨by rw [hl2, hn]; exact h3, fun p hp => ?_, ?_⟩
  · rcases List.mem_append.1 hp with hp | hp
    · exact (h.bys p (List.mem_append_left _ hp)).by h hg
    · rcases List.mem_cons.1 hp with rfl | hp
      · exact hy.by h hg
      · exact (h.bys p (List.mem_append_right _ (List.mem_cons_of_mem _ hp))).by h hg
  · have ha := List.pairwise_append.1 h.alone
    have hb := List.pairwise_cons.1 ha.2.1
    refine List.pairwise_append.2 ⟨ha.1, List.pairwise_cons.2 ⟨fun q hq b h1 h2 => ?_, hb.2⟩, fun p hp q hq b k1 => ?_⟩
    · exact hal q (List.mem_append_right _ hq) b h2 h1
    · rcases List.mem_cons.1 hq with rfl | hq
      · exact hal p (List.mem_append_left _ hp) b k1
      · exact ha.2.2 p hp q (List.mem_cons_of_mem _ hq) b k1
end
end Go.Proofs.YtgmahpkhdnabjaaGreat

/-
  Images: the walk of Put. What the dump lacks is left out.
-/
namespace Go.Proofs.YtgmahpkhdnabjaaGreat
open Go.RowKit
set_option linter.unusedVariables false
set_option linter.unusedSimpArgs false

/-- The bytes of a level that is put: noughts, if there are none. -/
def fillB (n : Nat) (xs : List Int) : List Int := if xs.length = 0 then List.replicate n 0 else xs
/-- Levels, one being put. -/
def putL (A : List Lev) (k : Nat) (x : Lev) : List Lev := (A ++ List.replicate (k + 1 - A.length) noLev).set k x
/-- What becomes of an image. -/
def putI (I : Img) (lv f W H : Int) (bs : List Int) : Img :=
  if putE I lv f W H bs.length = 0 then ⟨f, putL (if f = I.f then I.L else []) lv.toNat (W, H, fillB (W * H * sizI f).toNat bs), I.ws, I.wt, I.mn, I.mg⟩ else zimg

theorem putE_zero {I : Img} {lv f W H : Int} {n : Nat} (h : putE I lv f W H n = 0) : okB (sizI I.f) I = true ∧ (0 ≤ lv ∧ lv < 7) ∧ sizI f ≠ 0 ∧ (1 ≤ W ∧ W ≤ 64) ∧ (1 ≤ H ∧ H ≤ 64) ∧ (n = 0 ∨ (n : Int) = W * H * sizI f) := by
  unfold putE at h
  cases hok : okB (sizI I.f) I with
  | false =>
    rw [if_pos hok] at h
    simp at h
  | true =>
    rw [if_neg (by rw [hok]; simp)] at h
    by_cases h1 : lv < 0 ∨ 7 ≤ lv ∨ sizI f = 0 ∨ sideB W = false ∨ sideB H = false
    · rw [if_pos h1] at h
      simp at h
    · rw [if_neg h1] at h
      have hw : sideB W = true := by
        cases e : sideB W with
        | true => rfl
        | false => exact absurd (.inr (.inr (.inr (.inl e)))) h1
      have hh : sideB H = true := by
        cases e : sideB H with
        | true => rfl
        | false => exact absurd (.inr (.inr (.inr (.inr e)))) h1
      refine ⟨rfl, by omega, fun e => h1 (.inr (.inr (.inl e))), sideB_iff.1 hw, sideB_iff.1 hh, ?_⟩
      by_cases h2 : n ≠ 0 ∧ (n : Int) ≠ W * H * sizI f
      · rw [if_pos h2] at h
        simp at h
      · by_cases h3 : n = 0
        · exact .inl h3
        · exact .inr (Classical.byContradiction fun h4 => h2 ⟨h3, h4⟩)

def zcells : Array Value := #[.int .i64 0, .slice none 0 0, .int .i64 0, .int .i64 0, .int .i64 0, .int .i64 0]
/-- How far Put has come: the image under way in block Y, the level that was handed in, the result's block. -/
structure PutS (w wr : World) (base Y : Nat) (J : Img) (W H : Int) (vb : Value) (ao : Option Addr) (cap : Nat) (D : List Ent) : Prop where
  blk : Blk wr Y #[.int .i64 J.f, .slice ao D.length cap, .int .i64 J.ws, .int .i64 J.wt, .int .i64 J.mn, .int .i64 J.mg] 117
  lo : LO wr base (.slice ao D.length cap) D
  lev : Blk wr (w.heap.size + 1) #[.int .i64 W, .int .i64 H, vb] 160
  res : Blk wr (w.heap.size + 1 + 1) #[.int .i64 0, .slice none 0 0, .int .i64 0, .int .i64 0, .int .i64 0, .int .i64 0] 117
  low : w.heap.size + 3 ≤ base ∧ w.heap.size + 3 ≤ Y
  ext : Ext w wr
theorem PutS.exts {w wr w' : World} {base Y : Nat} {J : Img} {W H : Int} {vb : Value} {ao : Option Addr} {cap : Nat} {D : List Ent} (h : PutS w wr base Y J W H vb ao cap D) (hx : Ext wr w') : PutS w w' base Y J W H vb ao cap D :=
  ⟨h.blk.ext hx, h.lo.ext hx, h.lev.ext hx, h.res.ext hx, h.low, h.ext.trans hx⟩
def zent : Ent := (0, 0, .slice none 0 0, [])
/-- An empty level is appended, and the row stored. -/
theorem PutS.more {w wr w5 : World} {base Y : Nat} {J : Img} {W H : Int} {vb : Value} {ao ao' : Option Addr} {cap cap' : Nat} {D : List Ent} {o : Obj} (h : PutS w wr base Y J W H vb ao cap D)
    (hown0 : w5.ownsRow base 160 3 (.slice ao' (D.length + 1) cap') (D.length + 1) (lcells (D ++ [zent]))) (hg : (wr.alloc o).grownBy w5 (Value.slice ao D.length cap).ownBlock) :
    w5.cell? ⟨Y, 1, none⟩ = some (.slice ao D.length cap) ∧ w5.frozen? ⟨Y, 1, none⟩ = false ∧ PutS w (w5.setCell ⟨Y, 1, none⟩ (.slice ao' (D.length + 1) cap')) base Y J W H vb ao' cap' (D ++ [zent]) := by
  have hown : w5.ownsRow base 160 3 (.slice ao' (D.length + 1) cap') (D ++ [zent]).length (lcells (D ++ [zent])) := by rw [show (D ++ [zent]).length = D.length + 1 by simp]; exact hown0
  have h1 := h.exts ((Ext.refl wr).alloc o)
  have hlo5 : LO w5 base (.slice ao' (D.length + 1) cap') (D ++ [zent]) := h1.lo.app hown hg (Own.nil _ _ _ _) (fun p hp b hb => by simp [zent, Value.ownBlock])
  have hb5 := h1.blk.by (by decide) h1.lo hg
  have hl5 := h1.lev.byL (by have := h.low.1; omega) h1.lo hg
  have hr5 := h1.res.by (by decide) h1.lo hg
  have hx5 : Ext w w5 := h1.ext.grown hg h1.ext.size (fun k e => by
    have h3 := (World.ownsRow.lt h1.lo.own k e).1
    have h4 := h.low.1
    omega)
  have hg6 := grownBy_set w5 Y 1 (.slice ao' (D.length + 1) cap')
  have hl : (D ++ [zent]).length = D.length + 1 := by simp
  refine ⟨hb5.six.2.1, hb5.free 1, ⟨?_, ?_, ?_, ?_, h.low, ?_⟩⟩
  · have := hb5.set 1 (.slice ao' (D.length + 1) cap')
    rw [hl]
    simpa using this
  · rw [hl]
    exact hlo5.grown hb5 ⟨by decide, by decide⟩ hg6
  · exact hl5.other (r := Y) _ _ (by have := h.low.2; omega)
  · exact hr5.other (r := Y) _ _ (by have := h.low.2; omega)
  · exact below_grown hx5 hg6 hx5.size (by have := h.low.2; omega)

theorem pad_end {A : List Lev} {D : List Ent} {j k : Nat} (h : absL D = A ++ List.replicate j noLev) (hj : j = 0 ∨ D.length ≤ k + 1) (hk : k < D.length) : absL D = A ++ List.replicate (k + 1 - A.length) noLev := by
  have hl := congrArg List.length h
  rw [absL_len, List.length_append, List.length_replicate] at hl
  rw [h]
  congr 2
  omega

theorem ext_set3 {w w1 : World} {b : Nat} {x0 x1 x2 : Value} (h : Ext w w1) (hb : w.heap.size ≤ b) : Ext w (((w1.setCell ⟨b, 0, none⟩ x0).setCell ⟨b, 1, none⟩ x1).setCell ⟨b, 2, none⟩ x2) :=
  below_grown h (((grownBy_set _ _ _ _).trans (grownBy_set _ _ _ _)).trans (grownBy_set _ _ _ _)) h.size hb
theorem grown_set3 (w : World) (b : Nat) (x0 x1 x2 : Value) : w.grownBy (((w.setCell ⟨b, 0, none⟩ x0).setCell ⟨b, 1, none⟩ x1).setCell ⟨b, 2, none⟩ x2) (some b) := ((grownBy_set _ _ _ _).trans (grownBy_set _ _ _ _)).trans (grownBy_set _ _ _ _)
theorem Blk.put3 {w : World} {b : Nat} {o0 o1 o2 : Value} {t : TypeId} (h : Blk w b #[o0, o1, o2] t) (a0 a1 a2 : Value) :
    Blk (((w.setCell ⟨b, 0, none⟩ a0).setCell ⟨b, 1, none⟩ a1).setCell ⟨b, 2, none⟩ a2) b #[a0, a1, a2] t := by
  have h1 := ((h.set 0 a0).set 1 a1).set 2 a2
  simpa using h1
theorem grown_set3L (w : World) (b i : Nat) (x0 x1 x2 : Value) : w.grownBy (((w.setCell ⟨b, i, none⟩ x0).setCell ⟨b, i + 1, none⟩ x1).setCell ⟨b, i + 2, none⟩ x2) (some b) := ((grownBy_set _ _ _ _).trans (grownBy_set _ _ _ _)).trans (grownBy_set _ _ _ _)
theorem ext_1 (w : World) (o : Obj) : Ext w (w.alloc o).drew := ((Ext.refl w).alloc o).drew
theorem ext_0 (w : World) : Ext w w.drew := (Ext.refl w).drew
theorem blk_1 (w : World) (cs : Array Value) (t : TypeId) {w' : World} (hx : Ext (w.alloc (.cells cs t)).drew w') : Blk w' w.heap.size cs t := Blk.ext (w := (w.alloc (.cells cs t)).drew) (Blk.new w cs t) hx
theorem blk_0 (w : World) (cs : Array Value) (t : TypeId) {w' : World} (hx : Ext (w.alloc (.cells cs t)) w') : Blk w' w.heap.size cs t := (Blk.new w cs t).ext hx
theorem size8 : (Tryz.prog.info? 5).map (·.size) = some 1 := by kernel_rfl
/-- 'copy' into a part of a row of the call's own. -/
theorem copy_in {w : World} {base g n c : Nat} {xs ys : List Int} (ho : Own .u8 w base 5 (.slice (some ⟨g, 0, none⟩) n c) xs) (p : Nat) (hp : p + ys.length ≤ xs.length) {bo : Option Addr} {bcap : Nat} (hr : Row .u8 w (.slice bo ys.length bcap) ys) (hne : 0 < ys.length) (cap2 : Nat) :
    ∃ w', (∀ ty, (Builtin.copy_ #[158, 158] ty #[.slice (some ⟨g, p, none⟩) ys.length cap2, .slice bo ys.length bcap]).run Tryz.prog w = .ok (goInt ys.length) w') ∧ Own .u8 w' base 5 (.slice (some ⟨g, 0, none⟩) n c) (layB xs p ys) ∧ w.grownBy w' (some g) := by
  have hl : n = xs.length := by obtain ⟨_, _, e⟩ := ho.shape; cases e; rfl
  subst hl
  obtain ⟨hlen, hown⟩ := ho
  rcases hown with ⟨e, _⟩ | ⟨g2, c2, cur, e, hbase, hblk, hnc, hccm, hsz, hcur⟩
  · cases e
  cases e
  obtain ⟨b, off, rfl, hc⟩ := hr.at 0 hne
  simp only [Nat.mul_one] at hsz hcur
  have hl2 : (ys.map (Value.int .u8)).length = ys.length := by simp
  have hrun := fun ty => run_copy_row (P := Tryz.prog) w 158 158 ty 5 g p ys.length cap2 ⟨b, off, none⟩ ys.length bcap cur 5 (ys.map (Value.int .u8)) Tryz.underlying158 size8 hblk (by simp)
    (by
      refine Row.news fun i hi => ?_
      rw [hc i hi]
      simp [hi]) (by rw [hl2, hsz]; omega) (ints_oneCell _ _)
  rw [hl2] at hrun
  refine ⟨_, hrun, ?_, ⟨rfl, rfl, rfl, by simp [World.setRow], fun k _ hk => setRow_other w g k _ (fun e => hk (by rw [e]))⟩⟩
  have hnew := setRow_heap w g cur (cur.toList.take p ++ ys.map (Value.int .u8) ++ cur.toList.drop (p + ys.length)).toArray 5 (0, 0) hblk
  have hlb := layB_len hp
  refine ⟨by simp, .inr ⟨g, c, _, by rw [hlb], hbase, hnew, by rw [hlb]; exact hnc, hccm, ?_, ?_⟩⟩
  · simp
    omega
  · rw [hlb, Nat.mul_one]
    unfold layB
    have e1 : cur.toList.take p = (xs.take p).map (Value.int .u8) := by
      rw [List.map_take, ← hcur, List.take_take, Nat.min_eq_left (by omega)]
    have e2 : (cur.toList.drop (p + ys.length)).take (xs.length - (p + ys.length)) = (xs.drop (p + ys.length)).map (Value.int .u8) := by
      rw [List.map_drop, ← hcur, List.drop_take]
    simp only [List.map_append, List.append_assoc]
    rw [e1, ← e2]
    have l1 : ((xs.take p).map (Value.int .u8)).length = p := by simp; omega
    rw [← List.append_assoc, List.take_append, List.take_of_length_le (by rw [List.length_append, l1, hl2]; omega), List.length_append, l1, hl2, List.append_assoc]
theorem blk_neU {w : World} {b g base n c : Nat} {cs : Array Value} {t : TypeId} {xs : List Int} (h : Blk w b cs t) (ht : t ≠ 5) (ho : Own .u8 w base 5 (.slice (some ⟨g, 0, none⟩) n c) xs) : b ≠ g := by
  intro e
  rcases ho.2 with ⟨e1, _⟩ | ⟨g2, c2, cur, e1, _, hg2, _⟩
  · cases e1
  · injection e1 with e2 _ _
    cases e2
    rw [← e, show w.heap[b]? = some (.cells cs t (0, 0)) from h] at hg2
    simp at hg2
    exact ht hg2.2
theorem own_neB {w : World} {base g : Nat} {cs : Array Value} {u : Value} {xs : List Int} (hB : Blk w g cs 160) (h : Own .u8 w base 5 u xs) : ∀ b, u.ownBlock = some b → b ≠ g := own_ne (cur := cs) hB h
/-- How many levels an image in memory has. -/
def lenAt (w : World) (Y : Nat) : Nat := match w.cell? ⟨Y, 1, none⟩ with | some (.slice _ n _) => n | _ => 0
theorem lenAt_of {w : World} {Y n cap : Nat} {ao : Option Addr} (h : w.cell? ⟨Y, 1, none⟩ = some (.slice ao n cap)) : lenAt w Y = n := by unfold lenAt; rw [h]

section
variable {w : World} {v : Value} {L : List Ent} {I : Img}

end
end Go.Proofs.YtgmahpkhdnabjaaGreat

/-
  Plain facts on means of pixels, and the levels that follow from one. Nothing here speaks of the program.
-/
namespace Go.Proofs.YtgmahpkhdnabjaaGreat
open Go.RowKit

/-- The sum of a channel of k bits from bit p on. -/
def chanS (p k : Nat) : List Int → Int
  | [] => 0
  | g :: r => g / 2 ^ p % 2 ^ k + chanS p k r
/-- The mean of a channel. -/
def chan (p k : Nat) (G : List Int) : Int := (chanS p k G + (G.length : Int) / 2) / (G.length : Int)
/-- The means of channels, as one number. -/
def meanN : List Nat → Nat → List Int → Int
  | [], _, _ => 0
  | k :: ks, p, G => chan p k G * 2 ^ p + meanN ks (p + k) G
/-- The channels of a format, the lowest first. -/
def chs8 (f : Int) : List Nat := if f = 1 then [8, 8, 8, 8] else if f = 2 then [5, 6, 5] else if f = 3 then [4, 4, 4, 4] else if f = 4 then [1, 5, 5, 5] else if f = 7 then [8, 8] else [8]

theorem chanS_snoc (p k : Nat) (G : List Int) (g : Int) : chanS p k (G ++ [g]) = chanS p k G + g / 2 ^ p % 2 ^ k := by
  induction G with
  | nil => simp [chanS]
  | cons x r ih => simp only [List.cons_append, chanS, ih]; omega
theorem two_pow_pos (k : Nat) : (1 : Int) ≤ 2 ^ k := by
  have h : 0 < 2 ^ k := Nat.pow_pos (by decide)
  have e : (2 : Int) ^ k = ((2 ^ k : Nat) : Int) := by simp
  omega
theorem chanS_bound (p k : Nat) (G : List Int) : 0 ≤ chanS p k G ∧ chanS p k G ≤ (G.length : Int) * (2 ^ k - 1) := by
  induction G with
  | nil => simp [chanS]
  | cons x r ih =>
    have h2 := two_pow_pos k
    have a := Int.emod_nonneg (x / 2 ^ p) (show (2 : Int) ^ k ≠ 0 by omega)
    have b := Int.emod_lt_of_pos (x / 2 ^ p) (show (0 : Int) < 2 ^ k by omega)
    simp only [chanS, List.length_cons]
    have e : ((r.length + 1 : Nat) : Int) * (2 ^ k - 1) = (r.length : Int) * (2 ^ k - 1) + (2 ^ k - 1) := by
      rw [Int.natCast_add, Int.add_mul]
      simp
    omega
theorem chan_bound (p k : Nat) (G : List Int) (hG : 0 < G.length) : 0 ≤ chan p k G ∧ chan p k G < 2 ^ k := by
  obtain ⟨a, b⟩ := chanS_bound p k G
  have h2 := two_pow_pos k
  unfold chan
  refine ⟨Int.ediv_nonneg (by omega) (by omega), ?_⟩
  refine Int.ediv_lt_of_lt_mul (by omega) ?_
  have e : (2 : Int) ^ k * (G.length : Int) = (G.length : Int) * (2 ^ k - 1) + (G.length : Int) := by
    rw [Int.mul_sub, Int.mul_one, Int.mul_comm]
    omega
  rw [e]
  omega
theorem meanN_snoc (ks : List Nat) (k p : Nat) (G : List Int) : meanN (ks ++ [k]) p G = meanN ks p G + chan (p + ks.sum) k G * 2 ^ (p + ks.sum) := by
  induction ks generalizing p with
  | nil => simp [meanN]
  | cons x r ih =>
    simp only [List.cons_append, meanN, ih, List.sum_cons]
    rw [Nat.add_assoc, Int.add_assoc]
theorem meanN_bound (ks : List Nat) (p : Nat) (G : List Int) (hG : 0 < G.length) : 0 ≤ meanN ks p G ∧ meanN ks p G ≤ 2 ^ (p + ks.sum) - 2 ^ p := by
  induction ks generalizing p with
  | nil => simp [meanN]
  | cons k r ih =>
    obtain ⟨a, b⟩ := ih (p + k)
    obtain ⟨c, d⟩ := chan_bound p k G hG
    have h2 := two_pow_pos p
    simp only [meanN, List.sum_cons]
    rw [show p + (k + r.sum) = p + k + r.sum by omega]
    have e : (2 : Int) ^ (p + k) = 2 ^ k * 2 ^ p := by rw [Int.pow_add, Int.mul_comm]
    have h3 : chan p k G * 2 ^ p ≤ (2 ^ k - 1) * 2 ^ p := Int.mul_le_mul_of_nonneg_right (by omega) (by omega)
    have h4 : 0 ≤ chan p k G * 2 ^ p := Int.mul_nonneg c (by omega)
    rw [Int.sub_mul, Int.one_mul, ← e] at h3
    omega
theorem meanN_lt (ks : List Nat) (G : List Int) (hG : 0 < G.length) : 0 ≤ meanN ks 0 G ∧ meanN ks 0 G < 2 ^ ks.sum := by
  have h := meanN_bound ks 0 G hG
  rw [Nat.zero_add] at h
  simp at h
  omega

/-! ### Pixels that follow -/
/-- The pixels of which the one at x, y is the mean. -/
def grp (s W H : Nat) (xs : List Int) (x y : Nat) : List (List Int) := (List.range (min 2 W * min 2 H)).map fun k => cellL s xs (pq W (2 * x) (2 * y) (min 2 W) k)
/-- The mean of pixels, as bytes. -/
def meanB (ks : List Nat) (s : Nat) (G : List (List Int)) : List Int := low (meanN ks 0 (G.map numOf)) s
def hN (n : Nat) : Nat := max 1 (n / 2)
theorem hN_half (n : Nat) : ((hN n : Nat) : Int) = half (n : Int) := by unfold hN half; omega
/-- The bytes of the first j pixels that follow. -/
def nb (ks : List Nat) (s W H : Nat) (xs : List Int) : Nat → List Int
  | 0 => []
  | j + 1 => nb ks s W H xs j ++ meanB ks s (grp s W H xs (j % hN W) (j / hN W))
theorem nb_len (ks : List Nat) (s W H : Nat) (xs : List Int) (j : Nat) : (nb ks s W H xs j).length = j * s := by
  induction j with
  | zero => simp [nb]
  | succ j ih => rw [nb, List.length_append, ih, meanB, low_length, Nat.succ_mul]
theorem nb_byt (ks : List Nat) (s W H : Nat) (xs : List Int) (j : Nat) : Byt (nb ks s W H xs j) := by
  induction j with
  | zero => intro x hx; cases hx
  | succ j ih => exact ih.append (low_byt _ _)
/-- The level that follows. -/
def nxt (ks : List Nat) (s : Nat) (l : Lev) : Lev := (half l.1, half l.2.1, nb ks s l.1.toNat l.2.1.toNat l.2.2 (hN l.1.toNat * hN l.2.1.toNat))
def itL (ks : List Nat) (s : Nat) (l : Lev) : Nat → Lev
  | 0 => l
  | n + 1 => nxt ks s (itL ks s l n)
/-- A level and the n that follow. -/
def chn (ks : List Nat) (s : Nat) (l : Lev) (n : Nat) : List Lev := (List.range (n + 1)).map (itL ks s l)
theorem chn_len (ks : List Nat) (s : Nat) (l : Lev) (n : Nat) : (chn ks s l n).length = n + 1 := by simp [chn]
theorem chn_succ (ks : List Nat) (s : Nat) (l : Lev) (n : Nat) : chn ks s l (n + 1) = chn ks s l n ++ [nxt ks s (itL ks s l n)] := by
  unfold chn
  rw [List.range_succ, List.map_append]
  rfl
theorem chn_zero (ks : List Nat) (s : Nat) (l : Lev) : chn ks s l 0 = [l] := rfl
theorem chn_get (ks : List Nat) (s : Nat) (l : Lev) (n i : Nat) (h : i < n + 1) : (chn ks s l n)[i]'(by rw [chn_len]; exact h) = itL ks s l i := by simp [chn]
theorem itL_w (ks : List Nat) (s : Nat) (l : Lev) (n : Nat) : (itL ks s l n).1 = halfs l.1 n ∧ (itL ks s l n).2.1 = halfs l.2.1 n := by
  induction n with
  | zero => exact ⟨rfl, rfl⟩
  | succ n ih =>
    unfold itL nxt halfs
    rw [ih.1, ih.2]
    exact ⟨rfl, rfl⟩
theorem itL_byt {ks : List Nat} {s : Nat} {l : Lev} (h : Byt l.2.2) (n : Nat) : Byt (itL ks s l n).2.2 := by
  cases n with
  | zero => exact h
  | succ n => exact nb_byt _ _ _ _ _ _
theorem itL_good {ks : List Nat} {s : Nat} {l : Lev} (h : goodB s l = true) (n : Nat) : goodB s (itL ks s l n) = true := by
  induction n with
  | zero => exact h
  | succ n ih =>
    obtain ⟨a, b, c⟩ := goodB_iff.1 ih
    refine goodB_iff.2 ⟨half_side a, half_side b, ?_⟩
    show ((nb _ _ _ _ _ _).length : Int) = half _ * half _ * _
    have e1 : half (itL ks s l n).1 = ((hN (itL ks s l n).1.toNat : Nat) : Int) := by rw [hN_half, Int.toNat_of_nonneg (by omega)]
    have e2 : half (itL ks s l n).2.1 = ((hN (itL ks s l n).2.1.toNat : Nat) : Int) := by rw [hN_half, Int.toNat_of_nonneg (by omega)]
    rw [nb_len, e1, e2]
    simp
/-- A pixel laid behind those that are. -/
theorem lay_nb (A ys : List Int) (m : Nat) : layB (A ++ List.replicate m 0) A.length ys = A ++ ys ++ List.replicate (m - ys.length) 0 := by
  unfold layB
  rw [List.take_left, List.drop_append, List.drop_of_length_le (by omega), List.nil_append, Nat.add_sub_cancel_left, List.drop_replicate]
theorem grp_len (s W H : Nat) (xs : List Int) (x y : Nat) : (grp s W H xs x y).length = min 2 W * min 2 H := by simp [grp]
theorem grp_pos {s W H : Nat} {xs : List Int} {x y : Nat} (hW : 1 ≤ W) (hH : 1 ≤ H) : 0 < (grp s W H xs x y).length := by
  rw [grp_len]
  exact Nat.mul_pos (by omega) (by omega)

/-! ### Bits -/
/-- One more bit, above all that are set. -/
theorem low_bit (N : Int) (q n : Nat) (h0 : 0 ≤ N) (hN : N < 2 ^ q) (hq : q < 8 * n) : low (N + 2 ^ q) n = (low N n).set (q / 8) ((low N n).getD (q / 8) 0 + 2 ^ (q % 8)) ∧ 0 ≤ (low N n).getD (q / 8) 0 ∧ (low N n).getD (q / 8) 0 + 2 ^ (q % 8) < 256 := by
  induction n generalizing N q with
  | zero => omega
  | succ n ih =>
    by_cases hq8 : q < 8
    · have e1 : q / 8 = 0 := Nat.div_eq_of_lt hq8
      have e2 : q % 8 = q := Nat.mod_eq_of_lt hq8
      rw [e1, e2]
      have hb : (2 : Int) ^ q ≤ 128 := by
        rcases (by omega : q = 0 ∨ q = 1 ∨ q = 2 ∨ q = 3 ∨ q = 4 ∨ q = 5 ∨ q = 6 ∨ q = 7) with rfl | rfl | rfl | rfl | rfl | rfl | rfl | rfl <;> decide
      have hm : N % 256 = N := Int.emod_eq_of_lt h0 (by omega)
      have hm2 : (N + 2 ^ q) % 256 = N + 2 ^ q := Int.emod_eq_of_lt (by have := two_pow_pos q; omega) (by omega)
      have hd : N / 256 = 0 := Int.ediv_eq_zero_of_lt h0 (by omega)
      have hd2 : (N + 2 ^ q) / 256 = 0 := Int.ediv_eq_zero_of_lt (by have := two_pow_pos q; omega) (by omega)
      simp only [low, hm, hm2, hd, hd2, List.set_cons_zero, List.getD_cons_zero]
      exact ⟨trivial, h0, by omega⟩
    · obtain ⟨p, rfl⟩ : ∃ p, q = p + 8 := ⟨q - 8, by omega⟩
      have e1 : (p + 8) / 8 = p / 8 + 1 := by omega
      have e2 : (p + 8) % 8 = p % 8 := by omega
      have e3 : (2 : Int) ^ (p + 8) = 2 ^ p * 256 := by rw [Int.pow_add]; rfl
      rw [e1, e2]
      have hN2 : N / 256 < 2 ^ p := Int.ediv_lt_of_lt_mul (by omega) (by rw [← e3]; exact hN)
      obtain ⟨i1, i2, i3⟩ := ih (N / 256) p (by omega) hN2 (by omega)
      have hm : (N + 2 ^ (p + 8)) % 256 = N % 256 := by rw [e3]; exact Int.add_mul_emod_self_right _ _ _
      have hd : (N + 2 ^ (p + 8)) / 256 = N / 256 + 2 ^ p := by rw [e3]; exact Int.add_mul_ediv_right _ _ (by omega)
      simp only [low, hm, hd, List.set_cons_succ, List.getD_cons_succ]
      exact ⟨by rw [i1], i2, i3⟩
theorem mod_next (m : Int) (i : Nat) : m % 2 ^ (i + 1) = m % 2 ^ i + 2 ^ i * (m / 2 ^ i % 2) := by
  have e : (2 : Int) ^ (i + 1) = 2 ^ i * 2 := Int.pow_succ _ _
  have h2 := two_pow_pos i
  rw [e]
  have h1 := Int.mul_ediv_add_emod m (2 ^ i)
  have h3 := Int.mul_ediv_add_emod (m / 2 ^ i) 2
  have h4 := Int.mul_ediv_add_emod m (2 ^ i * 2)
  have h5 : m / (2 ^ i * 2) = m / 2 ^ i / 2 := (Int.ediv_ediv_of_nonneg (by omega)).symm
  rw [h5] at h4
  generalize m / 2 ^ i = x at *
  generalize x % 2 = y at *
  generalize x / 2 = z at *
  generalize (2 : Int) ^ i = P at *
  subst h3
  have e6 : P * 2 * z = P * (2 * z) := by rw [Int.mul_assoc]
  rw [e6] at h4
  rw [Int.mul_add] at h1
  omega
theorem emod_two (x a b : Int) (ha : 0 ≤ a) : x % (a * b) = x % a + a * (x / a % b) := by
  have h1 := Int.mul_ediv_add_emod x a
  have h3 := Int.mul_ediv_add_emod (x / a) b
  have h4 := Int.mul_ediv_add_emod x (a * b)
  have h5 : x / (a * b) = x / a / b := (Int.ediv_ediv_of_nonneg ha).symm
  rw [h5] at h4
  generalize x / a = y at *
  generalize y % b = u at *
  generalize y / b = z at *
  subst h3
  rw [Int.mul_assoc] at h4
  rw [Int.mul_add] at h1
  omega
/-- A mean of pixels all of which are the same. -/
theorem chanS_same (p k : Nat) (c : Int) (n : Nat) : chanS p k (List.replicate n c) = n * (c / 2 ^ p % 2 ^ k) := by
  induction n with
  | zero => simp [chanS]
  | succ n ih =>
    rw [List.replicate_succ, chanS, ih, Int.natCast_add, Int.add_mul]
    simp
    omega
theorem chan_same (p k : Nat) (c : Int) (n : Nat) (hn : 0 < n) : chan p k (List.replicate n c) = c / 2 ^ p % 2 ^ k := by
  unfold chan
  rw [chanS_same, List.length_replicate, Int.add_comm, Int.add_mul_ediv_left _ _ (by omega), Int.ediv_eq_zero_of_lt (by omega) (by omega), Int.zero_add]
theorem meanN_same (ks : List Nat) (c : Int) (p n : Nat) (hn : 0 < n) : meanN ks p (List.replicate n c) = c / 2 ^ p % 2 ^ ks.sum * 2 ^ p := by
  induction ks generalizing p with
  | nil => simp [meanN]
  | cons k r ih =>
    rw [meanN, ih, chan_same _ _ _ _ hn, List.sum_cons]
    have e1 : (2 : Int) ^ (p + k) = 2 ^ p * 2 ^ k := Int.pow_add _ _ _
    have e2 : (2 : Int) ^ (k + r.sum) = 2 ^ k * 2 ^ r.sum := Int.pow_add _ _ _
    have hp := two_pow_pos p
    have hk := two_pow_pos k
    rw [e1, e2, ← Int.ediv_ediv_of_nonneg (by omega)]
    generalize c / 2 ^ p = x
    have h1 := Int.mul_ediv_add_emod x (2 ^ k)
    have h2 : x % (2 ^ k * 2 ^ r.sum) = x % 2 ^ k + 2 ^ k * (x / 2 ^ k % 2 ^ r.sum) := emod_two x _ _ (by omega)
    rw [h2, Int.add_mul]
    congr 1
    generalize x / 2 ^ k % 2 ^ r.sum = y
    generalize (2 : Int) ^ k = K
    generalize (2 : Int) ^ p = P
    rw [Int.mul_comm P K, ← Int.mul_assoc, Int.mul_comm y K]
end Go.Proofs.YtgmahpkhdnabjaaGreat
