/-
  Corners: the walk of Triangle. What the dump lacks is left out.
-/
import Derived.Test.YtbhdloanlagddaaHAi
namespace Go.Proofs.Ytbhdloanlagddaa
open Go.RowKit
set_option linter.unusedVariables false
set_option linter.unusedSimpArgs false

theorem vtR_three {W : World} {a b c : Vt} {ao bo co : Option Addr} {ca cb cc ma mb mc g : Nat} {t : TypeId} (hB : Blk W g #[.int .i32 (Vt.p a 0), .int .i32 (Vt.p a 1), .int .i32 (Vt.p a 2), .int .i32 (Vt.p a 3), .int .i32 (Vt.s a), .slice ao ma ca, .int .i32 (Vt.p b 0), .int .i32 (Vt.p b 1), .int .i32 (Vt.p b 2), .int .i32 (Vt.p b 3), .int .i32 (Vt.s b), .slice bo mb cb, .int .i32 (Vt.p c 0), .int .i32 (Vt.p c 1), .int .i32 (Vt.p c 2), .int .i32 (Vt.p c 3), .int .i32 (Vt.s c), .slice co mc cc] t) (ha : VQ W (.slice ao ma ca) a.vs) (hb : VQ W (.slice bo mb cb) b.vs) (hc : VQ W (.slice co mc cc) c.vs) : VtR W (.slice (some ⟨g, 0, none⟩) 3 3) [(a, .slice ao ma ca), (b, .slice bo mb cb), (c, .slice co mc cc)] :=
  ⟨SR.ofBlk (R := [(a, .slice ao ma ca), (b, .slice bo mb cb), (c, .slice co mc cc)]) vxC_len hB (by unfold maxLen; simp), fun x hx => by
    simp only [List.mem_cons, List.not_mem_nil, or_false] at hx
    rcases hx with rfl | rfl | rfl
    · exact ha
    · exact hb
    · exact hc⟩
theorem wxC_one {w : World} {x : Wx} (h : VQ w x.2 x.1.vs) : ∀ u ∈ wxC x, u.oneCell' = true := by
  intro u hu
  simp only [wxC, List.mem_cons, List.not_mem_nil, or_false] at hu
  rcases hu with rfl | rfl | rfl | rfl | rfl | rfl
  · rfl
  · rfl
  · rfl
  · rfl
  · rfl
  · exact SR.one1 h
theorem txC_one {w : World} {t : Tx} (h : TQ w t) : ∀ u ∈ txC t, u.oneCell' = true := by
  intro u hu
  simp only [txC, List.mem_append] at hu
  rcases hu with (hu | hu) | hu
  · exact wxC_one h.1 u hu
  · exact wxC_one h.2.1 u hu
  · exact wxC_one h.2.2 u hu
theorem infoTn : (Try.prog.info? 45).map (fun i => (i.zero, i.size, i.bytes)) = some (some (.agg #[.int .i64 0, .int .i64 0, .int .i32 0, .int .i32 0, .int .i32 0, .slice none 0 0, .int .i64 0, .int .i64 0, .int .i32 0, .int .i32 0, .int .i32 0, .slice none 0 0, .int .i64 0, .int .i64 0, .int .i32 0, .int .i32 0, .int .i32 0, .slice none 0 0]), 18, 168) := by kernel_rfl
/-- Vars of three corners do not lie in a block. -/
def TOff (t : Tx) (r : Option Nat) : Prop := Off t.1.2 t.1.1.vs r ∧ Off t.2.1.2 t.2.1.1.vs r ∧ Off t.2.2.2 t.2.2.1.vs r
/-- Triangles that are the call's own. -/
structure TnO (w : World) (base : Nat) (v : Value) (R : List Tx) : Prop where
  own : GO txC 45 18 w base v R
  vars : ∀ x ∈ R, TQ w x ∧ TOff x v.ownBlock
theorem TnO.nil (w : World) (base : Nat) : TnO w base (.slice none 0 0) [] := ⟨GO.nil _ _, by simp⟩
theorem TnO.r {w : World} {base : Nat} {v : Value} {R : List Tx} (h : TnO w base v R) : TnR w v R := ⟨h.own.sr txC_len, fun x hx => (h.vars x hx).1⟩
theorem TnO.ext {w w' : World} {base : Nat} {v : Value} {R : List Tx} (h : TnO w base v R) (hx : Ext w w') : TnO w' base v R := ⟨GO.ext h.own hx, fun x hx2 => ⟨(h.vars x hx2).1.ext hx, (h.vars x hx2).2⟩⟩
theorem off_more {w w1 w9 : World} {u : Value} {vs : List (Nat → Int)} {r r9 : Option Nat} (hq : VQ w1 u vs) (ho : Off u vs r) (h3 : ∀ b, r9 = some b → r = some b ∨ w1.heap.size ≤ b) : Off u vs r9 := fun hne b hb e => by
  rcases h3 b hb with h | h
  · exact ho hne b h e
  · have := SR.lt hq vEnc_len (by decide) hne b e
    omega
/-- One more triangle. -/
theorem push_tn {w W W1 : World} {R : List Tx} {y : Tx} {v : Value} {g : Nat} {t : TypeId} (hR : TnO W w.heap.size v R) (hX : Ext w W) (hx : Ext W W1) (hB : Blk W1 g (txC y).toArray t) (hy : TQ W1 y) (ho : TOff y v.ownBlock) (hl : R.length ≤ 1000) :
    ∃ ao2 cap2 N w9, N = R ++ [y] ∧ (Builtin.append_ #[33, 33] 33 #[v, .slice (some ⟨g, 0, none⟩) 1 1]).run Try.prog W1 = .ok (.slice ao2 N.length cap2) w9 ∧ TnO w9 w.heap.size (.slice ao2 N.length cap2) N ∧ Ext w w9 := by
  have hX1 := hX.trans hx
  have hR1 := hR.ext hx
  have hS : SR txC 18 W1 (.slice (some ⟨g, 0, none⟩) [y].length [y].length) [y] := SR.ofBlk (t := t) txC_len (by simpa using hB) (by unfold maxLen; simp)
  obtain ⟨ao2, cap2, N, w9, hN, hrun, r1, r2, r3⟩ := run_append_GL (P := Try.prog) (t := 33) 33 infoTn Try.underlying33 rfl (by decide) (by decide) w.heap.size v R [y] hR1.own _ hS (by simp) txC_len (fun x hx => by rw [List.mem_singleton] at hx; subst hx; exact txC_one hy) (by simp; omega) hX1.size
  refine ⟨ao2, cap2, N, w9, hN, hrun, ⟨r1, ?_⟩, hX1.grown r2 hX1.size (fun r hr => (GO.lt hR1.own r hr).1)⟩
  subst hN
  intro x hx2
  have key : TQ W1 x ∧ TOff x v.ownBlock := by
    rcases List.mem_append.1 hx2 with h | h
    · exact hR1.vars x h
    · rw [List.mem_singleton] at h
      subst h
      exact ⟨hy, ho⟩
  exact ⟨⟨VQ.grown key.1.1 r2 key.2.1, VQ.grown key.1.2.1 r2 key.2.2.1, VQ.grown key.1.2.2 r2 key.2.2.2⟩, off_more (w := w) (w9 := w9) key.1.1 key.2.1 r3, off_more (w := w) (w9 := w9) key.1.2.1 key.2.2.1 r3, off_more (w := w) (w9 := w9) key.1.2.2 key.2.2.2 r3⟩
/-- What lay answers, the number of Vars known. -/
def LzQ (v : Vw) (x : Vt) (la : Nat) (w : World) (e : Ending) (w' : World) : Prop := ∃ a c, e = .returned (.agg #[.int .i64 (Wn.x (layW v x)), .int .i64 (Wn.y (layW v x)), .int .i32 (Wn.z (layW v x)), .int .i32 (Wn.w (layW v x)), .int .i32 (Wn.s (layW v x)), .slice a la c]) ∧ VQ w' (.slice a la c) x.vs ∧ (∀ b, (Value.slice a la c).ownBlock = some b → w.heap.size ≤ b) ∧ Ext w w'
theorem lz_any {v : Vw} {x : Vt} {u : Value} {la : Nat} {w : World} (h : VQ w u x.vs) (hl : x.vs.length = la) (hm : la ≤ 4) (hv : vwOk v = true) (hI : Vt32 x) : Calls Try.prog 33 #[.agg #[.int .i64 (Vw.X v), .int .i64 (Vw.Y v), .int .i64 (Vw.W v), .int .i64 (Vw.H v), .int .i32 (Vw.Nr v), .int .i32 (Vw.Fr v)], .agg #[.int .i32 (Vt.p x 0), .int .i32 (Vt.p x 1), .int .i32 (Vt.p x 2), .int .i32 (Vt.p x 3), .int .i32 (Vt.s x), u]] w (LzQ v x la w) := by
  refine (layC_any v x u w h (by omega) hv hI).mono ?_
  rintro e w' ⟨u', rfl, h1, h2, ⟨a, c, rfl⟩, h4⟩
  rw [hl] at h1 h2 ⊢
  exact ⟨a, c, rfl, h1, h2, h4⟩
/-- May these be cut? -/
def triOk (v : Vw) (L : List Vt) : Bool := vwOk v && clA L
/-- What Triangle answers. -/
def TrQ (w : World) (v : Vw) (L : List Vt) (e : Ending) (w' : World) : Prop :=
  if triOk v L = true then ∃ v' R', e = .returned (.tuple #[v', .int .i64 0]) ∧ R'.map txP = triP v L ∧ TnR w' v' R' ∧ Ext w w' else e = .returned (.tuple #[.slice none 0 0, .int .i64 2]) ∧ Ext w w'
theorem tr_bad {w w' : World} {v : Vw} {L : List Vt} (h : ¬ triOk v L = true) (hx : Ext w w') : TrQ w v L (.returned (.tuple #[.slice none 0 0, .int .i64 2])) w' := by
  unfold TrQ
  rw [if_neg h]
  exact ⟨rfl, hx⟩
theorem tr_ok {w w' : World} {v : Vw} {L : List Vt} {v' : Value} {R' : List Tx} (h : triOk v L = true) (hm : R'.map txP = triP v L) (hr : TnR w' v' R') (hx : Ext w w') : TrQ w v L (.returned (.tuple #[v', .int .i64 0])) w' := by
  unfold TrQ
  rw [if_pos h]
  exact ⟨v', R', rfl, hm, hr, hx⟩

theorem alike_three (a b c : Vt) (ao bo co : Option Addr) (la lb lc ca cb cc : Nat) (g : Nat) (w : World) (hB : Blk w g #[.int .i32 (Vt.p a 0), .int .i32 (Vt.p a 1), .int .i32 (Vt.p a 2), .int .i32 (Vt.p a 3), .int .i32 (Vt.s a), .slice ao la ca, .int .i32 (Vt.p b 0), .int .i32 (Vt.p b 1), .int .i32 (Vt.p b 2), .int .i32 (Vt.p b 3), .int .i32 (Vt.s b), .slice bo lb cb, .int .i32 (Vt.p c 0), .int .i32 (Vt.p c 1), .int .i32 (Vt.p c 2), .int .i32 (Vt.p c 3), .int .i32 (Vt.s c), .slice co lc cc] 29) (ha : a.vs.length = la) (hb : b.vs.length = lb) (hc : c.vs.length = lc) :
    Calls Try.prog 30 #[.slice (some ⟨g, 0, none⟩) 3 3] w fun e w' => e = .returned (.bool (clA [a, b, c])) ∧ Ext w w' := by
  have hS : SR vxC 6 w (.slice (some ⟨g, 0, none⟩) 3 3) [(a, .slice ao la ca), (b, .slice bo lb cb), (c, .slice co lc cc)] := SR.ofBlk (R := [(a, .slice ao la ca), (b, .slice bo lb cb), (c, .slice co lc cc)]) vxC_len hB (by unfold maxLen; simp)
  refine (alike_any _ _ w hS (fun y hy => ?_) (by simp)).mono ?_
  · simp only [List.mem_cons, List.not_mem_nil, or_false] at hy
    rcases hy with rfl | rfl | rfl
    · exact ⟨ao, ca, by rw [ha]⟩
    · exact ⟨bo, cb, by rw [hb]⟩
    · exact ⟨co, cc, by rw [hc]⟩
  · rintro e w' ⟨rfl, hx⟩
    exact ⟨rfl, hx⟩
set_option maxRecDepth 10000 in
set_option maxHeartbeats 8000000 in
theorem triC_any (v : Vw) (a b c : Vt) (ua ub uc : Value) (w : World) (ha : VQ w ua a.vs) (hb : VQ w ub b.vs) (hc : VQ w uc c.vs) (I1 : Vt32 a) (I2 : Vt32 b) (I3 : Vt32 c) :
    Calls Try.prog 10 #[.agg #[.int .i64 (Vw.X v), .int .i64 (Vw.Y v), .int .i64 (Vw.W v), .int .i64 (Vw.H v), .int .i32 (Vw.Nr v), .int .i32 (Vw.Fr v)], .agg #[.int .i32 (Vt.p a 0), .int .i32 (Vt.p a 1), .int .i32 (Vt.p a 2), .int .i32 (Vt.p a 3), .int .i32 (Vt.s a), ua], .agg #[.int .i32 (Vt.p b 0), .int .i32 (Vt.p b 1), .int .i32 (Vt.p b 2), .int .i32 (Vt.p b 3), .int .i32 (Vt.s b), ub], .agg #[.int .i32 (Vt.p c 0), .int .i32 (Vt.p c 1), .int .i32 (Vt.p c 2), .int .i32 (Vt.p c 3), .int .i32 (Vt.s c), uc]] w (TrQ w v [a, b, c]) := by
  obtain ⟨ao, ca, rfl⟩ := VQ.slc ha
  obtain ⟨bo, cb, rfl⟩ := VQ.slc hb
  obtain ⟨co, cc, rfl⟩ := VQ.slc hc
  obtain ⟨la, hla⟩ : ∃ la, a.vs.length = la := ⟨_, rfl⟩
  obtain ⟨lb, hlb⟩ : ∃ lb, b.vs.length = lb := ⟨_, rfl⟩
  obtain ⟨lc, hlc⟩ : ∃ lc, c.vs.length = lc := ⟨_, rfl⟩
  rw [hla] at ha ⊢
  rw [hlb] at hb ⊢
  rw [hlc] at hc ⊢
  have hV : Blk ((((w.alloc (.cells #[.int .i64 (Vw.X v), .int .i64 (Vw.Y v), .int .i64 (Vw.W v), .int .i64 (Vw.H v), .int .i32 (Vw.Nr v), .int .i32 (Vw.Fr v)] 24)).alloc (.cells #[.int .i32 (Vt.p a 0), .int .i32 (Vt.p a 1), .int .i32 (Vt.p a 2), .int .i32 (Vt.p a 3), .int .i32 (Vt.s a), .slice ao la ca] 29)).alloc (.cells #[.int .i32 (Vt.p b 0), .int .i32 (Vt.p b 1), .int .i32 (Vt.p b 2), .int .i32 (Vt.p b 3), .int .i32 (Vt.s b), .slice bo lb cb] 29)).alloc (.cells #[.int .i32 (Vt.p c 0), .int .i32 (Vt.p c 1), .int .i32 (Vt.p c 2), .int .i32 (Vt.p c 3), .int .i32 (Vt.s c), .slice co lc cc] 29)) w.heap.size #[.int .i64 (Vw.X v), .int .i64 (Vw.Y v), .int .i64 (Vw.W v), .int .i64 (Vw.H v), .int .i32 (Vw.Nr v), .int .i32 (Vw.Fr v)] 24 := (((Blk.new _ _ _).alloc _).alloc _).alloc _
  have hA : Blk ((((w.alloc (.cells #[.int .i64 (Vw.X v), .int .i64 (Vw.Y v), .int .i64 (Vw.W v), .int .i64 (Vw.H v), .int .i32 (Vw.Nr v), .int .i32 (Vw.Fr v)] 24)).alloc (.cells #[.int .i32 (Vt.p a 0), .int .i32 (Vt.p a 1), .int .i32 (Vt.p a 2), .int .i32 (Vt.p a 3), .int .i32 (Vt.s a), .slice ao la ca] 29)).alloc (.cells #[.int .i32 (Vt.p b 0), .int .i32 (Vt.p b 1), .int .i32 (Vt.p b 2), .int .i32 (Vt.p b 3), .int .i32 (Vt.s b), .slice bo lb cb] 29)).alloc (.cells #[.int .i32 (Vt.p c 0), .int .i32 (Vt.p c 1), .int .i32 (Vt.p c 2), .int .i32 (Vt.p c 3), .int .i32 (Vt.s c), .slice co lc cc] 29)) (w.heap.size + 1) #[.int .i32 (Vt.p a 0), .int .i32 (Vt.p a 1), .int .i32 (Vt.p a 2), .int .i32 (Vt.p a 3), .int .i32 (Vt.s a), .slice ao la ca] 29 := ((Blk.at (by simp)).alloc _).alloc _
  have hBb : Blk ((((w.alloc (.cells #[.int .i64 (Vw.X v), .int .i64 (Vw.Y v), .int .i64 (Vw.W v), .int .i64 (Vw.H v), .int .i32 (Vw.Nr v), .int .i32 (Vw.Fr v)] 24)).alloc (.cells #[.int .i32 (Vt.p a 0), .int .i32 (Vt.p a 1), .int .i32 (Vt.p a 2), .int .i32 (Vt.p a 3), .int .i32 (Vt.s a), .slice ao la ca] 29)).alloc (.cells #[.int .i32 (Vt.p b 0), .int .i32 (Vt.p b 1), .int .i32 (Vt.p b 2), .int .i32 (Vt.p b 3), .int .i32 (Vt.s b), .slice bo lb cb] 29)).alloc (.cells #[.int .i32 (Vt.p c 0), .int .i32 (Vt.p c 1), .int .i32 (Vt.p c 2), .int .i32 (Vt.p c 3), .int .i32 (Vt.s c), .slice co lc cc] 29)) (w.heap.size + 1 + 1) #[.int .i32 (Vt.p b 0), .int .i32 (Vt.p b 1), .int .i32 (Vt.p b 2), .int .i32 (Vt.p b 3), .int .i32 (Vt.s b), .slice bo lb cb] 29 := (Blk.at (by simp)).alloc _
  have hCc : Blk ((((w.alloc (.cells #[.int .i64 (Vw.X v), .int .i64 (Vw.Y v), .int .i64 (Vw.W v), .int .i64 (Vw.H v), .int .i32 (Vw.Nr v), .int .i32 (Vw.Fr v)] 24)).alloc (.cells #[.int .i32 (Vt.p a 0), .int .i32 (Vt.p a 1), .int .i32 (Vt.p a 2), .int .i32 (Vt.p a 3), .int .i32 (Vt.s a), .slice ao la ca] 29)).alloc (.cells #[.int .i32 (Vt.p b 0), .int .i32 (Vt.p b 1), .int .i32 (Vt.p b 2), .int .i32 (Vt.p b 3), .int .i32 (Vt.s b), .slice bo lb cb] 29)).alloc (.cells #[.int .i32 (Vt.p c 0), .int .i32 (Vt.p c 1), .int .i32 (Vt.p c 2), .int .i32 (Vt.p c 3), .int .i32 (Vt.s c), .slice co lc cc] 29)) (w.heap.size + 1 + 1 + 1) #[.int .i32 (Vt.p c 0), .int .i32 (Vt.p c 1), .int .i32 (Vt.p c 2), .int .i32 (Vt.p c 3), .int .i32 (Vt.s c), .slice co lc cc] 29 := Blk.at (by simp)
  have hX : Ext w ((((w.alloc (.cells #[.int .i64 (Vw.X v), .int .i64 (Vw.Y v), .int .i64 (Vw.W v), .int .i64 (Vw.H v), .int .i32 (Vw.Nr v), .int .i32 (Vw.Fr v)] 24)).alloc (.cells #[.int .i32 (Vt.p a 0), .int .i32 (Vt.p a 1), .int .i32 (Vt.p a 2), .int .i32 (Vt.p a 3), .int .i32 (Vt.s a), .slice ao la ca] 29)).alloc (.cells #[.int .i32 (Vt.p b 0), .int .i32 (Vt.p b 1), .int .i32 (Vt.p b 2), .int .i32 (Vt.p b 3), .int .i32 (Vt.s b), .slice bo lb cb] 29)).alloc (.cells #[.int .i32 (Vt.p c 0), .int .i32 (Vt.p c 1), .int .i32 (Vt.p c 2), .int .i32 (Vt.p c 3), .int .i32 (Vt.s c), .slice co lc cc] 29)) := ((((Ext.refl w).alloc _).alloc _).alloc _).alloc _
  obtain ⟨g0, g1, g2, g3, g4, g5⟩ := hV.six
  obtain ⟨wc, hwc⟩ : ∃ wc, wc = ((((w.alloc (.cells #[.int .i64 (Vw.X v), .int .i64 (Vw.Y v), .int .i64 (Vw.W v), .int .i64 (Vw.H v), .int .i32 (Vw.Nr v), .int .i32 (Vw.Fr v)] 24)).alloc (.cells #[.int .i32 (Vt.p a 0), .int .i32 (Vt.p a 1), .int .i32 (Vt.p a 2), .int .i32 (Vt.p a 3), .int .i32 (Vt.s a), .slice ao la ca] 29)).alloc (.cells #[.int .i32 (Vt.p b 0), .int .i32 (Vt.p b 1), .int .i32 (Vt.p b 2), .int .i32 (Vt.p b 3), .int .i32 (Vt.s b), .slice bo lb cb] 29)).alloc (.cells #[.int .i32 (Vt.p c 0), .int .i32 (Vt.p c 1), .int .i32 (Vt.p c 2), .int .i32 (Vt.p c 3), .int .i32 (Vt.s c), .slice co lc cc] 29)) := ⟨_, rfl⟩
  rw [← hwc] at hV hA hBb hCc hX
  have HB := hide (And.intro hV (And.intro hA (And.intro hBb (And.intro hCc hX))))
  have HQ := hide (fun wx (hx : Ext wc wx) => show VQ wx (.slice ao la ca) a.vs ∧ VQ wx (.slice bo lb cb) b.vs ∧ VQ wx (.slice co lc cc) c.vs from ⟨SR.ext ha (hX.trans hx), SR.ext hb (hX.trans hx), SR.ext hc (hX.trans hx)⟩)
  have HI := hide (And.intro I1 (And.intro I2 I3))
  have HRT := hide (fun wx => rightC_any v wx)
  have HAL := hide (fun (g : Nat) (wx : World) hB => alike_three a b c ao bo co la lb lc ca cb cc g wx hB hla hlb hlc)
  have HLL := hide (And.intro hla (And.intro hlb hlc))
  clear ha hb hc I1 I2 I3 hV hA hBb hCc hX hla hlb hlc
  cases h1 : vwOk v with
  | false =>
    have HN := hide (show ¬ triOk v [a, b, c] = true by unfold triOk; rw [h1]; simp)
    rw [h1] at HRT
    clear h1 HAL
    go_enter Try.func10, Try.ntmps10
    go_wp2_with fail
    refine (unhide HRT _).mono ?_
    rintro e w1 ⟨rfl, hx1⟩
    rw [← hwc] at hx1
    have X1 := hide hx1
    clear hx1 hwc g0 g1 g2 g3 g4 g5
    go_wp2
    refine bodyPost_ret (v := .tuple #[.slice none 0 0, .int .i64 2]) (by simp [results, Try.results10, go_sem]) rfl (tr_bad (unhide HN) ((unhide HB).2.2.2.2.trans (unhide X1)))
  | true =>
    rw [h1] at HRT
    cases h2 : clA [a, b, c] with
    | false =>
      have HN := hide (show ¬ triOk v [a, b, c] = true by unfold triOk; rw [h2]; simp)
      rw [h2] at HAL
      clear h1 h2
      go_enter Try.func10, Try.ntmps10
      go_wp2_with fail
      refine (unhide HRT _).mono ?_
      rintro e w1 ⟨rfl, hx1⟩
      rw [← hwc] at hx1
      have X1 := hide hx1
      clear hx1 hwc g0 g1 g2 g3 g4 g5
      obtain ⟨p0, p1, p2, p3, p4, p5⟩ := ((unhide HB).2.1.ext (unhide X1)).six
      obtain ⟨q0, q1, q2, q3, q4, q5⟩ := ((unhide HB).2.2.1.ext (unhide X1)).six
      obtain ⟨s0, s1, s2, s3, s4, s5⟩ := ((unhide HB).2.2.2.1.ext (unhide X1)).six
      go_wp2_with (go_at_call 30; refine (unhide HAL _ _ (Blk.new _ _ _)).mono ?_; rintro e w2 ⟨rfl, hx2⟩; have X2 := hide ((unhide X1).trans (((Ext.refl w1).alloc _).trans hx2)); clear hx2)
      refine bodyPost_ret (v := .tuple #[.slice none 0 0, .int .i64 2]) (by simp [results, Try.results10, go_sem]) rfl (tr_bad (unhide HN) ((unhide HB).2.2.2.2.trans (unhide X2)))
    | true =>
      have HOK := hide (show triOk v [a, b, c] = true by unfold triOk; rw [h1, h2]; rfl)
      have HLN := hide (clA_len h2)
      have HVW := hide h1
      rw [h2] at HAL
      clear h1 h2
      go_enter Try.func10, Try.ntmps10
      go_wp2_with fail
      refine (unhide HRT _).mono ?_
      rintro e w1 ⟨rfl, hx1⟩
      rw [← hwc] at hx1
      have X1 := hide hx1
      clear hx1 hwc g0 g1 g2 g3 g4 g5
      obtain ⟨p0, p1, p2, p3, p4, p5⟩ := ((unhide HB).2.1.ext (unhide X1)).six
      obtain ⟨q0, q1, q2, q3, q4, q5⟩ := ((unhide HB).2.2.1.ext (unhide X1)).six
      obtain ⟨s0, s1, s2, s3, s4, s5⟩ := ((unhide HB).2.2.2.1.ext (unhide X1)).six
      go_wp2_with (go_at_call 30; refine (unhide HAL _ _ (Blk.new _ _ _)).mono ?_; rintro e w2 ⟨rfl, hx2⟩; have X2 := hide ((unhide X1).trans (((Ext.refl w1).alloc _).trans hx2)); clear hx2 p0 p1 p2 p3 p4 p5 q0 q1 q2 q3 q4 q5 s0 s1 s2 s3 s4 s5; obtain ⟨p0, p1, p2, p3, p4, p5⟩ := ((unhide HB).2.1.ext (unhide X2)).six; obtain ⟨q0, q1, q2, q3, q4, q5⟩ := ((unhide HB).2.2.1.ext (unhide X2)).six; obtain ⟨s0, s1, s2, s3, s4, s5⟩ := ((unhide HB).2.2.2.1.ext (unhide X2)).six)
      have HM := hide (show ∀ x ∈ [a, b, c], x.vs.length = la from fun x hx => by
        have e1 := ((unhide HLN) x hx).1
        have e2 := (unhide HLL).1
        rw [e1]
        exact e2)
      have HM4 := hide (show la ≤ 4 by
        have e1 := ((unhide HLN) a (by simp)).2
        have e2 := (unhide HLL).1
        omega)
      have H32 := hide (show ∀ x ∈ [a, b, c], Vt32 x from fun x hx => by
        simp only [List.mem_cons, List.not_mem_nil, or_false] at hx
        rcases hx with rfl | rfl | rfl
        · exact (unhide HI).1
        · exact (unhide HI).2.1
        · exact (unhide HI).2.2)
      have X3 := hide ((unhide X2).trans ((Ext.refl w2).alloc (.cells #[.int .i32 (Vt.p a 0), .int .i32 (Vt.p a 1), .int .i32 (Vt.p a 2), .int .i32 (Vt.p a 3), .int .i32 (Vt.s a), .slice ao la ca, .int .i32 (Vt.p b 0), .int .i32 (Vt.p b 1), .int .i32 (Vt.p b 2), .int .i32 (Vt.p b 3), .int .i32 (Vt.s b), .slice bo lb cb, .int .i32 (Vt.p c 0), .int .i32 (Vt.p c 1), .int .i32 (Vt.p c 2), .int .i32 (Vt.p c 3), .int .i32 (Vt.s c), .slice co lc cc] 29)))
      have HR0 := hide (vtR_three (t := 29) (Blk.new w2 #[.int .i32 (Vt.p a 0), .int .i32 (Vt.p a 1), .int .i32 (Vt.p a 2), .int .i32 (Vt.p a 3), .int .i32 (Vt.s a), .slice ao la ca, .int .i32 (Vt.p b 0), .int .i32 (Vt.p b 1), .int .i32 (Vt.p b 2), .int .i32 (Vt.p b 3), .int .i32 (Vt.s b), .slice bo lb cb, .int .i32 (Vt.p c 0), .int .i32 (Vt.p c 1), .int .i32 (Vt.p c 2), .int .i32 (Vt.p c 3), .int .i32 (Vt.s c), .slice co lc cc] 29) ((unhide HQ) _ (unhide X3)).1 ((unhide HQ) _ (unhide X3)).2.1 ((unhide HQ) _ (unhide X3)).2.2)
      obtain ⟨L, hL⟩ : ∃ L, [a, b, c] = L := ⟨_, rfl⟩
      have HL3 := hide (show L.length = 3 by rw [← hL]; rfl)
      rw [hL] at HM H32 HOK HLN
      have HLE := hide hL
      clear hL HAL HRT HQ HI HLL HLN
      go_loopw [10, 29] (fun rv iv wr => ∃ (k : Nat) (R' : List Vx) (ro : Option Addr) (rc : Nat), k ≤ 7 ∧ iv = .int .i64 (k : Int) ∧ rv = .slice ro R'.length rc ∧ R'.map Prod.fst = clCs L k ∧ VtR wr (.slice ro R'.length rc) R' ∧ Ext wc wr) (fun _ iv _ => 7 - (intOf iv).toNat)
      case atStart => exact ⟨0, [(a, .slice ao la ca), (b, .slice bo lb cb), (c, .slice co lc cc)], _, _, by omega, rfl, rfl, by rw [← unhide HLE]; rfl, unhide HR0, unhide X3⟩
      case round =>
        clear HR0 X3
        obtain ⟨k, R', ro, rc, hk, rfl, rfl, hR', hV', hX'⟩ := hrel
        have D := hide (And.intro hR' (And.intro hV' hX'))
        have HLL := hide (show R'.length ≤ 42 by
          have h1 := congrArg List.length hR'
          have h2 := clCs_lenK (unhide HL3) k hk
          rw [List.length_map] at h1
          omega)
        have HMM := hide (show ∀ x ∈ R', x.1.vs.length = la from fun x hx => clCs_vs (unhide HM) k x.1 (by rw [← hR']; exact List.mem_map_of_mem hx))
        have H33 := hide (show ∀ x ∈ R', Vt32 x.1 from fun x hx => clCs_32 (unhide H32) k x.1 (by rw [← hR']; exact List.mem_map_of_mem hx))
        clear hR' hV' hX'
        by_cases hlt : k < 7
        · have hlt2 : (k : Int) < 7 := by omega
          have HCR := hide (cutRow_any (.slice ro R'.length rc) R' (k : Int) la wr (unhide D).2.1 (unhide HMM) (unhide HM4) (unhide H33) (by have := unhide HLL; omega))
          go_wp2_with (go_at_call 31; refine (unhide HCR).mono ?_; rintro e w5 ⟨v5, R5, rfl, hm5, hO5, hx5⟩; obtain ⟨ro5, rc5, rfl, _⟩ := GO.shape hO5.own; have H5 := hide (And.intro hm5 (And.intro hO5.r hx5)); clear hm5 hO5 hx5)
          go_roundw
          case rel => exact ⟨k + 1, R5, ro5, rc5, by omega, by push_cast; rfl, rfl, by rw [(unhide H5).1, (unhide D).1]; rfl, (unhide H5).2.1, (unhide D).2.2.trans (unhide H5).2.2⟩
          case measure => simp [intOf]; omega
        · obtain rfl : k = 7 := by omega
          obtain ⟨M, hM⟩ : ∃ M, clCs L 7 = M := ⟨_, rfl⟩
          have HMD := hide hM
          rw [hM] at D
          clear hM
          have HAX := hide (allX_map R' 0)
          have HTP := hide (show triP v L = if allIn M 0 = true then fanK v M (M.length - 2) else [] by unfold triP; rw [unhide HMD])
          have hl := unhide HLL
          have HLI := hide (lie_any 0 (.slice ro R'.length rc) R' wr (unhide D).2.1.row (fun x hx => VQ.slc ((unhide D).2.1.vars x hx)) (fun x hx => ((unhide H33) x hx).1) (by omega))
          cases h3 : allX R' 0 with
          | false =>
            have HE := hide (show triP v L = [] by
              have e := unhide HAX
              rw [(unhide D).1, h3] at e
              rw [unhide HTP, e]
              rfl)
            rw [h3] at HLI
            clear h3 HAX HTP
            go_wp2_with (go_at_call 32; refine (unhide HLI).mono ?_; rintro e w6 ⟨rfl, hx6⟩; have X6 := hide hx6; clear hx6)
            refine bodyPost_ret (v := .tuple #[.slice none 0 0, .int .i64 0]) (by simp [results, Try.results10, go_sem]) rfl ?_
            rw [unhide HLE]
            exact tr_ok (R' := []) (unhide HOK) (by rw [unhide HE]; rfl) ⟨SR.nil _, by simp⟩ ((unhide HB).2.2.2.2.trans ((unhide D).2.2.trans (unhide X6)))
          | true =>
            have HE := hide (show triP v L = fanK v M (M.length - 2) by
              have e := unhide HAX
              rw [(unhide D).1, h3] at e
              rw [unhide HTP, if_pos e])
            have HML := hide (show M.length = R'.length by rw [← (unhide D).1]; simp)
            rw [h3] at HLI
            clear h3 HAX HTP
            go_wp2_with (go_at_call 32; refine (unhide HLI).mono ?_; rintro e w6 ⟨rfl, hx6⟩; have X6 := hide hx6; clear hx6)
            obtain ⟨wq, rfl⟩ : ∃ wq, wq = wr := ⟨_, rfl⟩
            have XW := hide ((unhide D).2.2.trans (unhide X6))
            go_loopw [12, 13] (fun fv iv wx => ∃ (j k : Nat) (R3 : List Tx) (fo : Option Addr) (fc : Nat), j = k + 1 ∧ k ≤ R'.length - 2 ∧ iv = .int .i64 (j : Int) ∧ fv = .slice fo R3.length fc ∧ R3.map txP = fanK v M k ∧ TnO wx w6.heap.size (.slice fo R3.length fc) R3 ∧ Ext w6 wx) (fun _ iv _ => R'.length + 2 - (intOf iv).toNat)
            case atStart => exact ⟨1, 0, [], none, 0, rfl, Nat.zero_le _, rfl, rfl, rfl, TnO.nil _ _, Ext.refl _⟩
            case round =>
              obtain ⟨j, k, R3, fo, fc, hjk, hk, rfl, rfl, hf1, hf2, hf3⟩ := hrel
              have E := hide (And.intro hf1 (And.intro hf2 hf3))
              have HJK := hide (And.intro hjk hk)
              clear hf1 hf2 hf3 hjk hk
              by_cases hlt : j + 1 < R'.length
              · have hj1 : (j : Int) < (R'.length : Int) := by omega
                have hj2 : (j : Int) + 1 < (R'.length : Int) := by omega
                have hj0 : (0 : Int) < (R'.length : Int) := by omega
                have hj00 : 0 < R'.length := by omega
                have ht1 : ((j : Int) + 1).toNat = j + 1 := by omega
                have hg1 : (0 : Int) ≤ (j : Int) + 1 := by omega
                have hw1 : IntKind.i64.wrap ((j : Int) + 1) = (j : Int) + 1 := by simp [IntKind.wrap, IntKind.bits, IntKind.signed]; omega
                go_upto_region 15 with fail
                obtain ⟨b, off, hro, hc⟩ := vt_all (unhide D).2.1.row (by omega)
                have hc0 := hc 0 (by omega)
                have hc1 := hc j (by omega)
                have hc2 := hc (j + 1) hlt
                rw [Nat.zero_mul, Nat.add_zero] at hc0
                have mem := fun i (hi : i < R'.length) => show R'[i] ∈ R' from List.getElem_mem hi
                have HLY := hide (fun (x : Vx) (hx : x ∈ R') wy (hy : Ext wq wy) => show Calls Try.prog 33 #[.agg #[.int .i64 (Vw.X v), .int .i64 (Vw.Y v), .int .i64 (Vw.W v), .int .i64 (Vw.H v), .int .i32 (Vw.Nr v), .int .i32 (Vw.Fr v)], .agg #[.int .i32 (Vt.p x.1 0), .int .i32 (Vt.p x.1 1), .int .i32 (Vt.p x.1 2), .int .i32 (Vt.p x.1 3), .int .i32 (Vt.s x.1), x.2]] wy (LzQ v x.1 la wy) from lz_any (SR.ext ((unhide D).2.1.vars x hx) hy) ((unhide HMM) x hx) (unhide HM4) (unhide HVW) ((unhide H33) x hx))
                have L0 := hide ((unhide HLY) _ (mem 0 (by omega)))
                have L1 := hide ((unhide HLY) _ (mem j (by omega)))
                have L2 := hide ((unhide HLY) _ (mem (j + 1) hlt))
                have HFK := hide (show fanK v M (k + 1) = fanK v M k ++ [(layW v (R'[0]'(by omega)).1, layW v (R'[j]'(by omega)).1, layW v R'[j + 1].1)] by
                  rw [fanK_succ, ← (unhide D).1, getD_fst (by have := (unhide HJK).1; omega), getD_fst (by have := (unhide HJK).1; omega), getD_fst (by have := (unhide HJK).1; omega)]
                  obtain ⟨hjk, _⟩ := unhide HJK
                  subst hjk
                  rfl)
                obtain ⟨p0, q0, e0⟩ := VQ.slc ((unhide D).2.1.vars _ (mem 0 (by omega)))
                obtain ⟨p1, q1, e1⟩ := VQ.slc ((unhide D).2.1.vars _ (mem j (by omega)))
                obtain ⟨p2, q2, e2⟩ := VQ.slc ((unhide D).2.1.vars _ (mem (j + 1) hlt))
                rw [(unhide HMM) _ (mem _ _)] at e0 e1 e2
                clear hc mem HLY
                generalize (R'[0]'(by omega)) = x0 at *
                generalize (R'[j]'(by omega)) = x1 at *
                generalize R'[j + 1] = x2 at *
                obtain ⟨x0, u0⟩ := x0
                obtain ⟨x1, u1⟩ := x1
                obtain ⟨x2, u2⟩ := x2
                simp only at hc0 hc1 hc2 e0 e1 e2 L0 L1 L2 HFK
                subst e0 e1 e2 hro
                have k00 : ∀ wy, Ext w6 wy → wy.cell? ⟨b, off, none⟩ = some (.int .i32 (Vt.p x0 0)) := fun wy hy => (hc0 wy ((unhide X6).trans hy)).1
                have k01 : ∀ wy, Ext w6 wy → wy.cell? ⟨b, off + 1, none⟩ = some (.int .i32 (Vt.p x0 1)) := fun wy hy => (hc0 wy ((unhide X6).trans hy)).2.1
                have k02 : ∀ wy, Ext w6 wy → wy.cell? ⟨b, off + 2, none⟩ = some (.int .i32 (Vt.p x0 2)) := fun wy hy => (hc0 wy ((unhide X6).trans hy)).2.2.1
                have k03 : ∀ wy, Ext w6 wy → wy.cell? ⟨b, off + 3, none⟩ = some (.int .i32 (Vt.p x0 3)) := fun wy hy => (hc0 wy ((unhide X6).trans hy)).2.2.2.1
                have k04 : ∀ wy, Ext w6 wy → wy.cell? ⟨b, off + 4, none⟩ = some (.int .i32 (Vt.s x0)) := fun wy hy => (hc0 wy ((unhide X6).trans hy)).2.2.2.2.1
                have k05 : ∀ wy, Ext w6 wy → wy.cell? ⟨b, off + 5, none⟩ = some (.slice p0 la q0) := fun wy hy => (hc0 wy ((unhide X6).trans hy)).2.2.2.2.2
                have k10 : ∀ wy, Ext w6 wy → wy.cell? ⟨b, off + j * 6, none⟩ = some (.int .i32 (Vt.p x1 0)) := fun wy hy => (hc1 wy ((unhide X6).trans hy)).1
                have k11 : ∀ wy, Ext w6 wy → wy.cell? ⟨b, off + j * 6 + 1, none⟩ = some (.int .i32 (Vt.p x1 1)) := fun wy hy => (hc1 wy ((unhide X6).trans hy)).2.1
                have k12 : ∀ wy, Ext w6 wy → wy.cell? ⟨b, off + j * 6 + 2, none⟩ = some (.int .i32 (Vt.p x1 2)) := fun wy hy => (hc1 wy ((unhide X6).trans hy)).2.2.1
                have k13 : ∀ wy, Ext w6 wy → wy.cell? ⟨b, off + j * 6 + 3, none⟩ = some (.int .i32 (Vt.p x1 3)) := fun wy hy => (hc1 wy ((unhide X6).trans hy)).2.2.2.1
                have k14 : ∀ wy, Ext w6 wy → wy.cell? ⟨b, off + j * 6 + 4, none⟩ = some (.int .i32 (Vt.s x1)) := fun wy hy => (hc1 wy ((unhide X6).trans hy)).2.2.2.2.1
                have k15 : ∀ wy, Ext w6 wy → wy.cell? ⟨b, off + j * 6 + 5, none⟩ = some (.slice p1 la q1) := fun wy hy => (hc1 wy ((unhide X6).trans hy)).2.2.2.2.2
                have k20 : ∀ wy, Ext w6 wy → wy.cell? ⟨b, off + (j + 1) * 6, none⟩ = some (.int .i32 (Vt.p x2 0)) := fun wy hy => (hc2 wy ((unhide X6).trans hy)).1
                have k21 : ∀ wy, Ext w6 wy → wy.cell? ⟨b, off + (j + 1) * 6 + 1, none⟩ = some (.int .i32 (Vt.p x2 1)) := fun wy hy => (hc2 wy ((unhide X6).trans hy)).2.1
                have k22 : ∀ wy, Ext w6 wy → wy.cell? ⟨b, off + (j + 1) * 6 + 2, none⟩ = some (.int .i32 (Vt.p x2 2)) := fun wy hy => (hc2 wy ((unhide X6).trans hy)).2.2.1
                have k23 : ∀ wy, Ext w6 wy → wy.cell? ⟨b, off + (j + 1) * 6 + 3, none⟩ = some (.int .i32 (Vt.p x2 3)) := fun wy hy => (hc2 wy ((unhide X6).trans hy)).2.2.2.1
                have k24 : ∀ wy, Ext w6 wy → wy.cell? ⟨b, off + (j + 1) * 6 + 4, none⟩ = some (.int .i32 (Vt.s x2)) := fun wy hy => (hc2 wy ((unhide X6).trans hy)).2.2.2.2.1
                have k25 : ∀ wy, Ext w6 wy → wy.cell? ⟨b, off + (j + 1) * 6 + 5, none⟩ = some (.slice p2 la q2) := fun wy hy => (hc2 wy ((unhide X6).trans hy)).2.2.2.2.2
                have kv0 : ∀ wy, Ext w6 wy → wy.cell? ⟨w.heap.size, 0, none⟩ = some (.int .i64 (Vw.X v)) := fun wy hy => ((unhide HB).1.ext ((unhide XW).trans hy)).six.1
                have kv1 : ∀ wy, Ext w6 wy → wy.cell? ⟨w.heap.size, 1, none⟩ = some (.int .i64 (Vw.Y v)) := fun wy hy => ((unhide HB).1.ext ((unhide XW).trans hy)).six.2.1
                have kv2 : ∀ wy, Ext w6 wy → wy.cell? ⟨w.heap.size, 2, none⟩ = some (.int .i64 (Vw.W v)) := fun wy hy => ((unhide HB).1.ext ((unhide XW).trans hy)).six.2.2.1
                have kv3 : ∀ wy, Ext w6 wy → wy.cell? ⟨w.heap.size, 3, none⟩ = some (.int .i64 (Vw.H v)) := fun wy hy => ((unhide HB).1.ext ((unhide XW).trans hy)).six.2.2.2.1
                have kv4 : ∀ wy, Ext w6 wy → wy.cell? ⟨w.heap.size, 4, none⟩ = some (.int .i32 (Vw.Nr v)) := fun wy hy => ((unhide HB).1.ext ((unhide XW).trans hy)).six.2.2.2.2.1
                have kv5 : ∀ wy, Ext w6 wy → wy.cell? ⟨w.heap.size, 5, none⟩ = some (.int .i32 (Vw.Fr v)) := fun wy hy => ((unhide HB).1.ext ((unhide XW).trans hy)).six.2.2.2.2.2
                have Y0 := hide (show Ext wr wr.drew from (Ext.refl wr).drew)
                have YE := hide (fun wy (hy : Ext w6 wy) => show Ext wq wy from (unhide X6).trans hy)
                have Z0 := hide (show Ext w6 wr.drew from (unhide E).2.2.drew)
                clear hc0 hc1 hc2
                go_region_held3 (fun wy => Ext w6 wy)
                  (first | with_reducible exact unhide Z0 | with_reducible exact unhide Z7 | with_reducible exact unhide Z8 | with_reducible exact unhide Z9 | with_reducible exact (unhide Z9).alloc _ | with_reducible exact unhide Z10)
                  (first
                    | (refine step_runA (by rfl) (.tmp 46) (.tmp 66) 33 (by rfl) (by rfl) (by rfl) (unhide HRUN) ?_)
                    | (have hg8 := Y8; clear hg8; go_at_call 33; refine (unhide L2 _ (unhide YE _ (unhide Z8))).mono ?_; rintro e w9 ⟨a9, c9, rfl, hv9, hb9, hx9⟩; have Y9 := hide ((unhide Y8).trans hx9); have Z9 := hide ((unhide Z8).trans hx9)
                       have hof : ∀ (u : Value) (vs : List (Nat → Int)), (∀ b, u.ownBlock = some b → wr.heap.size ≤ b) → Off u vs (Value.slice fo R3.length fc).ownBlock := fun u vs hu _ b hb e => by
                         have h1 := (GO.lt (unhide E).2.1.own b hb).2
                         have h2 := hu b e
                         omega
                       have s7 := (unhide Y7).size
                       have s8 := (unhide Y8).size
                       have hd : wr.drew.heap.size = wr.heap.size := rfl
                       obtain ⟨fo9, fc9, N, w10, hN, hrun, hO9, hX9⟩ := push_tn (y := ((layW v x0, .slice a7 la c7), (layW v x1, .slice a8 la c8), (layW v x2, .slice a9 la c9))) (W1 := w9.alloc (.cells #[.int .i64 (layW v x0).x, .int .i64 (layW v x0).y, .int .i32 (layW v x0).z, .int .i32 (layW v x0).w, .int .i32 (layW v x0).s, .slice a7 la c7, .int .i64 (layW v x1).x, .int .i64 (layW v x1).y, .int .i32 (layW v x1).z, .int .i32 (layW v x1).w, .int .i32 (layW v x1).s, .slice a8 la c8, .int .i64 (layW v x2).x, .int .i64 (layW v x2).y, .int .i32 (layW v x2).z, .int .i32 (layW v x2).w, .int .i32 (layW v x2).s, .slice a9 la c9] 45)) (unhide E).2.1 (unhide E).2.2 ((unhide Y9).alloc _) (Blk.new _ _ _)
                         ⟨SR.ext (unhide V7).1 ((unhide V8).2.2.trans (hx9.alloc _)), SR.ext (unhide V8).1 (hx9.alloc _), SR.ext hv9 ((Ext.refl w9).alloc _)⟩
                         ⟨hof _ _ (fun b hb => by have := (unhide V7).2 b hb; omega), hof _ _ (fun b hb => by have := (unhide V8).2.1 b hb; omega), hof _ _ (fun b hb => by have := hb9 b hb; omega)⟩
                         (by have h1 := congrArg List.length (unhide E).1; rw [List.length_map, fanK_len] at h1; have := unhide HLL; have := unhide HJK; omega)
                       have Z10 := hide hX9
                       have H9 := hide (And.intro hO9 hX9)
                       have HRUN := hide hrun
                       have HN := hide hN
                       clear hN hrun hO9 hX9 hv9 hb9 hx9 hof s7 s8 hd)
                    | (have hg7 := Y7; clear hg7; go_at_call 33; refine (unhide L1 _ (unhide YE _ (unhide Z7))).mono ?_; rintro e w8 ⟨a8, c8, rfl, hv8, hb8, hx8⟩; have Y8 := hide ((unhide Y7).trans hx8); have Z8 := hide ((unhide Z7).trans hx8); have V8 := hide (And.intro hv8 (And.intro hb8 hx8)); clear hv8 hb8 hx8)
                    | (go_at_call 33; refine (unhide L0 _ (unhide YE _ (unhide Z0))).mono ?_; rintro e w7 ⟨a7, c7, rfl, hv7, hb7, hx7⟩; have Y7 := hide ((unhide Y0).trans hx7); have Z7 := hide ((unhide Z0).trans hx7); have V7 := hide (And.intro hv7 hb7); clear hv7 hb7 hx7))
                clear k00 k01 k02 k03 k04 k05 k10 k11 k12 k13 k14 k15 k20 k21 k22 k23 k24 k25 kv0 kv1 kv2 kv3 kv4 kv5 ht1 hg1 hj0 hj00 hj2 L0 L1 L2 YE hl
                go_wp2
                go_roundw
                case rel => exact ⟨j + 1, k + 1, N, fo9, fc9, by have := (unhide HJK).1; omega, by have := (unhide HJK).1; omega, by push_cast; rfl, rfl, by rw [unhide HN, List.map_append, (unhide E).1, unhide HFK]; rfl, (unhide H9).1, (unhide H9).2⟩
                case measure => simp [intOf]; omega
              · have hk2 := hide (show k = R'.length - 2 by have := unhide HJK; omega)
                have hj2 : ¬ (j : Int) + 1 < (R'.length : Int) := by omega
                have hw1 : IntKind.i64.wrap ((j : Int) + 1) = (j : Int) + 1 := by
                  have h8 := unhide HJK
                  have h9 := unhide HLL
                  simp [IntKind.wrap, IntKind.bits, IntKind.signed]
                  omega
                clear hl hlt
                go_wp2
                refine bodyPost_ret (v := .tuple #[.slice fo R3.length fc, .int .i64 0]) (by simp [results, Try.results10, go_sem]) rfl ?_
                rw [unhide HLE]
                exact tr_ok (R' := R3) (unhide HOK) (by rw [unhide HE, unhide HML, (unhide E).1, unhide hk2]) (unhide E).2.1.r ((unhide HB).2.2.2.2.trans ((unhide XW).trans (unhide E).2.2))
end Go.Proofs.Ytbhdloanlagddaa
