/-
  Proved: SampleWithin answers true for every image and place and turns nothing that was there: a linear colour lies within what the colours of the level are, by channel, and the nearest one is one of them.
-/
import Derived.Test.YtgblnipfeikomaaFrS
import Derived.Deep.RegionLaw
namespace Go.Proofs.Ytgblnipfeikomaa
open Go.ChangeShapes Go.WideShapes Go.ChangeAt Go.RowKit
set_option linter.unusedVariables false
set_option linter.unusedSimpArgs false

theorem val3 {k n : Int} (hk : k = 1 ∨ k = 2) (h : valB k n = true) : 1 ≤ n ∧ n ≤ 3 := by
  unfold valB at h
  rw [if_pos hk] at h
  exact of_decide_eq_true h
theorem wrap_twice {m i n : Int} (h1 : 1 ≤ n) (h2 : n ≤ 64) (hm : 1 ≤ m ∧ m ≤ 3) : wrapI m (wrapI m i n) n = wrapI m i n := by
  have hb := wrapI_bd (m := m) (i := i) h1 h2
  generalize wrapI m i n = x at *
  unfold wrapI
  rw [if_neg (by omega)]
  by_cases e1 : m = 1
  · rw [if_pos e1, Int.emod_eq_of_lt hb.1 hb.2]
  · rw [if_neg e1]
    by_cases e2 : m = 2
    · rw [if_pos e2]
      omega
    · rw [if_neg e2, if_pos (by omega), Int.emod_eq_of_lt hb.1 (by omega)]
      omega
theorem tx_wrap {I : Img} {W H : Int} {bs : List Int} (hW : 1 ≤ W ∧ W ≤ 64) (hH : 1 ≤ H ∧ H ≤ 64) (hs : 1 ≤ I.ws ∧ I.ws ≤ 3) (ht : 1 ≤ I.wt ∧ I.wt ≤ 3) (i j : Int) : txI I (W, H, bs) i j = txI I (W, H, bs) (wrapI I.ws i W) (wrapI I.wt j H) := by
  unfold txI plN
  simp only [wrap_twice hW.1 hW.2 hs, wrap_twice hH.1 hH.2 ht]
/-- All colours of the pixels of S lie within lo and hi. -/
def Cov (T : Int → Int → Nat → Int) (S : Int → Int → Prop) (lo hi : Nat → Int) : Prop := ∀ i j, S i j → ∀ c, c < 4 → lo c ≤ T i j c ∧ T i j c ≤ hi c
theorem Cov.widen {T : Int → Int → Nat → Int} {S : Int → Int → Prop} {lo hi lo' hi' : Nat → Int} (h : Cov T S lo hi) (h2 : ∀ c, c < 4 → lo' c ≤ lo c ∧ hi c ≤ hi' c) : Cov T S lo' hi' := fun i j hs c hc => by
  have a := h i j hs c hc
  have b := h2 c hc
  omega
theorem vset (lo : Nat → Int) (k : Nat) (hk : k < 4) (x : Int) : (#[.int .i32 (lo 0), .int .i32 (lo 1), .int .i32 (lo 2), .int .i32 (lo 3)] : Array Value).setIfInBounds k (.int .i32 x) = #[.int .i32 ((fun c => if c = k then x else lo c) 0), .int .i32 ((fun c => if c = k then x else lo c) 1), .int .i32 ((fun c => if c = k then x else lo c) 2), .int .i32 ((fun c => if c = k then x else lo c) 3)] := by
  rcases (by omega : k = 0 ∨ k = 1 ∨ k = 2 ∨ k = 3) with rfl | rfl | rfl | rfl <;> rfl
structure WiS (W wr : World) (N rl rc rd ra rb : Nat) (ic av lv : Array Value) (C Dv lo hi : Nat → Int) : Prop where
  img : Blk wr W.heap.size ic 29
  at_ : Blk wr (W.heap.size + 1) av 32
  lev : Blk wr rl lv 49
  c : Blk wr rc #[.int .i32 (C 0), .int .i32 (C 1), .int .i32 (C 2), .int .i32 (C 3)] 34
  d : Blk wr rd #[.int .i32 (Dv 0), .int .i32 (Dv 1), .int .i32 (Dv 2), .int .i32 (Dv 3)] 34
  lo_ : Blk wr ra #[.int .i32 (lo 0), .int .i32 (lo 1), .int .i32 (lo 2), .int .i32 (lo 3)] 34
  hi_ : Blk wr rb #[.int .i32 (hi 0), .int .i32 (hi 1), .int .i32 (hi 2), .int .i32 (hi 3)] 34
  ext : Ext W wr
  ne : ra ≠ rb ∧ N ≤ ra ∧ N ≤ rb
  old : W.heap.size + 1 < N ∧ rl < N ∧ rc < N ∧ rd < N
theorem WiS.later {W wr w' : World} {N rl rc rd ra rb : Nat} {ic av lv : Array Value} {C Dv lo hi : Nat → Int} (h : WiS W wr N rl rc rd ra rb ic av lv C Dv lo hi) (hx : Ext wr w') : WiS W w' N rl rc rd ra rb ic av lv C Dv lo hi :=
  ⟨h.img.ext hx, h.at_.ext hx, h.lev.ext hx, h.c.ext hx, h.d.ext hx, h.lo_.ext hx, h.hi_.ext hx, h.ext.trans hx, h.ne, h.old⟩
theorem WiS.put {W wr : World} {N rl rc rd ra rb k : Nat} {ic av lv : Array Value} {C Dv lo hi : Nat → Int} (h : WiS W wr N rl rc rd ra rb ic av lv C Dv lo hi) (hk : k < 4) (x y : Int) :
    WiS W ((wr.setCell ⟨ra, k, none⟩ (.int .i32 x)).setCell ⟨rb, k, none⟩ (.int .i32 y)) N rl rc rd ra rb ic av lv C Dv (fun c => if c = k then x else lo c) (fun c => if c = k then y else hi c) := by
  obtain ⟨n1, n2, n3⟩ := h.ne
  obtain ⟨o1, o2, o3, o4⟩ := h.old
  refine ⟨(h.img.other (r := ra) _ _ (by omega)).other (r := rb) _ _ (by omega), (h.at_.other (r := ra) _ _ (by omega)).other (r := rb) _ _ (by omega), (h.lev.other (r := ra) _ _ (by omega)).other (r := rb) _ _ (by omega), (h.c.other (r := ra) _ _ (by omega)).other (r := rb) _ _ (by omega), (h.d.other (r := ra) _ _ (by omega)).other (r := rb) _ _ (by omega), ?_, ?_, ?_, h.ne, h.old⟩
  · have := (h.lo_.set k (.int .i32 x)).other (r := rb) k (.int .i32 y) n1
    rw [vset lo k hk x] at this
    exact this
  · have := (h.hi_.other (r := ra) k (.int .i32 x) (Ne.symm n1)).set k (.int .i32 y)
    rw [vset hi k hk y] at this
    exact this
  · have h1 : Ext W (wr.setCell ⟨ra, k, none⟩ (.int .i32 x)) := below_grown h.ext (grownBy_set _ _ _ _) h.ext.size (by omega)
    exact below_grown h1 (grownBy_set _ _ _ _) h1.size (by omega)
theorem cell_other {w : World} {r r' i j : Nat} {v x : Value} (h : w.cell? ⟨r', j, none⟩ = some x) (hne : r' ≠ r) : (w.setCell ⟨r, i, none⟩ v).cell? ⟨r', j, none⟩ = some x := by
  rw [World.cell?_of_block (w := w) (heap_setCell_other w ⟨r, i, none⟩ r' v hne)]
  exact h
theorem yields_min {P : Program} {ops : Array Oper} {S : World → Prop} {o : Oper} {a : Act} (hw : Region.wanted o (yielded ops a.tmps) = true) (x y : Operand) (t : TypeId) (ho : o.op = .call { callee := .builtin .min, args := #[x, y], argTypes := #[t, t] }) (k : IntKind) (m n : Int) (hx : a.eval x = .int k m) (hy : a.eval y = .int k n) :
    YieldsIf P ops S o (.int k (if n < m then n else m)) a := by
  refine .inl ⟨hw, fun w _ => ?_⟩
  simp [execOp, ho, resolve, invoke, builtin, hx, hy, Builtin.min_, Builtin.min2]
theorem yields_max {P : Program} {ops : Array Oper} {S : World → Prop} {o : Oper} {a : Act} (hw : Region.wanted o (yielded ops a.tmps) = true) (x y : Operand) (t : TypeId) (ho : o.op = .call { callee := .builtin .max, args := #[x, y], argTypes := #[t, t] }) (k : IntKind) (m n : Int) (hx : a.eval x = .int k m) (hy : a.eval y = .int k n) :
    YieldsIf P ops S o (.int k (if n > m then n else m)) a := by
  refine .inl ⟨hw, fun w _ => ?_⟩
  simp [execOp, ho, resolve, invoke, builtin, hx, hy, Builtin.max_, Builtin.max2]
set_option maxRecDepth 10000 in
set_option maxHeartbeats 1000000 in
theorem within_walk {W : World} {I : Img} {v : Value} {L : List Ent} (hI : ImgIn W I v L) (u q lod lv i j : Int) (hu : I32 u) (hq : I32 q) (hl : I32 lod) :
    Calls Try.prog 7 #[.agg #[.int .i64 I.f, v, .int .i64 I.ws, .int .i64 I.wt, .int .i64 I.mn, .int .i64 I.mg], .agg #[.int .i32 u, .int .i32 q, .int .i32 lod, .int .i64 lv, .int .i64 i, .int .i64 j]] W fun e w' => e = .returned (.bool true) ∧ Ext W w' := by
  obtain ⟨ao, cap, rfl, _⟩ := hI.lr.shape
  have hEQ := eqV
  have hBY : ∀ p ∈ L, Byt p.2.2.2 := fun p hp => (hI.all p hp).2.1
  have HBY := hide hBY
  have H0 := hide (And.intro (((Ext.refl W).alloc (.cells #[.int .i64 I.f, .slice ao L.length cap, .int .i64 I.ws, .int .i64 I.wt, .int .i64 I.mn, .int .i64 I.mg] 29)).alloc (.cells #[.int .i32 u, .int .i32 q, .int .i32 lod, .int .i64 lv, .int .i64 i, .int .i64 j] 32)) (And.intro ((Blk.new W #[.int .i64 I.f, .slice ao L.length cap, .int .i64 I.ws, .int .i64 I.wt, .int .i64 I.mn, .int .i64 I.mg] 29).alloc (.cells #[.int .i32 u, .int .i32 q, .int .i32 lod, .int .i64 lv, .int .i64 i, .int .i64 j] 32)) (show Blk ((W.alloc (.cells #[.int .i64 I.f, .slice ao L.length cap, .int .i64 I.ws, .int .i64 I.wt, .int .i64 I.mn, .int .i64 I.mg] 29)).alloc (.cells #[.int .i32 u, .int .i32 q, .int .i32 lod, .int .i64 lv, .int .i64 i, .int .i64 j] 32)) (W.heap.size + 1) #[.int .i32 u, .int .i32 q, .int .i32 lod, .int .i64 lv, .int .i64 i, .int .i64 j] 32 from Blk.at (by simp))))
  have HI := hide hI
  have HU := hide (And.intro hu (And.intro hq hl))
  clear hI hBY hu hq hl
  go_enter Try.func7, Try.ntmps7
  go_wp2_with fail
  generalize (W.alloc (.cells #[.int .i64 I.f, .slice ao L.length cap, .int .i64 I.ws, .int .i64 I.wt, .int .i64 I.mn, .int .i64 I.mg] 29)).alloc (.cells #[.int .i32 u, .int .i32 q, .int .i32 lod, .int .i64 lv, .int .i64 i, .int .i64 j] 32) = w0 at H0 ⊢
  refine (wakes_any _).mono ?_
  rintro e w1 ⟨rfl, hx1⟩
  have HB := hide (And.intro ((unhide H0).2.1.ext hx1) (And.intro ((unhide H0).2.2.ext hx1) ((unhide H0).1.trans hx1)))
  clear H0 hx1
  obtain ⟨q0, q1, q2, q3, q4, q5⟩ := (unhide HB).1.six
  obtain ⟨p0, p1, p2, p3, p4, p5⟩ := (unhide HB).2.1.six
  have hLen : L.length ≤ 4000000000000 := by have := (unhide HI).len; omega
  go_wp2_with fail
  refine (nearest_any (I := I) ((unhide HI).lr.ext (unhide HB).2.2) hLen (unhide HI).abs (unhide HBY) lv u q (unhide HU).1 (unhide HU).2.1).mono ?_
  rintro e w2 ⟨rfl, hx2⟩
  have hx3 := hx2.alloc (.cells #[.int .i32 (nrV I lv u q 0), .int .i32 (nrV I lv u q 1), .int .i32 (nrV I lv u q 2), .int .i32 (nrV I lv u q 3)] 34)
  have HB3 := hide (And.intro ((unhide HB).1.ext hx3) (And.intro ((unhide HB).2.1.ext hx3) (And.intro (Blk.new w2 #[.int .i32 (nrV I lv u q 0), .int .i32 (nrV I lv u q 1), .int .i32 (nrV I lv u q 2), .int .i32 (nrV I lv u q 3)] 34) ((unhide HB).2.2.trans hx3))))
  have hs1 := (unhide HB).2.1.lt
  have hs2 := hx2.size
  clear HB hx2 hx3 q0 q1 q2 q3 q4 q5 p0 p1 p2 p3 p4 p5
  go_upto_region 4 with fail
  generalize hw3 : w2.alloc (.cells #[.int .i32 (nrV I lv u q 0), .int .i32 (nrV I lv u q 1), .int .i32 (nrV I lv u q 2), .int .i32 (nrV I lv u q 3)] 34) = w3 at HB3 ⊢
  have hs3' : w3.heap.size = w2.heap.size + 1 := by rw [← hw3]; simp
  have HZ3 := hide hs3'
  clear hw3 hs3'
  obtain ⟨q0, q1, q2, q3, q4, q5⟩ := (unhide HB3).1.six
  obtain ⟨p0, p1, p2, p3, p4, p5⟩ := (unhide HB3).2.1.six
  go_wp2_with fail
  refine (linear_any (I := I) ((unhide HI).lr.ext (unhide HB3).2.2.2) hLen (unhide HI).abs (unhide HBY) lv u q (unhide HU).1 (unhide HU).2.1).mono ?_
  rintro e w4 ⟨rfl, hx4⟩
  have hx5 := hx4.alloc (.cells #[.int .i32 (lnV I lv u q 0), .int .i32 (lnV I lv u q 1), .int .i32 (lnV I lv u q 2), .int .i32 (lnV I lv u q 3)] 34)
  have HB5 := hide (And.intro ((unhide HB3).1.ext hx5) (And.intro ((unhide HB3).2.1.ext hx5) (And.intro ((unhide HB3).2.2.1.ext hx5) (And.intro (Blk.new w4 #[.int .i32 (lnV I lv u q 0), .int .i32 (lnV I lv u q 1), .int .i32 (lnV I lv u q 2), .int .i32 (lnV I lv u q 3)] 34) ((unhide HB3).2.2.2.trans hx5)))))
  have hs4 := hx4.size
  clear HB3 hx4 hx5 q0 q1 q2 q3 q4 q5 p0 p1 p2 p3 p4 p5
  go_upto_region 5 with fail
  generalize hw5 : w4.alloc (.cells #[.int .i32 (lnV I lv u q 0), .int .i32 (lnV I lv u q 1), .int .i32 (lnV I lv u q 2), .int .i32 (lnV I lv u q 3)] 34) = w5 at HB5 ⊢
  have hs5' : w5.heap.size = w4.heap.size + 1 := by rw [← hw5]; simp
  have HZ5 := hide hs5'
  clear hw5 hs5'
  by_cases hE : rfE I lv = 0
  case neg =>
    have d0 : (rfE I lv != 0) = true := by simpa using hE
    generalize rfE I lv = er at *
    clear hE
    go_wp2
    go_ret
    exact ⟨by simp, (unhide HB5).2.2.2.2⟩
  case pos =>
  rw [hE]
  obtain ⟨hok, hh⟩ := rf_cases I lv hE
  obtain ⟨k, hk, rfl, hlv, hlk⟩ := lv_open (unhide HI).abs hok hh
  have HE := hide hE
  have eN : nrV I (k : Int) u q = nrI I (levAt I (k : Int)) u q := by unfold nrV; rw [if_pos hE]
  have eL : lnV I (k : Int) u q = lnI I (levAt I (k : Int)) u q := by unfold lnV; rw [if_pos hE]
  rw [eN, eL] at HB5
  obtain ⟨q0, q1, q2, q3, q4, q5⟩ := (unhide HB5).1.six
  obtain ⟨p0, p1, p2, p3, p4, p5⟩ := (unhide HB5).2.1.six
  obtain ⟨b, off, bo, bcap, rfl, eb, c0, c1, c2, hr⟩ := ((unhide HI).lr.ext (unhide HB5).2.2.2.2).at k hk
  have hcm : L.length ≤ cap ∧ cap ≤ 9223372036854775807 := by
    obtain ⟨_, _, e9, _, h8, h9, _⟩ := (unhide HI).lr.shape
    cases e9
    unfold maxLen at h9
    exact ⟨h8, by omega⟩
  obtain ⟨hcm1, hcm2⟩ := hcm
  have hkn : (k : Int) < (L.length : Int) := by omega
  have HLK := hide hlk
  have HLV := hide hlv
  generalize L[k].1 = Wd at *
  generalize L[k].2.1 = Ht at *
  generalize L[k].2.2.2 = bs at *
  have hx6 := (Ext.refl w5).alloc (.cells #[.int .i64 Wd, .int .i64 Ht, .slice bo bs.length bcap] 49)
  have HB6 := hide (And.intro ((unhide HB5).1.ext hx6) (And.intro ((unhide HB5).2.1.ext hx6) (And.intro ((unhide HB5).2.2.1.ext hx6) (And.intro ((unhide HB5).2.2.2.1.ext hx6) (And.intro (Blk.new w5 #[.int .i64 Wd, .int .i64 Ht, .slice bo bs.length bcap] 49) ((unhide HB5).2.2.2.2.trans hx6))))))
  clear HB5 hx6 hlv hlk hok hh hE eb hr eN eL
  rw [unhide HLV] at HB6
  go_upto_region 8 with fail
  generalize hw6 : w5.alloc (.cells #[.int .i64 Wd, .int .i64 Ht, .slice bo bs.length bcap] 49) = w6 at HB6 ⊢
  have hs6' : w6.heap.size = w5.heap.size + 1 := by rw [← hw6]; simp
  have HZ6 := hide hs6'
  clear hw6 hs6' q0 q1 q2 q3 q4 q5 p0 p1 p2 p3 p4 p5 c0 c1 c2
  have hW : 1 ≤ Wd ∧ Wd ≤ 64 := (unhide HLK).w
  have hH : 1 ≤ Ht ∧ Ht ≤ 64 := (unhide HLK).h
  obtain ⟨hok, hh⟩ := rf_cases I (k : Int) (unhide HE)
  have hws := val3 (.inl rfl) (okB_iff.1 hok).2.2.2.2.1
  have hwt := val3 (.inr rfl) (okB_iff.1 hok).2.2.2.2.2.1
  have HTX : Hid (∀ i j, txV I (k : Int) i j = txI I (Wd, Ht, bs) i j) := fun i j => by unfold txV; rw [if_pos (unhide HE), unhide HLV]
  obtain ⟨wi, hwi⟩ : ∃ wi, wi = wrapI I.ws (Wd * u / 65536) Wd := ⟨_, rfl⟩
  obtain ⟨wj, hwj⟩ : ∃ wj, wj = wrapI I.wt (Ht * q / 65536) Ht := ⟨_, rfl⟩
  have bwi : 0 ≤ wi ∧ wi < Wd := by rw [hwi]; exact wrapI_bd hW.1 hW.2
  have bwj : 0 ≤ wj ∧ wj < Ht := by rw [hwj]; exact wrapI_bd hH.1 hH.2
  have HCT : Hid (nrI I (Wd, Ht, bs) u q = txI I (Wd, Ht, bs) wi wj) := by
    show txI I (Wd, Ht, bs) (Wd * u / 65536) (Ht * q / 65536) = _
    rw [hwi, hwj]
    exact tx_wrap hW hH hws hwt _ _
  have HDT : Hid (∀ lo hi, Cov (txI I (Wd, Ht, bs)) (fun i j => 0 ≤ i ∧ i < Wd ∧ 0 ≤ j ∧ j < Ht) lo hi → ∀ c, c < 4 → lo c ≤ lnI I (Wd, Ht, bs) u q c ∧ lnI I (Wd, Ht, bs) u q c ≤ hi c) := fun lo hi hcov c hc => by
    have ht : ∀ i j, lo c ≤ txI I (Wd, Ht, bs) i j c ∧ txI I (Wd, Ht, bs) i j c ≤ hi c := fun i j => by
      rw [tx_wrap hW hH hws hwt i j]
      have a := wrapI_bd (m := I.ws) (i := i) hW.1 hW.2
      have b := wrapI_bd (m := I.wt) (i := j) hH.1 hH.2
      exact hcov _ _ ⟨a.1, a.2, b.1, b.2⟩ c hc
    exact lin_bd (ht _ _) (ht _ _) (ht _ _) (ht _ _) ⟨Int.emod_nonneg _ (by decide), Int.emod_lt_of_pos _ (by decide)⟩ ⟨Int.emod_nonneg _ (by decide), Int.emod_lt_of_pos _ (by decide)⟩
  clear hok hh hws hwt hwi hwj
  go_cut [10, 11] (fun p1 p2 wc => ∃ w7 ra rb, w7 = wc ∧ p1 = .pointer (some ⟨ra, 0, none⟩) ∧ p2 = .pointer (some ⟨rb, 0, none⟩) ∧ Blk wc ra #[.int .i32 ((nrI I (Wd, Ht, bs) u q) 0), .int .i32 ((nrI I (Wd, Ht, bs) u q) 1), .int .i32 ((nrI I (Wd, Ht, bs) u q) 2), .int .i32 ((nrI I (Wd, Ht, bs) u q) 3)] 34 ∧ Blk wc rb #[.int .i32 ((nrI I (Wd, Ht, bs) u q) 0), .int .i32 ((nrI I (Wd, Ht, bs) u q) 1), .int .i32 ((nrI I (Wd, Ht, bs) u q) 2), .int .i32 ((nrI I (Wd, Ht, bs) u q) 3)] 34 ∧ ra ≠ rb ∧ (w6.heap.size ≤ ra ∧ w6.heap.size ≤ rb) ∧ Ext w6 wc)
  case first =>
    refine wp_region_noPanic ?_
    refine wp_region_held_drew (S := fun wx => Ext w6 wx) (by kernel_rfl) (ext_0 w6) (fun HS => ?_)
    refine wpAnyH_take (i := 0) (oi := { dst := some 58, op := Op.load 34 (Operand.tmp 5), type := 34, pos := _, after := _, guard := none }) (v := .agg #[.int .i32 (nrI I (Wd, Ht, bs) u q 0), .int .i32 (nrI I (Wd, Ht, bs) u q 1), .int .i32 (nrI I (Wd, Ht, bs) u q 2), .int .i32 (nrI I (Wd, Ht, bs) u q 3)]) rfl (by kernel_rfl) (by kernel_rfl) (by kernel_rfl) (fun _ _ _ h => h) (yieldsIf_load_mid (by rfl) 34 (.tmp 5) rfl w2.heap.size 0 rfl [.int .i32 (nrI I (Wd, Ht, bs) u q 0), .int .i32 (nrI I (Wd, Ht, bs) u q 1), .int .i32 (nrI I (Wd, Ht, bs) u q 2), .int .i32 (nrI I (Wd, Ht, bs) u q 3)] _ (fun wx hx => ((unhide HB6).2.2.1.ext hx).range 0 [.int .i32 (nrI I (Wd, Ht, bs) u q 0), .int .i32 (nrI I (Wd, Ht, bs) u q 1), .int .i32 (nrI I (Wd, Ht, bs) u q 2), .int .i32 (nrI I (Wd, Ht, bs) u q 3)] rfl) Try.underlying34 rfl size35) HS ?_
    simp only [Act.put, List.setIfInBounds_toArray, List.set_cons_zero, List.set_cons_succ]
    refine wpAnyH_take (i := 1) (oi := { dst := some 59, op := Op.load 34 (Operand.tmp 5), type := 34, pos := _, after := _, guard := none }) (v := .agg #[.int .i32 (nrI I (Wd, Ht, bs) u q 0), .int .i32 (nrI I (Wd, Ht, bs) u q 1), .int .i32 (nrI I (Wd, Ht, bs) u q 2), .int .i32 (nrI I (Wd, Ht, bs) u q 3)]) rfl (by kernel_rfl) (by kernel_rfl) (by kernel_rfl) (fun _ _ _ h => h) (yieldsIf_load_mid (by rfl) 34 (.tmp 5) rfl w2.heap.size 0 rfl [.int .i32 (nrI I (Wd, Ht, bs) u q 0), .int .i32 (nrI I (Wd, Ht, bs) u q 1), .int .i32 (nrI I (Wd, Ht, bs) u q 2), .int .i32 (nrI I (Wd, Ht, bs) u q 3)] _ (fun wx hx => ((unhide HB6).2.2.1.ext hx).range 0 [.int .i32 (nrI I (Wd, Ht, bs) u q 0), .int .i32 (nrI I (Wd, Ht, bs) u q 1), .int .i32 (nrI I (Wd, Ht, bs) u q 2), .int .i32 (nrI I (Wd, Ht, bs) u q 3)] rfl) Try.underlying34 rfl size35) HS ?_
    simp only [Act.put, List.setIfInBounds_toArray, List.set_cons_zero, List.set_cons_succ]
    refine wpAnyH_ready (rs := [2, 3]) (by kernel_rfl) (by simp) (AllReadyH.cons (o := { dst := some 10, op := Op.alloc 34, type := 0, pos := _, after := _, guard := none }) rfl (fun KK hK => ?_) (AllReadyH.cons (o := { dst := some 11, op := Op.alloc 34, type := 0, pos := _, after := _, guard := none }) rfl (fun KK hK => ?_) AllReadyH.nil))
    · refine Eq.mpr (if_pos (by rfl)) ?_
      go_simp
      refine hK.out _ (w6.drew.alloc (.cells #[.int .i32 0, .int .i32 0, .int .i32 0, .int .i32 0] 34)) (HS.alloc _) (fun _ => ?_)
      clear hK KK
      have RBa := hide (Blk.new w6.drew #[.int .i32 0, .int .i32 0, .int .i32 0, .int .i32 0] 34)
      have RLa := hide (Below.size HS)
      have HS2 := HS.alloc (.cells #[.int .i32 0, .int .i32 0, .int .i32 0, .int .i32 0] 34)
      clear HS
      have HS := HS2
      clear HS2
      generalize w6.drew.alloc (.cells #[.int .i32 0, .int .i32 0, .int .i32 0, .int .i32 0] 34) = wa at HS RBa ⊢
      try simp only [Act.put, List.setIfInBounds_toArray, List.set_cons_zero, List.set_cons_succ]
      refine wpAnyH_ready (rs := [3]) (by kernel_rfl) (by simp) (AllReadyH.cons (o := { dst := some 11, op := Op.alloc 34, type := 0, pos := _, after := _, guard := none }) rfl (fun KK hK => ?_) AllReadyH.nil)
      refine Eq.mpr (if_pos (by rfl)) ?_
      go_simp
      refine hK.out _ (wa.alloc (.cells #[.int .i32 0, .int .i32 0, .int .i32 0, .int .i32 0] 34)) (HS.alloc _) (fun _ => ?_)
      clear hK KK
      have NE := hide (show _ ≠ _ from Nat.ne_of_lt (unhide RBa).lt)
      have RBa := hide ((unhide RBa).alloc (.cells #[.int .i32 0, .int .i32 0, .int .i32 0, .int .i32 0] 34))
      have RBb := hide (Blk.new wa #[.int .i32 0, .int .i32 0, .int .i32 0, .int .i32 0] 34)
      have RLb := hide (Below.size HS)
      have HS2 := HS.alloc (.cells #[.int .i32 0, .int .i32 0, .int .i32 0, .int .i32 0] 34)
      clear HS
      have HS := HS2
      clear HS2
      generalize wa.alloc (.cells #[.int .i32 0, .int .i32 0, .int .i32 0, .int .i32 0] 34) = wa at HS RBa RBb ⊢
      try simp only [Act.put, List.setIfInBounds_toArray, List.set_cons_zero, List.set_cons_succ]
      refine wpAnyH_ready (rs := [4]) (by kernel_rfl) (by simp) (AllReadyH.cons (o := { dst := none, op := Op.store 34 (Operand.tmp 10) (Operand.tmp 58), type := 0, pos := _, after := _, guard := none }) rfl (fun KK hK => ?_) AllReadyH.nil)
      refine Eq.mpr (if_pos (by rfl)) ?_
      refine wp_store_row 34 (.tmp 10) (.tmp 58) rfl _ #[.int .i32 (nrI I (Wd, Ht, bs) u q 0), .int .i32 (nrI I (Wd, Ht, bs) u q 1), .int .i32 (nrI I (Wd, Ht, bs) u q 2), .int .i32 (nrI I (Wd, Ht, bs) u q 3)] rfl rfl 34 _ (unhide RBa) size35 rfl (by simp [Value.oneCell']) ?_
      refine hK.out _ _ (ext_row HS (unhide RLa)) (fun _ => ?_)
      clear hK KK
      have RBb := hide (Blk.rowOther (cs' := #[.int .i32 (nrI I (Wd, Ht, bs) u q 0), .int .i32 (nrI I (Wd, Ht, bs) u q 1), .int .i32 (nrI I (Wd, Ht, bs) u q 2), .int .i32 (nrI I (Wd, Ht, bs) u q 3)]) (unhide RBb) (Ne.symm (unhide NE)))
      have RBa := hide (Blk.row (cs' := #[.int .i32 (nrI I (Wd, Ht, bs) u q 0), .int .i32 (nrI I (Wd, Ht, bs) u q 1), .int .i32 (nrI I (Wd, Ht, bs) u q 2), .int .i32 (nrI I (Wd, Ht, bs) u q 3)]) (unhide RBa))
      have HS2 := ext_row (cs := #[.int .i32 (nrI I (Wd, Ht, bs) u q 0), .int .i32 (nrI I (Wd, Ht, bs) u q 1), .int .i32 (nrI I (Wd, Ht, bs) u q 2), .int .i32 (nrI I (Wd, Ht, bs) u q 3)]) HS (unhide RLa)
      clear HS
      have HS := HS2
      clear HS2
      try simp only [Act.put, List.setIfInBounds_toArray, List.set_cons_zero, List.set_cons_succ]
      refine wpAnyH_ready (rs := [5]) (by kernel_rfl) (by simp) (AllReadyH.cons (o := { dst := none, op := Op.store 34 (Operand.tmp 11) (Operand.tmp 59), type := 0, pos := _, after := _, guard := none }) rfl (fun KK hK => ?_) AllReadyH.nil)
      refine Eq.mpr (if_pos (by rfl)) ?_
      refine wp_store_row 34 (.tmp 11) (.tmp 59) rfl _ #[.int .i32 (nrI I (Wd, Ht, bs) u q 0), .int .i32 (nrI I (Wd, Ht, bs) u q 1), .int .i32 (nrI I (Wd, Ht, bs) u q 2), .int .i32 (nrI I (Wd, Ht, bs) u q 3)] rfl rfl 34 _ (unhide RBb) size35 rfl (by simp [Value.oneCell']) ?_
      refine hK.out _ _ (ext_row HS (unhide RLb)) (fun _ => ?_)
      clear hK KK
      have RBa := hide (Blk.rowOther (cs' := #[.int .i32 (nrI I (Wd, Ht, bs) u q 0), .int .i32 (nrI I (Wd, Ht, bs) u q 1), .int .i32 (nrI I (Wd, Ht, bs) u q 2), .int .i32 (nrI I (Wd, Ht, bs) u q 3)]) (unhide RBa) (unhide NE))
      have RBb := hide (Blk.row (cs' := #[.int .i32 (nrI I (Wd, Ht, bs) u q 0), .int .i32 (nrI I (Wd, Ht, bs) u q 1), .int .i32 (nrI I (Wd, Ht, bs) u q 2), .int .i32 (nrI I (Wd, Ht, bs) u q 3)]) (unhide RBb))
      have HS2 := ext_row (cs := #[.int .i32 (nrI I (Wd, Ht, bs) u q 0), .int .i32 (nrI I (Wd, Ht, bs) u q 1), .int .i32 (nrI I (Wd, Ht, bs) u q 2), .int .i32 (nrI I (Wd, Ht, bs) u q 3)]) HS (unhide RLb)
      clear HS
      have HS := HS2
      clear HS2
      try simp only [Act.put, List.setIfInBounds_toArray, List.set_cons_zero, List.set_cons_succ]
      refine wpAnyH_done (by kernel_rfl) ?_ _
      refine NoPanic.normal ?_
      go_wp2
      go_meet
      exact ⟨_, _, _, rfl, rfl, rfl, unhide RBa, unhide RBb, (by first | exact unhide NE | exact Ne.symm (unhide NE)), ⟨unhide RLa, unhide RLb⟩, HS⟩
    · refine Eq.mpr (if_pos (by rfl)) ?_
      go_simp
      refine hK.out _ (w6.drew.alloc (.cells #[.int .i32 0, .int .i32 0, .int .i32 0, .int .i32 0] 34)) (HS.alloc _) (fun _ => ?_)
      clear hK KK
      have RBb := hide (Blk.new w6.drew #[.int .i32 0, .int .i32 0, .int .i32 0, .int .i32 0] 34)
      have RLb := hide (Below.size HS)
      have HS2 := HS.alloc (.cells #[.int .i32 0, .int .i32 0, .int .i32 0, .int .i32 0] 34)
      clear HS
      have HS := HS2
      clear HS2
      generalize w6.drew.alloc (.cells #[.int .i32 0, .int .i32 0, .int .i32 0, .int .i32 0] 34) = wa at HS RBb ⊢
      try simp only [Act.put, List.setIfInBounds_toArray, List.set_cons_zero, List.set_cons_succ]
      refine wpAnyH_ready (rs := [2]) (by kernel_rfl) (by simp) (AllReadyH.cons (o := { dst := some 10, op := Op.alloc 34, type := 0, pos := _, after := _, guard := none }) rfl (fun KK hK => ?_) AllReadyH.nil)
      refine Eq.mpr (if_pos (by rfl)) ?_
      go_simp
      refine hK.out _ (wa.alloc (.cells #[.int .i32 0, .int .i32 0, .int .i32 0, .int .i32 0] 34)) (HS.alloc _) (fun _ => ?_)
      clear hK KK
      have NE := hide (show _ ≠ _ from Nat.ne_of_lt (unhide RBb).lt)
      have RBb := hide ((unhide RBb).alloc (.cells #[.int .i32 0, .int .i32 0, .int .i32 0, .int .i32 0] 34))
      have RBa := hide (Blk.new wa #[.int .i32 0, .int .i32 0, .int .i32 0, .int .i32 0] 34)
      have RLa := hide (Below.size HS)
      have HS2 := HS.alloc (.cells #[.int .i32 0, .int .i32 0, .int .i32 0, .int .i32 0] 34)
      clear HS
      have HS := HS2
      clear HS2
      generalize wa.alloc (.cells #[.int .i32 0, .int .i32 0, .int .i32 0, .int .i32 0] 34) = wa at HS RBb RBa ⊢
      try simp only [Act.put, List.setIfInBounds_toArray, List.set_cons_zero, List.set_cons_succ]
      refine wpAnyH_ready (rs := [4]) (by kernel_rfl) (by simp) (AllReadyH.cons (o := { dst := none, op := Op.store 34 (Operand.tmp 10) (Operand.tmp 58), type := 0, pos := _, after := _, guard := none }) rfl (fun KK hK => ?_) AllReadyH.nil)
      refine Eq.mpr (if_pos (by rfl)) ?_
      refine wp_store_row 34 (.tmp 10) (.tmp 58) rfl _ #[.int .i32 (nrI I (Wd, Ht, bs) u q 0), .int .i32 (nrI I (Wd, Ht, bs) u q 1), .int .i32 (nrI I (Wd, Ht, bs) u q 2), .int .i32 (nrI I (Wd, Ht, bs) u q 3)] rfl rfl 34 _ (unhide RBa) size35 rfl (by simp [Value.oneCell']) ?_
      refine hK.out _ _ (ext_row HS (unhide RLa)) (fun _ => ?_)
      clear hK KK
      have RBb := hide (Blk.rowOther (cs' := #[.int .i32 (nrI I (Wd, Ht, bs) u q 0), .int .i32 (nrI I (Wd, Ht, bs) u q 1), .int .i32 (nrI I (Wd, Ht, bs) u q 2), .int .i32 (nrI I (Wd, Ht, bs) u q 3)]) (unhide RBb) (unhide NE))
      have RBa := hide (Blk.row (cs' := #[.int .i32 (nrI I (Wd, Ht, bs) u q 0), .int .i32 (nrI I (Wd, Ht, bs) u q 1), .int .i32 (nrI I (Wd, Ht, bs) u q 2), .int .i32 (nrI I (Wd, Ht, bs) u q 3)]) (unhide RBa))
      have HS2 := ext_row (cs := #[.int .i32 (nrI I (Wd, Ht, bs) u q 0), .int .i32 (nrI I (Wd, Ht, bs) u q 1), .int .i32 (nrI I (Wd, Ht, bs) u q 2), .int .i32 (nrI I (Wd, Ht, bs) u q 3)]) HS (unhide RLa)
      clear HS
      have HS := HS2
      clear HS2
      try simp only [Act.put, List.setIfInBounds_toArray, List.set_cons_zero, List.set_cons_succ]
      refine wpAnyH_ready (rs := [5]) (by kernel_rfl) (by simp) (AllReadyH.cons (o := { dst := none, op := Op.store 34 (Operand.tmp 11) (Operand.tmp 59), type := 0, pos := _, after := _, guard := none }) rfl (fun KK hK => ?_) AllReadyH.nil)
      refine Eq.mpr (if_pos (by rfl)) ?_
      refine wp_store_row 34 (.tmp 11) (.tmp 59) rfl _ #[.int .i32 (nrI I (Wd, Ht, bs) u q 0), .int .i32 (nrI I (Wd, Ht, bs) u q 1), .int .i32 (nrI I (Wd, Ht, bs) u q 2), .int .i32 (nrI I (Wd, Ht, bs) u q 3)] rfl rfl 34 _ (unhide RBb) size35 rfl (by simp [Value.oneCell']) ?_
      refine hK.out _ _ (ext_row HS (unhide RLb)) (fun _ => ?_)
      clear hK KK
      have RBa := hide (Blk.rowOther (cs' := #[.int .i32 (nrI I (Wd, Ht, bs) u q 0), .int .i32 (nrI I (Wd, Ht, bs) u q 1), .int .i32 (nrI I (Wd, Ht, bs) u q 2), .int .i32 (nrI I (Wd, Ht, bs) u q 3)]) (unhide RBa) (Ne.symm (unhide NE)))
      have RBb := hide (Blk.row (cs' := #[.int .i32 (nrI I (Wd, Ht, bs) u q 0), .int .i32 (nrI I (Wd, Ht, bs) u q 1), .int .i32 (nrI I (Wd, Ht, bs) u q 2), .int .i32 (nrI I (Wd, Ht, bs) u q 3)]) (unhide RBb))
      have HS2 := ext_row (cs := #[.int .i32 (nrI I (Wd, Ht, bs) u q 0), .int .i32 (nrI I (Wd, Ht, bs) u q 1), .int .i32 (nrI I (Wd, Ht, bs) u q 2), .int .i32 (nrI I (Wd, Ht, bs) u q 3)]) HS (unhide RLb)
      clear HS
      have HS := HS2
      clear HS2
      try simp only [Act.put, List.setIfInBounds_toArray, List.set_cons_zero, List.set_cons_succ]
      refine wpAnyH_done (by kernel_rfl) ?_ _
      refine NoPanic.normal ?_
      go_wp2
      go_meet
      exact ⟨_, _, _, rfl, rfl, rfl, unhide RBa, unhide RBb, (by first | exact unhide NE | exact Ne.symm (unhide NE)), ⟨unhide RLa, unhide RLb⟩, HS⟩
  case rest =>
  obtain ⟨w7, ra, rb, rfl, rfl, rfl, hVa, hVb, hne, hlow, hx7⟩ := hcut
  have H7 : Hid (WiS W w7 w6.heap.size w5.heap.size w2.heap.size w4.heap.size ra rb #[.int .i64 I.f, .slice (some ⟨b, off, none⟩) L.length cap, .int .i64 I.ws, .int .i64 I.wt, .int .i64 I.mn, .int .i64 I.mg] #[.int .i32 u, .int .i32 q, .int .i32 lod, .int .i64 (k : Int), .int .i64 i, .int .i64 j] #[.int .i64 Wd, .int .i64 Ht, .slice bo bs.length bcap] (nrI I (Wd, Ht, bs) u q) (lnI I (Wd, Ht, bs) u q) (nrI I (Wd, Ht, bs) u q) (nrI I (Wd, Ht, bs) u q)) :=
    ⟨(unhide HB6).1.ext hx7, (unhide HB6).2.1.ext hx7, (unhide HB6).2.2.2.2.1.ext hx7, (unhide HB6).2.2.1.ext hx7, (unhide HB6).2.2.2.1.ext hx7, hVa, hVb, (unhide HB6).2.2.2.2.2.trans hx7, ⟨hne, hlow.1, hlow.2⟩, ⟨by have a := unhide HZ3; have b := unhide HZ5; have c := unhide HZ6; omega, by have a := unhide HZ3; have b := unhide HZ5; have c := unhide HZ6; omega, by have a := unhide HZ3; have b := unhide HZ5; have c := unhide HZ6; omega, by have a := unhide HZ3; have b := unhide HZ5; have c := unhide HZ6; omega⟩⟩
  clear HB6 hVa hVb hne hlow hx7 hs1 hs2 hs4 HZ3 HZ5 HZ6
  generalize w6.heap.size = N at H7
  obtain ⟨T, hT⟩ : ∃ T, T = txI I (Wd, Ht, bs) := ⟨_, rfl⟩
  rw [← hT] at HCT HDT HTX
  obtain ⟨C, hC⟩ : ∃ C, C = nrI I (Wd, Ht, bs) u q := ⟨_, rfl⟩
  rw [← hC] at HCT H7
  obtain ⟨Dv, hD⟩ : ∃ Dv, Dv = lnI I (Wd, Ht, bs) u q := ⟨_, rfl⟩
  rw [← hD] at HDT H7
  clear hT hC hD
  obtain ⟨W1, W2⟩ := hW
  obtain ⟨T1, T2⟩ := hH
  obtain ⟨bi1, bi2⟩ := bwi
  obtain ⟨bj1, bj2⟩ := bwj
  obtain ⟨l0, l1, l2⟩ := (unhide H7).lev.three
  go_wp2_with fail
  go_loopw [12, 62] (fun tv jv wr => ∃ (n : Nat) (th : Bool) (lo hi : Nat → Int), (n : Int) ≤ Ht ∧ tv = .bool th ∧ jv = .int .i64 (n : Int) ∧ WiS W wr N w5.heap.size w2.heap.size w4.heap.size ra rb #[.int .i64 I.f, .slice (some ⟨b, off, none⟩) L.length cap, .int .i64 I.ws, .int .i64 I.wt, .int .i64 I.mn, .int .i64 I.mg] #[.int .i32 u, .int .i32 q, .int .i32 lod, .int .i64 (k : Int), .int .i64 i, .int .i64 j] #[.int .i64 Wd, .int .i64 Ht, .slice bo bs.length bcap] C Dv lo hi ∧ Cov T (fun i j => 0 ≤ i ∧ i < Wd ∧ 0 ≤ j ∧ j < n) lo hi ∧ (wj < n → th = true)) (fun _ jv _ => Ht.toNat - (intOf jv).toNat)
  case atStart => exact ⟨0, false, C, C, by omega, rfl, rfl, unhide H7, fun i j h => by omega, fun h => by omega⟩
  case round =>
    clear H7 l0 l1 l2
    obtain ⟨n, th, lo, hi, hn, rfl, rfl, hS, hcov, hth⟩ := hrel
    have HS := hide hS
    have HCV := hide hcov
    have HTH := hide hth
    clear hcov hth
    by_cases hlt : (n : Int) < Ht
    · obtain ⟨l0, l1, l2⟩ := hS.lev.three
      clear hS
      go_wp2_with fail
      go_loopw [12, 67] (fun tv iv wy => ∃ (m : Nat) (th : Bool) (lo hi : Nat → Int), (m : Int) ≤ Wd ∧ tv = .bool th ∧ iv = .int .i64 (m : Int) ∧ WiS W wy N w5.heap.size w2.heap.size w4.heap.size ra rb #[.int .i64 I.f, .slice (some ⟨b, off, none⟩) L.length cap, .int .i64 I.ws, .int .i64 I.wt, .int .i64 I.mn, .int .i64 I.mg] #[.int .i32 u, .int .i32 q, .int .i32 lod, .int .i64 (k : Int), .int .i64 i, .int .i64 j] #[.int .i64 Wd, .int .i64 Ht, .slice bo bs.length bcap] C Dv lo hi ∧ Cov T (fun i j => (0 ≤ i ∧ i < Wd ∧ 0 ≤ j ∧ j < n) ∨ (0 ≤ i ∧ i < m ∧ j = n)) lo hi ∧ (wj < n ∨ (wj = n ∧ wi < m) → th = true)) (fun _ iv _ => Wd.toNat - (intOf iv).toNat)
      case atStart => exact ⟨0, th, lo, hi, by omega, rfl, rfl, unhide HS, fun i j h c hc => unhide HCV i j (by omega) c hc, fun h => unhide HTH (by omega)⟩
      case round =>
        clear HS HCV HTH l0 l1 l2
        obtain ⟨m, th, lo, hi, hm, rfl, rfl, hS, hcov, hth⟩ := hrel
        have HS := hide hS
        have HCV := hide hcov
        have HTH := hide hth
        clear hcov hth
        by_cases hmt : (m : Int) < Wd
        · obtain ⟨q0, q1, q2, q3, q4, q5⟩ := hS.img.six
          obtain ⟨p0, p1, p2, p3, p4, p5⟩ := hS.at_.six
          clear hS
          go_wp2_with fail
          refine (texel_any (I := I) ((unhide HI).lr.ext (unhide HS).ext) hLen (unhide HI).abs (unhide HBY) (k : Int) (m : Int) (n : Int)).mono ?_
          rintro e w8 ⟨rfl, hx8⟩
          rw [unhide HTX, unhide HE]
          obtain ⟨V, hV⟩ : ∃ V, V = T (m : Int) (n : Int) := ⟨_, rfl⟩
          have HV := hide hV
          rw [← hV]
          clear hV
          have hx9 := hx8.alloc (.cells #[.int .i32 (V 0), .int .i32 (V 1), .int .i32 (V 2), .int .i32 (V 3)] 34)
          have H9 := hide (And.intro ((unhide HS).later hx9) (Blk.new w8 #[.int .i32 (V 0), .int .i32 (V 1), .int .i32 (V 2), .int .i32 (V 3)] 34))
          have hNw : N ≤ w8.heap.size := by
            have h1 := (unhide HS).ne.2.1
            have h2 := (unhide HS).lo_.lt
            have h3 := hx8.size
            omega
          have hrt : ra ≠ w8.heap.size ∧ rb ≠ w8.heap.size := by
            have h2 := (unhide HS).lo_.lt
            have h4 := (unhide HS).hi_.lt
            have h3 := hx8.size
            omega
          obtain ⟨rt1, rt2⟩ := hrt
          clear HS hx8 hx9 q0 q1 q2 q3 q4 q5 p0 p1 p2 p3 p4 p5
          go_upto_region 19 with fail
          generalize hw9 : w8.alloc (.cells #[.int .i32 (V 0), .int .i32 (V 1), .int .i32 (V 2), .int .i32 (V 3)] 34) = w9 at H9 ⊢
          clear hw9
          obtain ⟨x0, x1, x2, x3⟩ := (unhide H9).1.c.vecs
          obtain ⟨y0, y1, y2, y3⟩ := (unhide H9).2.vecs
          go_cut [12] (fun tv wc => ∃ th', tv = .bool th' ∧ (th = true → th' = true) ∧ (V = C → th' = true) ∧ w9 = wc)
          case first =>
            cases th with
            | true =>
              go_wp2
              go_meet
              exact ⟨true, rfl, fun _ => rfl, fun _ => rfl, rfl⟩
            | false =>
              go_wp2
              go_meet
              exact ⟨_, rfl, (fun h => by cases h), (fun h => by rw [h]; simp), rfl⟩
          case rest =>
          obtain ⟨th2, rfl, hta, htb, rfl⟩ := hcut
          have HTA := hide (And.intro hta htb)
          clear hta htb x0 x1 x2 x3 y0 y1 y2 y3
          go_wp2_with fail
          go_loopw [87] (fun kv wy => ∃ (c : Nat) (lo2 hi2 : Nat → Int), c ≤ 4 ∧ kv = .int .i64 (c : Int) ∧ WiS W wy N w5.heap.size w2.heap.size w4.heap.size ra rb #[.int .i64 I.f, .slice (some ⟨b, off, none⟩) L.length cap, .int .i64 I.ws, .int .i64 I.wt, .int .i64 I.mn, .int .i64 I.mg] #[.int .i32 u, .int .i32 q, .int .i32 lod, .int .i64 (k : Int), .int .i64 i, .int .i64 j] #[.int .i64 Wd, .int .i64 Ht, .slice bo bs.length bcap] C Dv lo2 hi2 ∧ Blk wy w8.heap.size #[.int .i32 (V 0), .int .i32 (V 1), .int .i32 (V 2), .int .i32 (V 3)] 34 ∧ (∀ x, x < 4 → lo2 x ≤ lo x ∧ hi x ≤ hi2 x) ∧ (∀ x, x < c → lo2 x ≤ V x ∧ V x ≤ hi2 x)) (fun kv _ => 4 - (intOf kv).toNat)
          case atStart => exact ⟨0, lo, hi, by omega, rfl, (unhide H9).1, (unhide H9).2, fun x _ => ⟨Int.le_refl _, Int.le_refl _⟩, fun x hx => by omega⟩
          case round =>
            clear H9
            obtain ⟨c, lo2, hi2, hc, rfl, hS, hB, hwd, hin⟩ := hrel
            have H9 := hide (And.intro hS (And.intro hB (And.intro hwd hin)))
            by_cases hc4 : c < 4
            · have hcn : (c : Int) < 4 := by omega
              have u0 := hS.lo_.vec c hc4
              have u1 := hS.hi_.vec c hc4
              have u2 := hB.vec c hc4
              have z0 := hS.lo_.free c
              have z1 := hS.hi_.free c
              have hne := hS.ne.1
              have hne2 := Ne.symm hne
              have rt3 := Ne.symm rt1
              have rt4 := Ne.symm rt2
              have HP : Hid (∀ x y, x ≤ lo2 c → x ≤ V c → hi2 c ≤ y → V c ≤ y → ∀ wq, Ext wr wq → ∃ (c' : Nat) (lo3 hi3 : Nat → Int), c' ≤ 4 ∧ Value.int .i64 ((c : Int) + 1) = .int .i64 (c' : Int) ∧ WiS W ((wq.setCell ⟨ra, c, none⟩ (.int .i32 x)).setCell ⟨rb, c, none⟩ (.int .i32 y)) N w5.heap.size w2.heap.size w4.heap.size ra rb #[.int .i64 I.f, .slice (some ⟨b, off, none⟩) L.length cap, .int .i64 I.ws, .int .i64 I.wt, .int .i64 I.mn, .int .i64 I.mg] #[.int .i32 u, .int .i32 q, .int .i32 lod, .int .i64 (k : Int), .int .i64 i, .int .i64 j] #[.int .i64 Wd, .int .i64 Ht, .slice bo bs.length bcap] C Dv lo3 hi3 ∧ Blk ((wq.setCell ⟨ra, c, none⟩ (.int .i32 x)).setCell ⟨rb, c, none⟩ (.int .i32 y)) w8.heap.size #[.int .i32 (V 0), .int .i32 (V 1), .int .i32 (V 2), .int .i32 (V 3)] 34 ∧ (∀ x, x < 4 → lo3 x ≤ lo x ∧ hi x ≤ hi3 x) ∧ (∀ x, x < c' → lo3 x ≤ V x ∧ V x ≤ hi3 x)) := fun x y hx1 hx2 hy1 hy2 wq hq => by
                obtain ⟨hS, hB, hwd, hin⟩ := unhide H9
                refine ⟨c + 1, _, _, by omega, by go_num, (hS.later hq).put hc4 x y, ((hB.ext hq).other (r := ra) _ _ rt3).other (r := rb) _ _ rt4, fun z hz => ?_, fun z hz => ?_⟩
                · have := hwd z hz
                  by_cases e : z = c
                  · subst e
                    simp only [if_true]
                    omega
                  · simp only [if_neg e]
                    exact this
                · by_cases e : z = c
                  · subst e
                    simp only [if_true]
                    omega
                  · simp only [if_neg e]
                    exact hin z (by omega)
              clear hS hB hwd hin
              go_upto_region 23 with fail
              generalize V c = tv at *
              generalize lo2 c = lv at *
              generalize hi2 c = hv at *
              clear H9
              have u2d : wr.drew.cell? ⟨w8.heap.size, c, none⟩ = some (.int .i32 tv) := u2
              refine wp_region_noPanic ?_
              refine wp_region_held_drew (S := fun wx => wx.cell? ⟨w8.heap.size, c, none⟩ = some (.int .i32 tv)) (by kernel_rfl) u2d (fun HSC => ?_)
              refine wpAnyH_take (i := 0) (oi := { dst := some 90, op := Op.move (Operand.tmp 17), type := 3, pos := _, after := _, guard := none }) (v := .int .i64 (c : Int)) rfl (by kernel_rfl) (by kernel_rfl) (by kernel_rfl) (fun _ _ _ h => h) (Or.inl ⟨by rfl, fun _ _ => rfl⟩) HSC ?_
              simp only [Act.put, List.setIfInBounds_toArray, List.set_cons_zero, List.set_cons_succ]
              refine wpAnyH_take (i := 1) (oi := { dst := some 91, op := Op.move (Operand.tmp 17), type := 3, pos := _, after := _, guard := none }) (v := .int .i64 (c : Int)) rfl (by kernel_rfl) (by kernel_rfl) (by kernel_rfl) (fun _ _ _ h => h) (Or.inl ⟨by rfl, fun _ _ => rfl⟩) HSC ?_
              simp only [Act.put, List.setIfInBounds_toArray, List.set_cons_zero, List.set_cons_succ]
              refine wpAnyH_take (i := 2) (oi := { dst := some 92, op := Op.move (Operand.tmp 17), type := 3, pos := _, after := _, guard := none }) (v := .int .i64 (c : Int)) rfl (by kernel_rfl) (by kernel_rfl) (by kernel_rfl) (fun _ _ _ h => h) (Or.inl ⟨by rfl, fun _ _ => rfl⟩) HSC ?_
              simp only [Act.put, List.setIfInBounds_toArray, List.set_cons_zero, List.set_cons_succ]
              refine wpAnyH_take (i := 3) (oi := { dst := some 93, op := Op.indexAddr 34 (Operand.tmp 10) (Operand.tmp 92), type := 0, pos := _, after := _, guard := none }) (v := .pointer (some ⟨ra, c, none⟩)) rfl (by kernel_rfl) (by kernel_rfl) (by kernel_rfl) (fun _ _ _ h => h) (Or.inl ⟨by rfl, fun wx _ => by go_simp⟩) HSC ?_
              simp only [Act.put, List.setIfInBounds_toArray, List.set_cons_zero, List.set_cons_succ]
              refine wpAnyH_take (i := 5) (oi := { dst := some 95, op := Op.move (Operand.tmp 17), type := 3, pos := _, after := _, guard := none }) (v := .int .i64 (c : Int)) rfl (by kernel_rfl) (by kernel_rfl) (by kernel_rfl) (fun _ _ _ h => h) (Or.inl ⟨by rfl, fun _ _ => rfl⟩) HSC ?_
              simp only [Act.put, List.setIfInBounds_toArray, List.set_cons_zero, List.set_cons_succ]
              refine wpAnyH_take (i := 6) (oi := { dst := some 96, op := Op.indexAddr 34 (Operand.tmp 15) (Operand.tmp 95), type := 0, pos := _, after := _, guard := none }) (v := .pointer (some ⟨w8.heap.size, c, none⟩)) rfl (by kernel_rfl) (by kernel_rfl) (by kernel_rfl) (fun _ _ _ h => h) (Or.inl ⟨by rfl, fun wx _ => by go_simp⟩) HSC ?_
              simp only [Act.put, List.setIfInBounds_toArray, List.set_cons_zero, List.set_cons_succ]
              refine wpAnyH_take (i := 7) (oi := { dst := some 97, op := Op.load 30 (Operand.tmp 96), type := 30, pos := _, after := _, guard := none }) (v := .int .i32 tv) rfl (by kernel_rfl) (by kernel_rfl) (by kernel_rfl) (fun _ _ _ h => h) (Or.inl ⟨by rfl, fun wx hx => by go_simp⟩) HSC ?_
              simp only [Act.put, List.setIfInBounds_toArray, List.set_cons_zero, List.set_cons_succ]
              refine wpAnyH_take (i := 9) (oi := { dst := some 99, op := Op.move (Operand.tmp 17), type := 3, pos := _, after := _, guard := none }) (v := .int .i64 (c : Int)) rfl (by kernel_rfl) (by kernel_rfl) (by kernel_rfl) (fun _ _ _ h => h) (Or.inl ⟨by rfl, fun _ _ => rfl⟩) HSC ?_
              simp only [Act.put, List.setIfInBounds_toArray, List.set_cons_zero, List.set_cons_succ]
              refine wpAnyH_take (i := 10) (oi := { dst := some 100, op := Op.indexAddr 34 (Operand.tmp 11) (Operand.tmp 99), type := 0, pos := _, after := _, guard := none }) (v := .pointer (some ⟨rb, c, none⟩)) rfl (by kernel_rfl) (by kernel_rfl) (by kernel_rfl) (fun _ _ _ h => h) (Or.inl ⟨by rfl, fun wx _ => by go_simp⟩) HSC ?_
              simp only [Act.put, List.setIfInBounds_toArray, List.set_cons_zero, List.set_cons_succ]
              refine wpAnyH_take (i := 12) (oi := { dst := some 102, op := Op.move (Operand.tmp 17), type := 3, pos := _, after := _, guard := none }) (v := .int .i64 (c : Int)) rfl (by kernel_rfl) (by kernel_rfl) (by kernel_rfl) (fun _ _ _ h => h) (Or.inl ⟨by rfl, fun _ _ => rfl⟩) HSC ?_
              simp only [Act.put, List.setIfInBounds_toArray, List.set_cons_zero, List.set_cons_succ]
              refine wpAnyH_take (i := 13) (oi := { dst := some 103, op := Op.indexAddr 34 (Operand.tmp 15) (Operand.tmp 102), type := 0, pos := _, after := _, guard := none }) (v := .pointer (some ⟨w8.heap.size, c, none⟩)) rfl (by kernel_rfl) (by kernel_rfl) (by kernel_rfl) (fun _ _ _ h => h) (Or.inl ⟨by rfl, fun wx _ => by go_simp⟩) HSC ?_
              simp only [Act.put, List.setIfInBounds_toArray, List.set_cons_zero, List.set_cons_succ]
              refine wpAnyH_take (i := 14) (oi := { dst := some 104, op := Op.load 30 (Operand.tmp 103), type := 30, pos := _, after := _, guard := none }) (v := .int .i32 tv) rfl (by kernel_rfl) (by kernel_rfl) (by kernel_rfl) (fun _ _ _ h => h) (Or.inl ⟨by rfl, fun wx hx => by go_simp⟩) HSC ?_
              simp only [Act.put, List.setIfInBounds_toArray, List.set_cons_zero, List.set_cons_succ]
              refine wpAnyH_ready (rs := [4, 11]) (by kernel_rfl) (by simp) (AllReadyH.cons (o := { dst := some 94, op := Op.load 30 (Operand.tmp 93), type := 30, pos := _, after := _, guard := none }) rfl (fun KK hK => ?_) (AllReadyH.cons (o := { dst := some 101, op := Op.load 30 (Operand.tmp 100), type := 30, pos := _, after := _, guard := none }) rfl (fun KK hK => ?_) AllReadyH.nil))
              · go_simp
                refine hK.out _ _ (u2d) (fun HSC => ?_)
                clear hK KK
                try simp only [Act.put, List.setIfInBounds_toArray, List.set_cons_zero, List.set_cons_succ]
                refine wpAnyH_take (i := 8) (oi := { dst := some 98, op := Op.call { callee := Callee.builtin Builtin.min, args := #[Operand.tmp 94, Operand.tmp 97], argTypes := #[30, 30] }, type := 30, pos := _, after := _, guard := none }) (v := .int .i32 (if tv < lv then tv else lv)) rfl (by kernel_rfl) (by kernel_rfl) (by kernel_rfl) (fun _ _ _ h => h) (yields_min (by rfl) (.tmp 94) (.tmp 97) 30 rfl .i32 lv tv rfl rfl) HSC ?_
                simp only [Act.put, List.setIfInBounds_toArray, List.set_cons_zero, List.set_cons_succ]
                refine wpAnyH_take (i := 16) (oi := { dst := some 106, op := Op.indexAddr 34 (Operand.tmp 10) (Operand.tmp 90), type := 0, pos := _, after := _, guard := none }) (v := .pointer (some ⟨ra, c, none⟩)) rfl (by kernel_rfl) (by kernel_rfl) (by kernel_rfl) (fun _ _ _ h => h) (Or.inl ⟨by rfl, fun wx _ => by go_simp⟩) HSC ?_
                simp only [Act.put, List.setIfInBounds_toArray, List.set_cons_zero, List.set_cons_succ]
                refine wpAnyH_ready (rs := [11, 17]) (by kernel_rfl) (by simp) (AllReadyH.cons (o := { dst := some 101, op := Op.load 30 (Operand.tmp 100), type := 30, pos := _, after := _, guard := none }) rfl (fun KK hK => ?_) (AllReadyH.cons (o := { dst := none, op := Op.store 30 (Operand.tmp 106) (Operand.tmp 98), type := 0, pos := _, after := _, guard := none }) rfl (fun KK hK => ?_) AllReadyH.nil))
                · go_simp
                  refine hK.out _ _ (u2d) (fun HSC => ?_)
                  clear hK KK
                  try simp only [Act.put, List.setIfInBounds_toArray, List.set_cons_zero, List.set_cons_succ]
                  refine wpAnyH_take (i := 15) (oi := { dst := some 105, op := Op.call { callee := Callee.builtin Builtin.max, args := #[Operand.tmp 101, Operand.tmp 104], argTypes := #[30, 30] }, type := 30, pos := _, after := _, guard := none }) (v := .int .i32 (if tv > hv then tv else hv)) rfl (by kernel_rfl) (by kernel_rfl) (by kernel_rfl) (fun _ _ _ h => h) (yields_max (by rfl) (.tmp 101) (.tmp 104) 30 rfl .i32 hv tv rfl rfl) HSC ?_
                  simp only [Act.put, List.setIfInBounds_toArray, List.set_cons_zero, List.set_cons_succ]
                  refine wpAnyH_ready (rs := [17]) (by kernel_rfl) (by simp) (AllReadyH.cons (o := { dst := none, op := Op.store 30 (Operand.tmp 106) (Operand.tmp 98), type := 0, pos := _, after := _, guard := none }) rfl (fun KK hK => ?_) AllReadyH.nil)
                  go_simp
                  refine hK.out _ (wr.drew.setCell ⟨ra, c, none⟩ (.int .i32 (if tv < lv then tv else lv))) (cell_other (u2d) rt3) (fun HSC => ?_)
                  clear hK KK
                  try simp only [Act.put, List.setIfInBounds_toArray, List.set_cons_zero, List.set_cons_succ]
                  refine wpAnyH_take (i := 18) (oi := { dst := some 107, op := Op.indexAddr 34 (Operand.tmp 11) (Operand.tmp 91), type := 0, pos := _, after := _, guard := none }) (v := .pointer (some ⟨rb, c, none⟩)) rfl (by kernel_rfl) (by kernel_rfl) (by kernel_rfl) (fun _ _ _ h => h) (Or.inl ⟨by rfl, fun wx _ => by go_simp⟩) HSC ?_
                  simp only [Act.put, List.setIfInBounds_toArray, List.set_cons_zero, List.set_cons_succ]
                  refine wpAnyH_ready (rs := [19]) (by kernel_rfl) (by simp) (AllReadyH.cons (o := { dst := none, op := Op.store 30 (Operand.tmp 107) (Operand.tmp 105), type := 0, pos := _, after := _, guard := none }) rfl (fun KK hK => ?_) AllReadyH.nil)
                  go_simp
                  refine hK.out _ ((wr.drew.setCell ⟨ra, c, none⟩ (.int .i32 (if tv < lv then tv else lv))).setCell ⟨rb, c, none⟩ (.int .i32 (if tv > hv then tv else hv))) (cell_other (cell_other (u2d) rt3) rt4) (fun HSC => ?_)
                  clear hK KK
                  try simp only [Act.put, List.setIfInBounds_toArray, List.set_cons_zero, List.set_cons_succ]
                  refine wpAnyH_done (by kernel_rfl) ?_ _
                  refine NoPanic.normal ?_
                  go_wp2
                  go_roundw
                  case rel => exact unhide HP _ _ (by split <;> omega) (by split <;> omega) (by split <;> omega) (by split <;> omega) _ (ext_0 wr)
                  case measure => simp [intOf]; omega
                · go_simp
                  refine hK.out _ (wr.drew.setCell ⟨ra, c, none⟩ (.int .i32 (if tv < lv then tv else lv))) (cell_other (u2d) rt3) (fun HSC => ?_)
                  clear hK KK
                  try simp only [Act.put, List.setIfInBounds_toArray, List.set_cons_zero, List.set_cons_succ]
                  refine wpAnyH_ready (rs := [11]) (by kernel_rfl) (by simp) (AllReadyH.cons (o := { dst := some 101, op := Op.load 30 (Operand.tmp 100), type := 30, pos := _, after := _, guard := none }) rfl (fun KK hK => ?_) AllReadyH.nil)
                  go_simp
                  refine hK.out _ _ (cell_other (u2d) rt3) (fun HSC => ?_)
                  clear hK KK
                  try simp only [Act.put, List.setIfInBounds_toArray, List.set_cons_zero, List.set_cons_succ]
                  refine wpAnyH_take (i := 15) (oi := { dst := some 105, op := Op.call { callee := Callee.builtin Builtin.max, args := #[Operand.tmp 101, Operand.tmp 104], argTypes := #[30, 30] }, type := 30, pos := _, after := _, guard := none }) (v := .int .i32 (if tv > hv then tv else hv)) rfl (by kernel_rfl) (by kernel_rfl) (by kernel_rfl) (fun _ _ _ h => h) (yields_max (by rfl) (.tmp 101) (.tmp 104) 30 rfl .i32 hv tv rfl rfl) HSC ?_
                  simp only [Act.put, List.setIfInBounds_toArray, List.set_cons_zero, List.set_cons_succ]
                  refine wpAnyH_take (i := 18) (oi := { dst := some 107, op := Op.indexAddr 34 (Operand.tmp 11) (Operand.tmp 91), type := 0, pos := _, after := _, guard := none }) (v := .pointer (some ⟨rb, c, none⟩)) rfl (by kernel_rfl) (by kernel_rfl) (by kernel_rfl) (fun _ _ _ h => h) (Or.inl ⟨by rfl, fun wx _ => by go_simp⟩) HSC ?_
                  simp only [Act.put, List.setIfInBounds_toArray, List.set_cons_zero, List.set_cons_succ]
                  refine wpAnyH_ready (rs := [19]) (by kernel_rfl) (by simp) (AllReadyH.cons (o := { dst := none, op := Op.store 30 (Operand.tmp 107) (Operand.tmp 105), type := 0, pos := _, after := _, guard := none }) rfl (fun KK hK => ?_) AllReadyH.nil)
                  go_simp
                  refine hK.out _ ((wr.drew.setCell ⟨ra, c, none⟩ (.int .i32 (if tv < lv then tv else lv))).setCell ⟨rb, c, none⟩ (.int .i32 (if tv > hv then tv else hv))) (cell_other (cell_other (u2d) rt3) rt4) (fun HSC => ?_)
                  clear hK KK
                  try simp only [Act.put, List.setIfInBounds_toArray, List.set_cons_zero, List.set_cons_succ]
                  refine wpAnyH_done (by kernel_rfl) ?_ _
                  refine NoPanic.normal ?_
                  go_wp2
                  go_roundw
                  case rel => exact unhide HP _ _ (by split <;> omega) (by split <;> omega) (by split <;> omega) (by split <;> omega) _ (ext_0 wr)
                  case measure => simp [intOf]; omega
              · go_simp
                refine hK.out _ _ (u2d) (fun HSC => ?_)
                clear hK KK
                try simp only [Act.put, List.setIfInBounds_toArray, List.set_cons_zero, List.set_cons_succ]
                refine wpAnyH_take (i := 15) (oi := { dst := some 105, op := Op.call { callee := Callee.builtin Builtin.max, args := #[Operand.tmp 101, Operand.tmp 104], argTypes := #[30, 30] }, type := 30, pos := _, after := _, guard := none }) (v := .int .i32 (if tv > hv then tv else hv)) rfl (by kernel_rfl) (by kernel_rfl) (by kernel_rfl) (fun _ _ _ h => h) (yields_max (by rfl) (.tmp 101) (.tmp 104) 30 rfl .i32 hv tv rfl rfl) HSC ?_
                simp only [Act.put, List.setIfInBounds_toArray, List.set_cons_zero, List.set_cons_succ]
                refine wpAnyH_ready (rs := [4]) (by kernel_rfl) (by simp) (AllReadyH.cons (o := { dst := some 94, op := Op.load 30 (Operand.tmp 93), type := 30, pos := _, after := _, guard := none }) rfl (fun KK hK => ?_) AllReadyH.nil)
                go_simp
                refine hK.out _ _ (u2d) (fun HSC => ?_)
                clear hK KK
                try simp only [Act.put, List.setIfInBounds_toArray, List.set_cons_zero, List.set_cons_succ]
                refine wpAnyH_take (i := 8) (oi := { dst := some 98, op := Op.call { callee := Callee.builtin Builtin.min, args := #[Operand.tmp 94, Operand.tmp 97], argTypes := #[30, 30] }, type := 30, pos := _, after := _, guard := none }) (v := .int .i32 (if tv < lv then tv else lv)) rfl (by kernel_rfl) (by kernel_rfl) (by kernel_rfl) (fun _ _ _ h => h) (yields_min (by rfl) (.tmp 94) (.tmp 97) 30 rfl .i32 lv tv rfl rfl) HSC ?_
                simp only [Act.put, List.setIfInBounds_toArray, List.set_cons_zero, List.set_cons_succ]
                refine wpAnyH_take (i := 16) (oi := { dst := some 106, op := Op.indexAddr 34 (Operand.tmp 10) (Operand.tmp 90), type := 0, pos := _, after := _, guard := none }) (v := .pointer (some ⟨ra, c, none⟩)) rfl (by kernel_rfl) (by kernel_rfl) (by kernel_rfl) (fun _ _ _ h => h) (Or.inl ⟨by rfl, fun wx _ => by go_simp⟩) HSC ?_
                simp only [Act.put, List.setIfInBounds_toArray, List.set_cons_zero, List.set_cons_succ]
                refine wpAnyH_ready (rs := [17]) (by kernel_rfl) (by simp) (AllReadyH.cons (o := { dst := none, op := Op.store 30 (Operand.tmp 106) (Operand.tmp 98), type := 0, pos := _, after := _, guard := none }) rfl (fun KK hK => ?_) AllReadyH.nil)
                go_simp
                refine hK.out _ (wr.drew.setCell ⟨ra, c, none⟩ (.int .i32 (if tv < lv then tv else lv))) (cell_other (u2d) rt3) (fun HSC => ?_)
                clear hK KK
                try simp only [Act.put, List.setIfInBounds_toArray, List.set_cons_zero, List.set_cons_succ]
                refine wpAnyH_take (i := 18) (oi := { dst := some 107, op := Op.indexAddr 34 (Operand.tmp 11) (Operand.tmp 91), type := 0, pos := _, after := _, guard := none }) (v := .pointer (some ⟨rb, c, none⟩)) rfl (by kernel_rfl) (by kernel_rfl) (by kernel_rfl) (fun _ _ _ h => h) (Or.inl ⟨by rfl, fun wx _ => by go_simp⟩) HSC ?_
                simp only [Act.put, List.setIfInBounds_toArray, List.set_cons_zero, List.set_cons_succ]
                refine wpAnyH_ready (rs := [19]) (by kernel_rfl) (by simp) (AllReadyH.cons (o := { dst := none, op := Op.store 30 (Operand.tmp 107) (Operand.tmp 105), type := 0, pos := _, after := _, guard := none }) rfl (fun KK hK => ?_) AllReadyH.nil)
                go_simp
                refine hK.out _ ((wr.drew.setCell ⟨ra, c, none⟩ (.int .i32 (if tv < lv then tv else lv))).setCell ⟨rb, c, none⟩ (.int .i32 (if tv > hv then tv else hv))) (cell_other (cell_other (u2d) rt3) rt4) (fun HSC => ?_)
                clear hK KK
                try simp only [Act.put, List.setIfInBounds_toArray, List.set_cons_zero, List.set_cons_succ]
                refine wpAnyH_done (by kernel_rfl) ?_ _
                refine NoPanic.normal ?_
                go_wp2
                go_roundw
                case rel => exact unhide HP _ _ (by split <;> omega) (by split <;> omega) (by split <;> omega) (by split <;> omega) _ (ext_0 wr)
                case measure => simp [intOf]; omega
            · obtain rfl : c = 4 := by omega
              have hcn : ¬ (4 : Int) < 4 := by omega
              clear hS hB hwd hin
              go_wp2
              go_roundw
              case rel =>
                obtain ⟨hS, hB, hwd, hin⟩ := unhide H9
                refine ⟨m + 1, th2, lo2, hi2, by omega, rfl, by go_num, hS, ?_, ?_⟩
                · intro i j hs c hc
                  rcases Classical.em ((0 ≤ i ∧ i < Wd ∧ 0 ≤ j ∧ j < n) ∨ (0 ≤ i ∧ i < m ∧ j = n)) with h | h
                  · exact (unhide HCV).widen hwd i j h c hc
                  · obtain rfl : i = (m : Int) := by omega
                    obtain rfl : j = (n : Int) := by omega
                    rw [← unhide HV]
                    exact hin c hc
                · intro h
                  rcases Classical.em (wj < n ∨ (wj = n ∧ wi < m)) with h2 | h2
                  · exact (unhide HTA).1 (unhide HTH h2)
                  · refine (unhide HTA).2 ?_
                    rw [unhide HV, unhide HCT]
                    obtain rfl : wj = (n : Int) := by omega
                    obtain rfl : wi = (m : Int) := by omega
                    rfl
              case measure => simp [intOf]; omega
        · have hmn : ¬ (m : Int) < Wd := by omega
          clear hS
          go_wp2
          go_roundw
          case rel => exact ⟨n + 1, th, lo, hi, by omega, rfl, by go_num, unhide HS, fun i j hs c hc => unhide HCV i j (by omega) c hc, fun h => unhide HTH (by omega)⟩
          case measure => simp [intOf]; omega
    · have hnH : (n : Int) = Ht := by omega
      have hnn : ¬ (n : Int) < Ht := by omega
      have HTT : Hid (th = true) := unhide HTH (by omega)
      have hd := unhide HDT lo hi (by rw [← hnH]; exact unhide HCV)
      clear hnH
      have HD := hide hd
      clear hS hd
      go_wp2_with fail
      go_loopw [111] (fun kv wy => ∃ (c : Nat), c ≤ 4 ∧ kv = .int .i64 (c : Int) ∧ WiS W wy N w5.heap.size w2.heap.size w4.heap.size ra rb #[.int .i64 I.f, .slice (some ⟨b, off, none⟩) L.length cap, .int .i64 I.ws, .int .i64 I.wt, .int .i64 I.mn, .int .i64 I.mg] #[.int .i32 u, .int .i32 q, .int .i32 lod, .int .i64 (k : Int), .int .i64 i, .int .i64 j] #[.int .i64 Wd, .int .i64 Ht, .slice bo bs.length bcap] C Dv lo hi) (fun kv _ => 4 - (intOf kv).toNat)
      case atStart => exact ⟨0, by omega, rfl, unhide HS⟩
      case round =>
        clear HS
        obtain ⟨c, hc, rfl, hS⟩ := hrel
        have HS := hide hS
        by_cases hc4 : c < 4
        · have hcn : (c : Int) < 4 := by omega
          have u0 := hS.lo_.vec c hc4
          have u1 := hS.hi_.vec c hc4
          have u2 := hS.d.vec c hc4
          obtain ⟨d1, d2⟩ := unhide HD c hc4
          have d3 : ¬ Dv c < lo c := by omega
          have d4 : ¬ hi c < Dv c := by omega
          clear hS
          go_upto_region 30 with fail
          go_quiet (fail)
          go_wp2
          go_roundw
          case rel => exact ⟨c + 1, by omega, by go_num, (unhide HS).later ((Ext.refl _).drewN _)⟩
          case measure => simp [intOf]; omega
        · obtain rfl : c = 4 := by omega
          have hcn : ¬ (4 : Int) < 4 := by omega
          clear hS
          rw [unhide HTT]
          go_wp2
          go_ret
          exact ⟨rfl, (unhide HS).ext⟩

set_option maxRecDepth 10000
theorem within_owes (H : Type) (enc : TypeId × Value → H) (W : World) (base : Nat) (args : Array Value) (ds : List (DataW H)) (p : List MemPlace) : Owes H enc Try.prog 7 Try.f7 Rows.sampleWithinSpec W base args ds p := by
  intro hval hA hsz
  rw [Try.params7] at hA hval hsz
  obtain ⟨v0, vs0, d0, ds0, p0, q0, hargs, rfl, rfl, h0, r0⟩ := trodAll_cons hA
  obtain ⟨v1, vs1, d1, ds1, p1, q1, rfl, rfl, rfl, h1, r1⟩ := trodAll_cons r0
  obtain ⟨rfl, rfl, rfl⟩ := trodAll_nil r1
  obtain rfl : args = #[v0, v1] := by cases args; simp_all
  obtain ⟨I, u0, L0, rfl, hI⟩ := open_img (hval 0 29 v0 rfl rfl) h0 (Wgt.arg (j := 0) hsz rfl rfl)
  obtain ⟨u, q, lod, lv, i, j, rfl, hu, hq, hl, _, _, _⟩ := open_at (hval 1 32 v1 rfl rfl) h1
  exact ⟨⟨rfl, rfl, rfl⟩, within_walk hI u q lod lv i j hu hq hl⟩

set_option maxRecDepth 100000 in
theorem within_lifted (os : Os) (started : os.Started) (H : Type) (enc : TypeId × Value → H) :
    ReturnsInHanded {} Try.checked os 7 .any (Rows.sampleWithinSpec.pre6 enc Try.prog Try.f7 [] false) (Rows.sampleWithinSpec.post enc Try.prog Try.f7 false true false false) :=
  lift_law (C := Try.checked) own laidOut started (by kernel_rfl) Try.func7 (T := 4) rfl Try.underlying4 rfl (by kernel_rfl)
    (ChangeSpec.witness6 (enc := enc) (C := Try.checked) false ⟨#[], #[.agg #[.int .i64 0, .slice none 0 0, .int .i64 0, .int .i64 0, .int .i64 0, .int .i64 0], .agg #[.int .i32 0, .int .i32 0, .int .i32 0, .int .i64 0, .int .i64 0, .int .i64 0]], []⟩ 8 (by kernel_rfl) (by kernel_rfl) (by kernel_rfl) (by kernel_rfl)) (within_owes H enc)

theorem sampleWithin_holds : Rows.SampleWithinSaid :=
  OpenClaim.holds_of_wide 7 Try.f7 rfl rfl rfl rfl rfl rfl rfl ⟨rfl, rfl, rfl, rfl, rfl⟩ rfl rfl rfl rfl rfl (by kernel_rfl) Try.func7 (by kernel_rfl)
    (of_decide_eq_true (by kernel_rfl)) (by unfold Func.isWrapper; rw [if_neg (of_decide_eq_false (by kernel_rfl))]; exact ⟨rfl, rfl⟩)
    (fun os started H enc _ => within_lifted os started H enc)
#print axioms sampleWithin_holds
end Go.Proofs.Ytgblnipfeikomaa
