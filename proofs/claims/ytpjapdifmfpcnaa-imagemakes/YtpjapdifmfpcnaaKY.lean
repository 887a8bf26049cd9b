/-
  Images: spoil, right.
-/
import Derived.Test.YtpjapdifmfpcnaaKX
import Derived.Test.YtpjapdifmfpcnaaRD
namespace Go.Proofs.Ytpjapdifmfpcnaa
open Go.RowKit
set_option linter.unusedVariables false
set_option linter.unusedSimpArgs false

section
variable {w : World} {base g n cap : Nat} {A B : List Ent} {x : Ent}
/-- One byte of one level is set. -/
theorem LO.byteAt (h : LO w base (.slice (some ⟨g, 0, none⟩) n cap) (A ++ x :: B)) {b bn bcap : Nat} (hx : x.2.2.1 = .slice (some ⟨b, 0, none⟩) bn bcap) (j : Nat) (z : Int) :
    LO (w.setCell ⟨b, j, none⟩ (.int .u8 z)) base (.slice (some ⟨g, 0, none⟩) n cap) (A ++ (x.1, x.2.1, x.2.2.1, x.2.2.2.set j z) :: B) := by
  obtain ⟨g2, cur, e, hn, hb, hcur⟩ := h.blk (by simp; omega)
  cases e
  subst hn
  have hox := h.bys x (by simp)
  have hne : b ≠ g := own_ne hcur hox b (by rw [hx]; rfl)
  have hgr := grownBy_set w b j (.int .u8 z)
  have e9 : (A ++ (x.1, x.2.1, x.2.2.1, x.2.2.2.set j z) :: B).length = (A ++ x :: B).length := by simp
  have hal := h.alone
  rw [List.pairwise_append, List.pairwise_cons] at hal
  have hxb : x.2.2.1.ownBlock = some b := by rw [hx]; rfl
  have hoth : ∀ p, p ∈ A ++ B → p.2.2.1.ownBlock ≠ some b := fun p hp e => by
    rcases List.mem_append.1 hp with hp | hp
    · exact hal.2.2 p hp x (by simp) b e hxb
    · exact hal.2.1.1 p hp b hxb e
  have hset : Own .u8 (w.setCell ⟨b, j, none⟩ (.int .u8 z)) base 5 x.2.2.1 (x.2.2.2.set j z) := by
    have hbn : bn = x.2.2.2.length := by
      rcases hox.2 with ⟨e1, _⟩ | ⟨g3, c3, cur3, e1, _⟩
      · rw [hx] at e1; cases e1
      · rw [hx] at e1; cases e1; rfl
    rw [hx, hbn] at hox ⊢
    have h9 := (World.ownsRow.stored hox j (.int .u8 z)).1
    rw [← List.map_set] at h9
    unfold Own
    rw [List.length_set]
    exact h9
  refine ⟨?_, fun p hp => ?_, ?_⟩
  · rw [e9]
    have h8 := World.ownsRow.kept h.own hgr (.inr (fun e => by simp [Value.ownBlock] at e; exact hne e.symm))
    have e8 : lcells (A ++ (x.1, x.2.1, x.2.2.1, x.2.2.2.set j z) :: B) = lcells (A ++ x :: B) := by
      rw [lcells_append, lcells_append]
      rfl
    rw [e8]
    exact h8
  · have hp' : p ∈ A ++ B ∨ p = (x.1, x.2.1, x.2.2.1, x.2.2.2.set j z) := by
      simp at hp ⊢
      rcases hp with h1 | h1 | h1
      · exact .inl (.inl h1)
      · exact .inr h1
      · exact .inl (.inr h1)
    rcases hp' with hp' | rfl
    · have hp2 := h.bys p (by simp at hp' ⊢; rcases hp' with h1 | h1 <;> simp [h1])
      exact hp2.grown hgr (fun b2 hb2 e => hoth p hp' (by rw [hb2, e]))
    · exact hset
  · rw [List.pairwise_append, List.pairwise_cons]
    refine ⟨hal.1, ⟨hal.2.1.1, hal.2.1.2⟩, fun p hp q hq b2 hb2 => ?_⟩
    rcases List.mem_cons.1 hq with rfl | hq
    · exact hal.2.2 p hp x (by simp) b2 hb2
    · exact hal.2.2 p hp q (by simp [hq]) b2 hb2
/-- One level's width is set. -/
theorem LO.wideAt (h : LO w base (.slice (some ⟨g, 0, none⟩) n cap) (A ++ x :: B)) (m : Int) :
    LO (w.setCell ⟨g, A.length * 3, none⟩ (.int .i64 m)) base (.slice (some ⟨g, 0, none⟩) n cap) (A ++ (m, x.2.1, x.2.2.1, x.2.2.2) :: B) := by
  obtain ⟨g2, cur, e, hn, hb, hcur⟩ := h.blk (by simp; omega)
  cases e
  subst hn
  obtain ⟨hst, hgr⟩ := World.ownsRow.stored h.own (A.length * 3) (.int .i64 m)
  have e9 : (A ++ (m, x.2.1, x.2.2.1, x.2.2.2) :: B).length = (A ++ x :: B).length := by simp
  have hal := h.alone
  rw [List.pairwise_append, List.pairwise_cons] at hal
  refine ⟨by rw [e9, ← lcells_setW A B x]; exact hst, fun p hp => ?_, ?_⟩
  · have hp' : p ∈ A ++ x :: B ∨ p = (m, x.2.1, x.2.2.1, x.2.2.2) := by
      simp at hp ⊢
      rcases hp with h1 | h1 | h1
      · exact .inl (.inl h1)
      · exact .inr h1
      · exact .inl (.inr (.inr h1))
    rcases hp' with hp' | rfl
    · exact (h.bys p hp').grown hgr (own_ne hcur (h.bys p hp'))
    · exact (h.bys x (by simp)).grown hgr (own_ne hcur (h.bys x (by simp)))
  · rw [List.pairwise_append, List.pairwise_cons]
    refine ⟨hal.1, ⟨hal.2.1.1, hal.2.1.2⟩, fun p hp q hq b2 hb2 => ?_⟩
    rcases List.mem_cons.1 hq with rfl | hq
    · exact hal.2.2 p hp x (by simp) b2 hb2
    · exact hal.2.2 p hp q (by simp [hq]) b2 hb2
end

/-- How far spoil has come. -/
structure SpI (w wr : World) (base : Nat) (I : Img) (ao : Option Addr) (cap n : Nat) (D : List Ent) : Prop where
  len : D.length = n
  lo : LO wr base (.slice ao n cap) D
  blk : Blk wr w.heap.size #[.int .i64 I.f, .slice ao n cap, .int .i64 I.ws, .int .i64 I.wt, .int .i64 I.mn, .int .i64 I.mg] 24
  low : base ≤ w.heap.size
  ext : Below base w wr
  kept : ∀ b cs, Blk w b cs 24 → Blk wr b cs 24
theorem SpI.byte {w wr : World} {base g cap n k : Nat} {I : Img} {D : List Ent} (h : SpI w wr base I (some ⟨g, 0, none⟩) cap n D) (hk : k < D.length) {b bn bcap : Nat} (hx : D[k].2.2.1 = .slice (some ⟨b, 0, none⟩) bn bcap) (j : Nat) (z : Int) :
    ∃ D', SpI w (wr.setCell ⟨b, j, none⟩ (.int .u8 z)) base I (some ⟨g, 0, none⟩) cap n D' ∧ ∃ hk' : k < D'.length, D'[k].2.2.1 = D[k].2.2.1 := by
  have hsplit : D = D.take k ++ D[k] :: D.drop (k + 1) := by rw [← List.drop_eq_getElem_cons hk, List.take_append_drop]
  have hlt : (D.take k).length = k := by simp; omega
  have hlo := h.lo
  rw [hsplit] at hlo
  have h1 := hlo.byteAt hx j z
  have hob := h.lo.bys _ (List.getElem_mem hk)
  have hbb := hob.lt b (by rw [hx]; rfl)
  have hne : ∀ b2 cs, Blk wr b2 cs 24 → b2 ≠ b := fun b2 cs hb2 e => by
    rcases hob.2 with ⟨e1, _⟩ | ⟨g3, c3, cur3, e1, _, hg3, _⟩
    · rw [hx] at e1; cases e1
    · rw [hx] at e1; cases e1
      rw [← e, show wr.heap[b2]? = _ from hb2] at hg3
      simp at hg3
  refine ⟨_, ⟨?_, h1, h.blk.other (r := b) _ _ (hne _ _ h.blk), h.low, below_grown h.ext (grownBy_set wr b j _) (Nat.le_trans h.low h.ext.size) hbb.1, fun b2 cs hb2 => (h.kept b2 cs hb2).other (r := b) _ _ (hne _ _ (h.kept b2 cs hb2))⟩, by simp; omega, ?_⟩
  · rw [← h.len]
    simp
    omega
  · rw [List.getElem_append_right (by omega)]
    simp [hlt]
theorem SpI.wide {w wr : World} {base g cap n k : Nat} {I : Img} {D : List Ent} (h : SpI w wr base I (some ⟨g, 0, none⟩) cap n D) (hk : k < D.length) (m : Int) :
    ∃ D', SpI w (wr.setCell ⟨g, k * 3, none⟩ (.int .i64 m)) base I (some ⟨g, 0, none⟩) cap n D' := by
  have hsplit : D = D.take k ++ D[k] :: D.drop (k + 1) := by rw [← List.drop_eq_getElem_cons hk, List.take_append_drop]
  have hlt : (D.take k).length = k := by simp; omega
  have hlo := h.lo
  rw [hsplit] at hlo
  have h1 := hlo.wideAt m
  rw [hlt] at h1
  obtain ⟨g2, cur, e, hn, hb, hcur⟩ := h.lo.blk (by omega)
  cases e
  have hne : w.heap.size ≠ g := blk_ne h.blk (by decide) hcur
  refine ⟨_, ⟨?_, h1, h.blk.other (r := g) _ _ hne, h.low, below_grown h.ext (grownBy_set wr g _ _) (Nat.le_trans h.low h.ext.size) hb, fun b2 cs hb2 => (h.kept b2 cs hb2).other (r := g) _ _ (blk_ne (h.kept b2 cs hb2) (by decide) hcur)⟩⟩
  rw [← h.len]
  simp
  omega

set_option maxRecDepth 10000 in
set_option maxHeartbeats 2000000 in
theorem spoil_any {w : World} {base : Nat} {v : Value} {L : List Ent} {I : Img} (h : LO w base v L) (hb : base ≤ w.heap.size) (hL : L.length ≤ 1000) :
    Calls Try.prog 30 #[.agg #[.int .i64 I.f, v, .int .i64 I.ws, .int .i64 I.wt, .int .i64 I.mn, .int .i64 I.mg]] w fun e w' => e = .returned (.tuple #[]) ∧ Below base w w' ∧ ∀ b cs, Blk w b cs 24 → Blk w' b cs 24 := by
  obtain ⟨ao, cap, rfl, hao, hlc, hcm⟩ := h.cut
  have hcm2 : cap ≤ 9223372036854775807 := by unfold maxLen at hcm; omega
  have HI0 : Hid (SpI w (w.alloc (.cells #[.int .i64 I.f, .slice ao L.length cap, .int .i64 I.ws, .int .i64 I.wt, .int .i64 I.mn, .int .i64 I.mg] 24)) base I ao cap L.length L) := ⟨rfl, h.ext ((Ext.refl w).alloc _), Blk.new _ _ _, hb, (Below.refl _ _).alloc hb _, fun b cs h9 => h9.alloc _⟩
  clear h hao hcm hb
  go_enter Try.func30, Try.ntmps30
  go_wp2_with fail
  generalize w.alloc (.cells #[.int .i64 I.f, .slice ao L.length cap, .int .i64 I.ws, .int .i64 I.wt, .int .i64 I.mn, .int .i64 I.mg] 24) = w1 at HI0 ⊢
  generalize L.length = n at *
  go_loopw [7] (fun iv wr => ∃ (k : Nat) (D : List Ent), k ≤ n ∧ iv = .int .i64 (k : Int) ∧ SpI w wr base I ao cap n D) (fun iv _ => n - (intOf iv).toNat)
  case atStart => exact ⟨0, _, Nat.zero_le _, rfl, unhide HI0⟩
  case round =>
    clear HI0
    obtain ⟨k, D, hk, rfl, hI⟩ := hrel
    by_cases hlt : k < n
    · have hkn : (k : Int) < (n : Int) := by omega
      have q1 := hI.blk.six.2.1
      have hkD : k < D.length := by rw [hI.len]; exact hlt
      obtain ⟨b, off, bo, bcap, e1, eb, c0, c1, c2, hr⟩ := hI.lo.lr.at k hkD
      obtain ⟨g, cur, e2, _, hgb, hcur⟩ := hI.lo.blk (by omega)
      subst e2
      cases e1
      simp only [Nat.zero_add] at c2
      obtain ⟨m, hm⟩ : ∃ m, m = D[k].2.2.2.length := ⟨_, rfl⟩
      rw [← hm] at c2 eb
      have hmc : m ≤ bcap ∧ bcap ≤ 9223372036854775807 := by
        obtain ⟨_, _, e9, _, h9, h10⟩ := hr.shape
        cases e9
        unfold maxLen at h10
        exact ⟨by omega, by omega⟩
      obtain ⟨hmc1, hmc2⟩ := hmc
      have HI2 : Hid (SpI w wr base I (some ⟨b, 0, none⟩) cap n D ∧ ∃ hk' : k < D.length, D[k].2.2.1 = .slice bo m bcap) := ⟨hI, hkD, eb⟩
      clear hI c0 c1 hr eb hm hcur hgb hkD
      go_wp2_with fail
      go_loopw [17] (fun jv wx => ∃ (j : Nat) (D : List Ent), j ≤ m ∧ jv = .int .i64 (j : Int) ∧ SpI w wx base I (some ⟨b, 0, none⟩) cap n D ∧ ∃ hk' : k < D.length, D[k].2.2.1 = .slice bo m bcap) (fun jv _ => m - (intOf jv).toNat)
      case atStart => exact ⟨0, D, Nat.zero_le _, rfl, (unhide HI2).1, (unhide HI2).2⟩
      case round =>
        clear HI2 q1 c2
        obtain ⟨j, D, hj, rfl, hI, hkD, eb⟩ := hrel
        have q1 := hI.blk.six.2.1
        obtain ⟨b3, off3, bo3, bcap3, e1, eb3, c0, c1, c2, hr⟩ := hI.lo.lr.at k hkD
        cases e1
        simp only [Nat.zero_add] at c0 c1 c2
        rw [eb] at eb3
        have hml : D[k].2.2.2.length = m := by cases eb3; rfl
        rw [← eb3] at c2 hr
        by_cases hjl : j < m
        · have hjm : (j : Int) < (m : Int) := by omega
          have hob := hI.lo.bys _ (List.getElem_mem hkD)
          rw [eb] at hob
          obtain ⟨bb, rfl⟩ : ∃ bb, bo = some ⟨bb, 0, none⟩ := by
            rcases hob.2 with ⟨e, h0⟩ | ⟨g9, c9, cur9, e, _⟩
            · omega
            · cases e
              exact ⟨g9, rfl⟩
          obtain ⟨b4, off4, e4, hc4⟩ := hr.at j (by omega)
          cases e4
          have cj := hc4 j (by omega)
          simp only [Nat.zero_add] at cj
          rw [← hml] at hob
          have fj := World.ownsRow.frozenAt hob j
          have HST := hide (fun z => hI.byte hkD eb j z)
          rw [eb] at HST
          generalize D[k].2.2.2[j] = xb at *
          clear hI eb eb3 hr hc4 c0 c1 hml hob hkD
          generalize hz : bits .xor .u8 xb 238 = z at *
          obtain ⟨D', hI', hk', he'⟩ := unhide HST z
          have HI' : Hid (SpI w (wr.setCell ⟨bb, j, none⟩ (.int .u8 z)) base I (some ⟨b, 0, none⟩) cap n D' ∧ ∃ hk' : k < D'.length, D'[k].2.2.1 = .slice (some ⟨bb, 0, none⟩) m bcap) := ⟨hI', hk', he'⟩
          clear hI' he' HST
          go_wp2
          go_roundw
          case rel => exact ⟨j + 1, D', by omega, by go_num, (unhide HI').1, (unhide HI').2⟩
          case measure => simp [intOf]; omega
        · obtain rfl : j = m := by omega
          have hnl : ¬ (j : Int) < (j : Int) := by omega
          have hown := hI.lo.own
          rw [hI.len] at hown
          have z0 := World.ownsRow.frozenAt hown (k * 3)
          clear hown
          obtain ⟨D', hI'⟩ := hI.wide hkD (-1)
          have HI' := hide hI'
          clear hI hI' eb eb3 hr hml
          generalize D[k].1 = wk at *
          generalize D[k].2.1 = hk9 at *
          clear hkD
          go_wp2
          go_roundw
          case rel => exact ⟨k + 1, D', by omega, by go_num, unhide HI'⟩
          case measure => simp [intOf]; omega
    · obtain rfl : k = n := by omega
      have hnl : ¬ (k : Int) < (k : Int) := by omega
      have HX := hide (And.intro hI.ext hI.kept)
      clear hI
      go_wp2
      refine bodyPost_end (v := .tuple #[]) ?e1 ?e2 ?e3
      case e3 => exact ⟨rfl, unhide HX⟩
      case e1 => exact results_none rfl _ _ _
      case e2 => rfl

set_option maxRecDepth 10000 in
set_option maxHeartbeats 4000000 in
/-- right, of what is right: what was there before is as it was. -/
theorem right_any {w0 w : World} {vG vW vF vZ : Value} {G Wt F Z : List Ent} {IG IW IF IZ : Img} {e : Int} (hx : Ext w0 w) (hG : LO w w0.heap.size vG G) (hW : LR w vW Wt) (hF : LR w0 vF F) (hZ : LR w0 vZ Z)
    (aG : IG.L = absL G) (aW : IW.L = absL Wt) (aF : IF.L = absL F) (aZ : IZ.L = absL Z) (bG : ∀ p ∈ G, Byt p.2.2.2) (bW : ∀ p ∈ Wt, Byt p.2.2.2) (bF : ∀ p ∈ F, Byt p.2.2.2) (bZ : ∀ p ∈ Z, Byt p.2.2.2)
    (hL : G.length ≤ 1000) (s1 : sameB IG IW = true) (s2 : sameB IF IZ = true) :
    Calls Try.prog 11 #[.agg #[.int .i64 IG.f, vG, .int .i64 IG.ws, .int .i64 IG.wt, .int .i64 IG.mn, .int .i64 IG.mg], .agg #[.int .i64 IW.f, vW, .int .i64 IW.ws, .int .i64 IW.wt, .int .i64 IW.mn, .int .i64 IW.mg], .agg #[.int .i64 IF.f, vF, .int .i64 IF.ws, .int .i64 IF.wt, .int .i64 IF.mn, .int .i64 IF.mg], .agg #[.int .i64 IZ.f, vZ, .int .i64 IZ.ws, .int .i64 IZ.wt, .int .i64 IZ.mn, .int .i64 IZ.mg], .int .i64 e, .int .i64 e] w fun r w' => r = .returned (.bool true) ∧ Ext w0 w' := by
  obtain ⟨aoG, capG, rfl, _⟩ := hG.cut
  obtain ⟨aoW, capW, rfl, _⟩ := hW.shape
  obtain ⟨aoF, capF, rfl, _⟩ := hF.shape
  obtain ⟨aoZ, capZ, rfl, _⟩ := hZ.shape
  have hx4 := ((((Ext.refl w).alloc (.cells #[.int .i64 IG.f, .slice aoG G.length capG, .int .i64 IG.ws, .int .i64 IG.wt, .int .i64 IG.mn, .int .i64 IG.mg] 24)).alloc (.cells #[.int .i64 IW.f, .slice aoW Wt.length capW, .int .i64 IW.ws, .int .i64 IW.wt, .int .i64 IW.mn, .int .i64 IW.mg] 24)).alloc (.cells #[.int .i64 IF.f, .slice aoF F.length capF, .int .i64 IF.ws, .int .i64 IF.wt, .int .i64 IF.mn, .int .i64 IF.mg] 24)).alloc (.cells #[.int .i64 IZ.f, .slice aoZ Z.length capZ, .int .i64 IZ.ws, .int .i64 IZ.wt, .int .i64 IZ.mn, .int .i64 IZ.mg] 24)
  have hBG : Blk ((((w.alloc (.cells #[.int .i64 IG.f, .slice aoG G.length capG, .int .i64 IG.ws, .int .i64 IG.wt, .int .i64 IG.mn, .int .i64 IG.mg] 24)).alloc (.cells #[.int .i64 IW.f, .slice aoW Wt.length capW, .int .i64 IW.ws, .int .i64 IW.wt, .int .i64 IW.mn, .int .i64 IW.mg] 24)).alloc (.cells #[.int .i64 IF.f, .slice aoF F.length capF, .int .i64 IF.ws, .int .i64 IF.wt, .int .i64 IF.mn, .int .i64 IF.mg] 24)).alloc (.cells #[.int .i64 IZ.f, .slice aoZ Z.length capZ, .int .i64 IZ.ws, .int .i64 IZ.wt, .int .i64 IZ.mn, .int .i64 IZ.mg] 24)) w.heap.size #[.int .i64 IG.f, .slice aoG G.length capG, .int .i64 IG.ws, .int .i64 IG.wt, .int .i64 IG.mn, .int .i64 IG.mg] 24 := (((Blk.new _ _ _).alloc _).alloc _).alloc _
  have hBF : Blk ((((w.alloc (.cells #[.int .i64 IG.f, .slice aoG G.length capG, .int .i64 IG.ws, .int .i64 IG.wt, .int .i64 IG.mn, .int .i64 IG.mg] 24)).alloc (.cells #[.int .i64 IW.f, .slice aoW Wt.length capW, .int .i64 IW.ws, .int .i64 IW.wt, .int .i64 IW.mn, .int .i64 IW.mg] 24)).alloc (.cells #[.int .i64 IF.f, .slice aoF F.length capF, .int .i64 IF.ws, .int .i64 IF.wt, .int .i64 IF.mn, .int .i64 IF.mg] 24)).alloc (.cells #[.int .i64 IZ.f, .slice aoZ Z.length capZ, .int .i64 IZ.ws, .int .i64 IZ.wt, .int .i64 IZ.mn, .int .i64 IZ.mg] 24)) (w.heap.size + 2) #[.int .i64 IF.f, .slice aoF F.length capF, .int .i64 IF.ws, .int .i64 IF.wt, .int .i64 IF.mn, .int .i64 IF.mg] 24 := Blk.alloc (Blk.at (by simp)) _
  have hBZ : Blk ((((w.alloc (.cells #[.int .i64 IG.f, .slice aoG G.length capG, .int .i64 IG.ws, .int .i64 IG.wt, .int .i64 IG.mn, .int .i64 IG.mg] 24)).alloc (.cells #[.int .i64 IW.f, .slice aoW Wt.length capW, .int .i64 IW.ws, .int .i64 IW.wt, .int .i64 IW.mn, .int .i64 IW.mg] 24)).alloc (.cells #[.int .i64 IF.f, .slice aoF F.length capF, .int .i64 IF.ws, .int .i64 IF.wt, .int .i64 IF.mn, .int .i64 IF.mg] 24)).alloc (.cells #[.int .i64 IZ.f, .slice aoZ Z.length capZ, .int .i64 IZ.ws, .int .i64 IZ.wt, .int .i64 IZ.mn, .int .i64 IZ.mg] 24)) (w.heap.size + 3) #[.int .i64 IZ.f, .slice aoZ Z.length capZ, .int .i64 IZ.ws, .int .i64 IZ.wt, .int .i64 IZ.mn, .int .i64 IZ.mg] 24 := Blk.at (by simp)
  have hsz := hx.size
  have H1 := hide (And.intro hx4 (And.intro hBG (And.intro hBF hBZ)))
  have HG := hide hG
  have HW := hide hW
  have HF := hide hF
  have HZ := hide hZ
  have HAB := hide (And.intro aG (And.intro aW (And.intro aF aZ)))
  have HBY := hide (And.intro bG (And.intro bW (And.intro bF bZ)))
  have HX := hide hx
  have HS1 := hide s1
  have HS2 := hide s2
  clear hx4 hBG hBF hBZ hG hW hF hZ aG aW aF aZ bG bW bF bZ hx s1 s2
  go_enter Try.func11, Try.ntmps11
  go_wp2_with fail
  generalize (((w.alloc (.cells #[.int .i64 IG.f, .slice aoG G.length capG, .int .i64 IG.ws, .int .i64 IG.wt, .int .i64 IG.mn, .int .i64 IG.mg] 24)).alloc (.cells #[.int .i64 IW.f, .slice aoW Wt.length capW, .int .i64 IW.ws, .int .i64 IW.wt, .int .i64 IW.mn, .int .i64 IW.mg] 24)).alloc (.cells #[.int .i64 IF.f, .slice aoF F.length capF, .int .i64 IF.ws, .int .i64 IF.wt, .int .i64 IF.mn, .int .i64 IF.mg] 24)).alloc (.cells #[.int .i64 IZ.f, .slice aoZ Z.length capZ, .int .i64 IZ.ws, .int .i64 IZ.wt, .int .i64 IZ.mn, .int .i64 IZ.mg] 24) = w1 at H1 ⊢
  refine (refSame_any (I := IG) (J := IW) ((unhide HG).lr.ext (unhide H1).1) ((unhide HW).ext (unhide H1).1) (unhide HAB).1 (unhide HAB).2.1 (unhide HBY).1 (unhide HBY).2.1).mono ?_
  rintro r w2 ⟨rfl, hx2⟩
  rw [unhide HS1]
  have H2 := hide (And.intro ((unhide H1).1.trans hx2) (And.intro ((unhide H1).2.1.ext hx2) (And.intro ((unhide H1).2.2.1.ext hx2) ((unhide H1).2.2.2.ext hx2))))
  clear H1 hx2
  obtain ⟨q0, q1, q2, q3, q4, q5⟩ := (unhide H2).2.1.six
  go_wp2_with fail
  refine (spoil_any (I := IG) ((unhide HG).ext (unhide H2).1) (Nat.le_trans hsz (unhide H2).1.size) hL).mono ?_
  rintro r w3 ⟨rfl, hb3, hk3⟩
  have HX3 : Hid (Ext w0 w3) := Below.trans ((unhide HX).trans (unhide H2).1) hb3
  have hF3 := hk3 _ _ (unhide H2).2.2.1
  have hZ3 := hk3 _ _ (unhide H2).2.2.2
  clear q0 q1 q2 q3 q4 q5 hb3 hk3
  obtain ⟨q0, q1, q2, q3, q4, q5⟩ := hF3.six
  obtain ⟨r0, r1, r2, r3, r4, r5⟩ := hZ3.six
  clear hF3 hZ3 H2
  go_wp2_with fail
  refine (refSame_any (I := IF) (J := IZ) ((unhide HF).ext (unhide HX3)) ((unhide HZ).ext (unhide HX3)) (unhide HAB).2.2.1 (unhide HAB).2.2.2 (unhide HBY).2.2.1 (unhide HBY).2.2.2).mono ?_
  rintro r w4 ⟨rfl, hx4⟩
  rw [unhide HS2]
  have HX4 := hide ((unhide HX3).trans hx4)
  clear hx4
  go_wp2
  go_ret
  exact ⟨rfl, unhide HX4⟩
end Go.Proofs.Ytpjapdifmfpcnaa
