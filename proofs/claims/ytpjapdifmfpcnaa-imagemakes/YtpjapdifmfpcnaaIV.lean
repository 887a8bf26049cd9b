/-
  Images: the walks of Clone of levels, duplicate and blank. What the dump lacks is left out.
-/
import Derived.Test.YtpjapdifmfpcnaaIU
import Derived.Deep.RegionHeld3
import Derived.Deep.RegionLaw
namespace Go.Proofs.Ytpjapdifmfpcnaa
open Go.RowKit
set_option linter.unusedVariables false
set_option linter.unusedSimpArgs false

theorem Blk.put6 {w : World} {b : Nat} {o0 o1 o2 o3 o4 o5 : Value} {t : TypeId} (h : Blk w b #[o0, o1, o2, o3, o4, o5] t) (a0 a1 a2 a3 a4 a5 : Value) :
    Blk ((((((w.setCell ⟨b, 0, none⟩ a0).setCell ⟨b, 1, none⟩ a1).setCell ⟨b, 2, none⟩ a2).setCell ⟨b, 3, none⟩ a3).setCell ⟨b, 4, none⟩ a4).setCell ⟨b, 5, none⟩ a5) b #[a0, a1, a2, a3, a4, a5] t := by
  have h1 := (((((h.set 0 a0).set 1 a1).set 2 a2).set 3 a3).set 4 a4).set 5 a5
  simpa using h1
theorem grown_put6 (w : World) (b : Nat) (a0 a1 a2 a3 a4 a5 : Value) :
    w.grownBy ((((((w.setCell ⟨b, 0, none⟩ a0).setCell ⟨b, 1, none⟩ a1).setCell ⟨b, 2, none⟩ a2).setCell ⟨b, 3, none⟩ a3).setCell ⟨b, 4, none⟩ a4).setCell ⟨b, 5, none⟩ a5) (some b) :=
  (((((grownBy_set _ _ _ _).trans (grownBy_set _ _ _ _)).trans (grownBy_set _ _ _ _)).trans (grownBy_set _ _ _ _)).trans (grownBy_set _ _ _ _)).trans (grownBy_set _ _ _ _)
theorem Blk.frees {w : World} {b : Nat} {cs : Array Value} {t : TypeId} (h : Blk w b cs t) : w.frozen? ⟨b, 0, none⟩ = false ∧ w.frozen? ⟨b, 1, none⟩ = false ∧ w.frozen? ⟨b, 2, none⟩ = false ∧ w.frozen? ⟨b, 3, none⟩ = false ∧ w.frozen? ⟨b, 4, none⟩ = false ∧ w.frozen? ⟨b, 5, none⟩ = false :=
  ⟨h.free 0, h.free 1, h.free 2, h.free 3, h.free 4, h.free 5⟩
/-- Levels and their bytes do not lie in a block of another type. -/
theorem LO.grown {w w' : World} {base r : Nat} {v : Value} {L : List Ent} {cs : Array Value} {t : TypeId} (h : LO w base v L) (hB : Blk w r cs t) (ht : t ≠ 48 ∧ t ≠ 5) (hg : w.grownBy w' (some r)) : LO w' base v L := by
  refine ⟨?_, fun p hp => (h.bys p hp).grown hg fun b hb e => ?_, h.alone⟩
  · refine World.ownsRow.kept h.own hg (.inr fun e => ?_)
    rcases h.own.2 with ⟨e1, _⟩ | ⟨g, cap, cur, e1, _, hg2, _⟩
    · rw [e1] at e; cases e
    · have hr : g = r := by rw [e1] at e; simpa [Value.ownBlock] using e
      rw [hr, show w.heap[r]? = some (.cells cs t (0, 0)) from hB] at hg2
      simp at hg2
      exact ht.1 hg2.2
  · subst e
    rcases (h.bys p hp).2 with ⟨e1, _⟩ | ⟨g, cap, cur, e1, _, hg2, _⟩
    · rw [e1] at hb; cases hb
    · have hr : g = b := by rw [e1] at hb; simpa [Value.ownBlock] using hb
      rw [hr, show w.heap[b]? = some (.cells cs t (0, 0)) from hB] at hg2
      simp at hg2
      exact ht.2 hg2.2
theorem LR.news {w : World} {b off n cap : Nat} {L : List Ent} (h : LR w (.slice (some ⟨b, off, none⟩) n cap) L) : ∀ j u, (lcells L)[j]? = some u → w.cell? ((⟨b, off, none⟩ : Addr).add j) = some u := by
  obtain ⟨ao, cap', e, _, _, _, h4⟩ := h.shape
  cases e
  intro j u hu
  have hj : j < L.length * 3 := by
    have := (List.getElem?_eq_some_iff.1 hu).1
    rwa [lcells_len] at this
  obtain ⟨b2, off2, e2, c0, c1, c2⟩ := h4 (j / 3) (by omega)
  cases e2
  obtain ⟨g0, g1, g2⟩ := lcells_get L (j / 3) (by omega)
  rw [Addr.add_lit]
  have hd := Nat.div_add_mod j 3
  rcases (by omega : j % 3 = 0 ∨ j % 3 = 1 ∨ j % 3 = 2) with hm | hm | hm
  · rw [show j = j / 3 * 3 by omega] at hu ⊢
    rw [g0] at hu
    cases hu
    exact c0
  · rw [show j = j / 3 * 3 + 1 by omega] at hu ⊢
    rw [g1] at hu
    cases hu
    rw [← Nat.add_assoc]
    exact c1
  · rw [show j = j / 3 * 3 + 2 by omega] at hu ⊢
    rw [g2] at hu
    cases hu
    rw [← Nat.add_assoc]
    exact c2
theorem lcells_ones {w : World} {v : Value} {L : List Ent} (h : LR w v L) : ∀ u ∈ lcells L, u.oneCell' = true := by
  intro u hu
  unfold lcells at hu
  obtain ⟨p, hp, hu⟩ := List.mem_flatMap.1 hu
  obtain ⟨ao, cap, e, _⟩ := (h.row p hp).shape
  exact ecells_one e u hu

section
variable {w : World} {v : Value} {L : List Ent} {I : Img}

set_option maxHeartbeats 1000000 in
theorem cloneL_any (h : LR w v L) (hL : L.length ≤ 1000000) :
    Calls Try.prog 49 #[v] w fun e w' => ∃ ao cap, e = .returned (.slice ao L.length cap) ∧ w'.ownsRow w.heap.size 48 3 (.slice ao L.length cap) L.length (lcells L) ∧ Ext w w' := by
  obtain ⟨i0, hi, hz0, hz1, hz2⟩ := info_parts infoL
  obtain ⟨ao, cap, rfl, h0, hl, hcm, h4⟩ := h.shape
  have hnil := fun wx => Lib.run_eql_slice_nil (P := Try.prog) wx 22 48 ao L.length cap 0 0 Try.underlying22
  cases ao with
  | none =>
    have hL0 : L = [] := by
      rcases L with _ | ⟨x, r⟩
      · rfl
      · obtain ⟨b, off, e, _⟩ := h4 0 (by simp)
        cases e
    subst hL0
    obtain rfl := h0 rfl
    clear h0 h4 h
    simp only [List.length_nil] at hnil ⊢
    go_enter Try.func49, Try.ntmps49
    go_wp2
    go_ret
    exact ⟨none, 0, rfl, World.ownsRow_nil _ _ _ _, Ext.refl _⟩
  | some ad =>
    have hnews : ∀ j u, (lcells L)[j]? = some u → w.cell? (ad.add j) = some u := by
      rcases L with _ | ⟨x, r⟩
      · intro j u hu
        simp [lcells] at hu
      · obtain ⟨b, off, e, _⟩ := h4 0 (by simp)
        cases e
        exact h.news
    have HN := hide hnews
    have HO := hide (lcells_ones h)
    have HW : Hid (∀ j u, (lcells L)[j]? = some u → (w.alloc (.cells #[] 48)).cell? (ad.add j) = some u) := fun j u hu => by
      have := unhide HN j u hu
      rw [((Ext.refl w).alloc (.cells #[] 48)).cell (p := ad.add j) (World.block_lt_of_cell? w _ this)]
      exact this
    clear h0 h4 h hnews
    go_enter Try.func49, Try.ntmps49
    go_wp2_with (at_builtin; refine wpList_append_own _ rfl (.tmp 5) (.tmp 6) 22 rfl w.heap.size 48 i0 _ 3 40 Try.underlying22 hi hz0 hz1 hz2 rfl (by decide) _ 0 [] rfl (World.ownsRow_made w #[] 0 (Nat.le_refl _) (Nat.zero_le _) rfl) ad L.length cap (lcells L) rfl (lcells_len L) (unhide HW) (unhide HO) ?c1 ?c2 ?c3 ?_)
    case c1 => unfold maxLen; omega
    case c2 => omega
    case c3 => simp
    intro v' w' hown hgrow _
    have hsh : ∃ ao' cap', v' = .slice ao' L.length cap' := by
      rcases hown.2 with ⟨e, h0⟩ | ⟨g, c, cur, e, _⟩
      · exact ⟨none, 0, by rw [h0]; exact e⟩
      · exact ⟨_, _, e⟩
    obtain ⟨ao', cap', rfl⟩ := hsh
    have H3 := hide hown
    clear hown
    go_wp2
    go_ret
    refine ⟨_, _, rfl, unhide H3, ?_⟩
    exact ((Below.refl _ _).alloc (Nat.le_refl _) _).grown hgrow (by simp) (by simp [Value.ownBlock])

/-- How far duplicate has come: the first levels' bytes are new. -/
structure DupI (w wr : World) (I : Img) (ao : Option Addr) (cap : Nat) (L : List Ent) (k : Nat) (D : List Ent) : Prop where
  len : D.length = k
  abs : absL D = absL (L.take k)
  own : wr.ownsRow w.heap.size 48 3 (.slice ao L.length cap) L.length (lcells (D ++ L.drop k))
  bys : ∀ p ∈ D, Own .u8 wr w.heap.size 5 p.2.2.1 p.2.2.2
  alone : D.Pairwise fun p q => ∀ b, p.2.2.1.ownBlock = some b → q.2.2.1.ownBlock ≠ some b
  blk : Blk wr w.heap.size #[.int .i64 I.f, .slice ao L.length cap, .int .i64 I.ws, .int .i64 I.wt, .int .i64 I.mn, .int .i64 I.mg] 24
  res : Blk wr (w.heap.size + 1) #[.int .i64 0, .slice none 0 0, .int .i64 0, .int .i64 0, .int .i64 0, .int .i64 0] 24
  ext : Ext w wr

theorem DupI.step {wr w3 : World} {ao : Option Addr} {cap k : Nat} {D : List Ent} (h : DupI w wr I ao cap L k D) (hk : k < L.length) {g : Nat} (hg : ao = some ⟨g, 0, none⟩) {bo : Option Addr} {bcap : Nat}
    (ho : Own .u8 w3 wr.heap.size 5 (.slice bo L[k].2.2.2.length bcap) L[k].2.2.2) (hx : Ext wr w3) :
    DupI w (w3.setCell ⟨g, k * 3 + 2, none⟩ (.slice bo L[k].2.2.2.length bcap)) I ao cap L (k + 1) (D ++ [(L[k].1, L[k].2.1, .slice bo L[k].2.2.2.length bcap, L[k].2.2.2)]) := by
  subst hg
  have hs := h.ext.size
  have ho3 : w3.ownsRow w.heap.size 48 3 (.slice (some ⟨g, 0, none⟩) L.length cap) L.length (lcells (D ++ L.drop k)) := World.ownsRow.kept h.own (ext_grown hx none) (.inr (by simp [Value.ownBlock]))
  have hdrop : L.drop k = L[k] :: L.drop (k + 1) := List.drop_eq_getElem_cons hk
  obtain ⟨hst, hgr⟩ := World.ownsRow.stored ho3 (k * 3 + 2) (.slice bo L[k].2.2.2.length bcap)
  obtain ⟨cur, hcur⟩ : ∃ cur, w3.heap[g]? = some (.cells cur 48 (0, 0)) := by
    rcases ho3.2 with ⟨e, _⟩ | ⟨g2, c, cur, e, _, hg2, _⟩
    · cases e
    · cases e
      exact ⟨cur, hg2⟩
  have hgl : g < wr.heap.size := (World.ownsRow.lt h.own g rfl).2
  have hgw : w.heap.size ≤ g := (World.ownsRow.lt h.own g rfl).1
  refine ⟨by simp [h.len], ?_, ?_, ?_, ?_, ?_, ?_, ?_⟩
  · rw [absL_append, h.abs, List.take_succ_eq_append_getElem hk, absL_append]
    rfl
  · rw [hdrop] at hst
    have e := lcells_set D (L.drop (k + 1)) L[k] (.slice bo L[k].2.2.2.length bcap) L[k].2.2.2
    rw [h.len] at e
    rw [e] at hst
    rw [List.append_assoc]
    exact hst
  · intro p hp
    rcases List.mem_append.1 hp with hp | hp
    · have hp3 := (h.bys p hp).kept hx
      exact hp3.grown hgr (own_ne hcur hp3)
    · simp at hp
      subst hp
      exact (ho.lower hs).grown hgr (own_ne hcur ho)
  · refine List.pairwise_append.2 ⟨h.alone, by simp, fun p hp q hq b hb => ?_⟩
    simp at hq
    subst hq
    intro e
    have h1 := ((h.bys p hp).lt b hb).2
    have h2 := (ho.lt b e).1
    omega
  · have hb3 := h.blk.ext hx
    refine hb3.other (r := g) _ _ fun e => ?_
    rw [← e] at hcur
    rw [show w3.heap[w.heap.size]? = _ from hb3] at hcur
    simp at hcur
  · have hb3 := h.res.ext hx
    refine hb3.other (r := g) _ _ fun e => ?_
    rw [← e] at hcur
    rw [show w3.heap[w.heap.size + 1]? = _ from hb3] at hcur
    simp at hcur
  · exact below_grown (h.ext.trans hx) hgr (h.ext.trans hx).size hgw

set_option maxRecDepth 10000 in
set_option maxHeartbeats 4000000 in
theorem duplicate_any (h : LR w v L) (hL : L.length ≤ 1000000) (hb : ∀ p ∈ L, p.2.2.2.length ≤ 140737488355328) :
    Calls Try.prog 26 #[.agg #[.int .i64 I.f, v, .int .i64 I.ws, .int .i64 I.wt, .int .i64 I.mn, .int .i64 I.mg]] w fun e w' => ∃ ao cap L', e = .returned (.agg #[.int .i64 I.f, .slice ao L'.length cap, .int .i64 I.ws, .int .i64 I.wt, .int .i64 I.mn, .int .i64 I.mg]) ∧ LO w' w.heap.size (.slice ao L'.length cap) L' ∧ absL L' = absL L ∧ Ext w w' := by
  obtain ⟨ao, cap, rfl, hao, hlc, hcm, _⟩ := h.shape
  have hcm2 : cap ≤ 9223372036854775807 := by unfold maxLen at hcm; omega
  have HH := hide h
  have HB := hide hb
  clear h hao hcm hb
  go_enter Try.func26, Try.ntmps26
  go_wp2_with fail
  have hX1 := ((Ext.refl w).alloc (.cells #[.int .i64 I.f, .slice ao L.length cap, .int .i64 I.ws, .int .i64 I.wt, .int .i64 I.mn, .int .i64 I.mg] 24)).alloc (.cells #[.int .i64 0, .slice none 0 0, .int .i64 0, .int .i64 0, .int .i64 0, .int .i64 0] 24)
  have hB1 := (Blk.new w #[.int .i64 I.f, .slice ao L.length cap, .int .i64 I.ws, .int .i64 I.wt, .int .i64 I.mn, .int .i64 I.mg] 24).alloc (.cells #[.int .i64 0, .slice none 0 0, .int .i64 0, .int .i64 0, .int .i64 0, .int .i64 0] 24)
  have hR1 : Blk ((w.alloc (.cells #[.int .i64 I.f, .slice ao L.length cap, .int .i64 I.ws, .int .i64 I.wt, .int .i64 I.mn, .int .i64 I.mg] 24)).alloc (.cells #[.int .i64 0, .slice none 0 0, .int .i64 0, .int .i64 0, .int .i64 0, .int .i64 0] 24)) (w.heap.size + 1) #[.int .i64 0, .slice none 0 0, .int .i64 0, .int .i64 0, .int .i64 0, .int .i64 0] 24 := Blk.at (by simp)
  refine (cloneL_any ((unhide HH).ext hX1) hL).mono ?_
  rintro e w2 ⟨ao2, cap2, rfl, hown2, hx2⟩
  have hB2 := hB1.ext hx2
  have hR2 := hR1.ext hx2
  obtain ⟨q0, q1, q2, q3, q4, q5⟩ := hB2.six
  have f1 := hB2.free 1
  have hlow : w.heap.size ≤ ((w.alloc (.cells #[.int .i64 I.f, .slice ao L.length cap, .int .i64 I.ws, .int .i64 I.wt, .int .i64 I.mn, .int .i64 I.mg] 24)).alloc (.cells #[.int .i64 0, .slice none 0 0, .int .i64 0, .int .i64 0, .int .i64 0, .int .i64 0] 24)).heap.size := hX1.size
  have hg3 := grownBy_set w2 w.heap.size 1 (.slice ao2 L.length cap2)
  have hD0 : DupI w (w2.setCell ⟨w.heap.size, 1, none⟩ (.slice ao2 L.length cap2)) I ao2 cap2 L 0 [] := by
    refine ⟨rfl, rfl, ?_, by simp, by simp, ?_, ?_, ?_⟩
    · refine World.ownsRow.kept (row_lower hown2 hlow) hg3 (.inr fun e => ?_)
      have h1 := (World.ownsRow.lt hown2 w.heap.size e).1
      simp at h1
      omega
    · have := hB2.set 1 (.slice ao2 L.length cap2)
      simpa using this
    · exact hR2.other (r := w.heap.size) _ _ (by omega)
    · exact below_grown (hX1.trans hx2) hg3 (hX1.trans hx2).size (Nat.le_refl _)
  have HD0 := hide hD0
  have hlc2 : L.length ≤ cap2 ∧ cap2 ≤ 9223372036854775807 := by
    rcases hown2.2 with ⟨e, h0⟩ | ⟨g, c, cur, e, _, _, h1, h2, _⟩
    · injection e with e1 e2 e3
      exact ⟨by omega, by omega⟩
    · injection e with e1 e2 e3
      subst e3
      unfold maxLen at h2
      exact ⟨h1, by omega⟩
  obtain ⟨hlc3, hlc4⟩ := hlc2
  clear hD0 hown2 hB1 hR1 hX1 hlow hB2 hR2 hx2
  go_wp2_with fail
  generalize w2.setCell ⟨w.heap.size, 1, none⟩ (.slice ao2 L.length cap2) = w3 at HD0 hg3 ⊢
  clear q0 q1 q2 q3 q4 q5 f1 hg3
  have q1 := (unhide HD0).blk.six.2.1
  go_wp2_with fail
  go_loopw [11] (fun i wr => ∃ (k : Nat) (D : List Ent), k ≤ L.length ∧ i = .int .i64 (k : Int) ∧ DupI w wr I ao2 cap2 L k D) (fun i _ => L.length - (intOf i).toNat)
  case atStart => exact ⟨0, [], Nat.zero_le _, rfl, unhide HD0⟩
  case round =>
    clear HD0 q1
    obtain ⟨k, D, hk, rfl, hD⟩ := hrel
    obtain ⟨q0, q1, q2, q3, q4, q5⟩ := hD.blk.six
    by_cases hlt : k < L.length
    · have hkn : (k : Int) < (L.length : Int) := by omega
      obtain ⟨g, hg⟩ : ∃ g, ao2 = some ⟨g, 0, none⟩ := by
        rcases hD.own.2 with ⟨e, h0⟩ | ⟨g, c, cur, e, _⟩
        · omega
        · cases e
          exact ⟨g, rfl⟩
      subst hg
      obtain ⟨bo, bcap, eb, hbao, _⟩ := ((unhide HH).row _ (List.getElem_mem hlt)).shape
      have hrow : Row .u8 wr (.slice bo L[k].2.2.2.length bcap) L[k].2.2.2 := by rw [← eb]; exact ((unhide HH).row _ (List.getElem_mem hlt)).ext hD.ext
      have c2 : wr.cell? ⟨g, k * 3 + 2, none⟩ = some (.slice bo L[k].2.2.2.length bcap) := by
        have hc := World.ownsRow.cellAt hD.own (k * 3 + 2) (by omega)
        rw [hc]
        have hdl : k < (D ++ L.drop k).length := by rw [List.length_append, List.length_drop, hD.len]; omega
        have hg := (lcells_get (D ++ L.drop k) k hdl).2.2
        rw [hg, ← eb]
        congr 3
        rw [List.getElem_append_right (by have := hD.len; omega)]
        simp [hD.len]
      have hf2 := World.ownsRow.frozenAt hD.own (k * 3 + 2)
      have HST : Hid (∀ (w4 : World) (bo' : Option Addr) (bcap' : Nat), Own .u8 w4 wr.heap.size 5 (.slice bo' L[k].2.2.2.length bcap') L[k].2.2.2 → Ext wr w4 → DupI w (w4.setCell ⟨g, k * 3 + 2, none⟩ (.slice bo' L[k].2.2.2.length bcap')) I (some ⟨g, 0, none⟩) cap2 L (k + 1) (D ++ [(L[k].1, L[k].2.1, .slice bo' L[k].2.2.2.length bcap', L[k].2.2.2)])) := fun w4 bo' bcap' h1 h2 => hD.step hlt rfl h1 h2
      have HW : Hid (∀ wx, Ext wr wx → wx.cell? ⟨w.heap.size, 1, none⟩ = some (.slice (some ⟨g, 0, none⟩) L.length cap2) ∧ wx.cell? ⟨g, k * 3 + 2, none⟩ = some (.slice bo L[k].2.2.2.length bcap)) := fun wx hx => by
        refine ⟨?_, ?_⟩
        · rw [hx.cell (p := ⟨w.heap.size, 1, none⟩) (World.block_lt_of_cell? wr _ q1)]; exact q1
        · rw [hx.cell (p := ⟨g, k * 3 + 2, none⟩) (World.block_lt_of_cell? wr _ c2)]; exact c2
      have HF : Hid (∀ wx, Ext wr wx → wx.frozen? ⟨g, k * 3 + 2, none⟩ = false) := fun wx hx => by
        rw [hx.frozen (p := ⟨g, k * 3 + 2, none⟩) (World.block_lt_of_cell? wr _ c2)]; exact hf2
      have HC : Hid (Calls Try.prog 50 #[.slice bo L[k].2.2.2.length bcap] wr.drew fun e w' => ∃ ao' cap', e = .returned (.slice ao' L[k].2.2.2.length cap') ∧ Own .u8 w' wr.heap.size 5 (.slice ao' L[k].2.2.2.length cap') L[k].2.2.2 ∧ Ext wr w' ∧ w'.frozen? ⟨g, k * 3 + 2, none⟩ = false ∧ w'.cell? ⟨w.heap.size, 1, none⟩ = some (.slice (some ⟨g, 0, none⟩) L.length cap2) ∧ w'.cell? ⟨g, k * 3 + 2, none⟩ = some (.slice bo L[k].2.2.2.length bcap)) := by
        refine (clone_any _ _ _ (hrow.ext (Ext.refl wr).drew) (unhide HB _ (List.getElem_mem hlt))).mono ?_
        rintro e w4 ⟨ao', cap', rfl, ho, hx⟩
        have hx4 : Ext wr w4 := (Ext.refl wr).drew.trans hx
        exact ⟨ao', cap', rfl, ho, hx4, unhide HF _ hx4, unhide HW _ hx4⟩
      generalize L[k].2.2.2.length = bn at *
      clear hrow hD q0 q2 q3 q4 q5 eb hbao
      go_wp2_with fail
      go_region_law ((first | (go_simp; go_at_call 50; refine (unhide HC).mono ?_; rintro e w4 ⟨ao4, cap4, rfl, ho4, hx4, hf4, u1, u2⟩)))
      all_goals
        have HN := hide (unhide HST w4 ao4 cap4 ho4 hx4)
        clear ho4 hx4 hf4 HST HW HF HC u1 u2 q1 c2 hf2
        go_wp2
        go_roundw
        case rel => exact ⟨k + 1, _, by omega, by go_num, unhide HN⟩
        case measure => simp [intOf]; omega
    · obtain rfl : k = L.length := by omega
      have hdr : D ++ L.drop L.length = D := by simp
      have habs := hD.abs
      rw [List.take_length] at habs
      have hown := hD.own
      rw [hdr] at hown
      have hlen := hD.len
      have hLO : LO wr w.heap.size (.slice ao2 L.length cap2) D := ⟨by rw [hlen]; exact hown, hD.bys, hD.alone⟩
      obtain ⟨p0, p1, p2, p3, p4, p5⟩ := hD.res.six
      obtain ⟨f0, f1, f2, f3, f4, f5⟩ := hD.res.frees
      have hB7 := hD.res.put6 (.int .i64 I.f) (.slice ao2 L.length cap2) (.int .i64 I.ws) (.int .i64 I.wt) (.int .i64 I.mn) (.int .i64 I.mg)
      have hg7 := grown_put6 wr (w.heap.size + 1) (.int .i64 I.f) (.slice ao2 L.length cap2) (.int .i64 I.ws) (.int .i64 I.wt) (.int .i64 I.mn) (.int .i64 I.mg)
      have hL7 := hLO.grown hD.res ⟨by decide, by decide⟩ hg7
      have hX7 := below_grown hD.ext hg7 hD.ext.size (by omega)
      have H7 := hide (And.intro hB7 (And.intro hL7 hX7))
      have HLen := hide hlen
      have HAbs := hide habs
      clear hB7 hg7 hL7 hX7 hLO hown hdr hD hlt hk hlen habs
      go_wp2
      obtain ⟨hB7, hL7, hX7⟩ := unhide H7
      obtain ⟨r0, r1, r2, r3, r4, r5⟩ := hB7.six
      refine bodyPost_ret (v := .agg #[.int .i64 I.f, .slice ao2 L.length cap2, .int .i64 I.ws, .int .i64 I.wt, .int .i64 I.mn, .int .i64 I.mg]) (by simp [results, Try.results26, go_sem, r0, r1, r2, r3, r4, r5]) rfl ?_
      refine ⟨ao2, cap2, D, by rw [unhide HLen], ?_, unhide HAbs, hX7⟩
      rw [unhide HLen]
      exact hL7

end

set_option maxRecDepth 10000 in
set_option maxHeartbeats 1000000 in
theorem blank_any (W H s : Nat) (hW : W ≤ 64) (hH : H ≤ 64) (hs : s ≤ 4) (w : World) :
    Calls Try.prog 46 #[.int .i64 (W : Int), .int .i64 (H : Int), .int .i64 (s : Int)] w fun e w' => ∃ g, e = .returned (.agg #[.int .i64 (W : Int), .int .i64 (H : Int), .slice (some ⟨g, 0, none⟩) (W * H * s) (W * H * s)]) ∧ Own .u8 w' w.heap.size 5 (.slice (some ⟨g, 0, none⟩) (W * H * s) (W * H * s)) (List.replicate (W * H * s) 0) ∧ Ext w w' := by
  obtain ⟨i0, hi, hz0, hz1, hz2⟩ := info_parts info5
  have m1 : W * H ≤ 64 * 64 := Nat.mul_le_mul hW hH
  have m2 : W * H * s ≤ 4096 * 4 := Nat.mul_le_mul m1 hs
  have e1 : (W : Int) * (H : Int) = ((W * H : Nat) : Int) := by simp
  have e2 : (W : Int) * (H : Int) * (s : Int) = ((W * H * s : Nat) : Int) := by simp
  have b1 : (W : Int) * (H : Int) ≤ 4096 := by omega
  have b0 : 0 ≤ (W : Int) * (H : Int) := by omega
  have b2 : (W : Int) * (H : Int) * (s : Int) ≤ 16384 := by omega
  have b3 : 0 ≤ (W : Int) * (H : Int) * (s : Int) := by omega
  have E2 := hide e2
  clear e1 e2
  go_enter Try.func46, Try.ntmps46
  go_wp2_with (first | (at_make; refine wpList_make_Zeros _ rfl _ _ 27 rfl w.heap.size 5 i0 .u8 Try.underlying27 hi hz0 hz1 _ _ _ _ (W * H * s) rfl rfl (unhide E2) (unhide E2) ?b1 ?b2 ?b3 ?_))
  case b1 => rw [hz2]; omega
  case b2 => unfold maxLen; omega
  case b3 => simp
  intro w1 hown hg
  have hx1 : Ext w w1 := grown_below hg (by simp) (fun k h => by cases h) |> fun h => Below.trans ((Ext.refl w).alloc _) h
  have hR1 : Blk (w.alloc (.cells #[.int .i64 0, .int .i64 0, .slice none 0 0] 48)) w.heap.size #[.int .i64 0, .int .i64 0, .slice none 0 0] 48 := Blk.new _ _ _
  have hR2 : Blk w1 w.heap.size #[.int .i64 0, .int .i64 0, .slice none 0 0] 48 := (hg.block _ hR1.lt (by simp)).trans hR1
  obtain ⟨p0, p1, p2⟩ := hR2.three
  have f0 := hR2.free 0
  have f1 := hR2.free 1
  have f2 := hR2.free 2
  have hw1 : w.heap.size + 1 < w1.heap.size := by
    have := (hown.lt _ rfl).2
    simpa [Value.ownBlock] using this
  have hg7 : w1.grownBy (((w1.setCell ⟨w.heap.size, 0, none⟩ (.int .i64 (W : Int))).setCell ⟨w.heap.size, 1, none⟩ (.int .i64 (H : Int))).setCell ⟨w.heap.size, 2, none⟩ (.slice (some ⟨w.heap.size + 1, 0, none⟩) (W * H * s) (W * H * s))) (some w.heap.size) := ((grownBy_set _ _ _ _).trans (grownBy_set _ _ _ _)).trans (grownBy_set _ _ _ _)
  have hB7 : Blk (((w1.setCell ⟨w.heap.size, 0, none⟩ (.int .i64 (W : Int))).setCell ⟨w.heap.size, 1, none⟩ (.int .i64 (H : Int))).setCell ⟨w.heap.size, 2, none⟩ (.slice (some ⟨w.heap.size + 1, 0, none⟩) (W * H * s) (W * H * s))) w.heap.size #[.int .i64 (W : Int), .int .i64 (H : Int), .slice (some ⟨w.heap.size + 1, 0, none⟩) (W * H * s) (W * H * s)] 48 := by
    have := ((hR2.set 0 (.int .i64 (W : Int))).set 1 (.int .i64 (H : Int))).set 2 (.slice (some ⟨w.heap.size + 1, 0, none⟩) (W * H * s) (W * H * s))
    simpa using this
  have ho7 := hown.grown hg7 (fun b hb e => by simp [Value.ownBlock] at hb; omega)
  have hx7 : Ext w _ := below_grown hx1 hg7 hx1.size (Nat.le_refl _)
  have H7 := hide (And.intro hB7 (And.intro ho7 hx7))
  clear hB7 ho7 hx7 hg7 hown hg hx1 hR1 hR2
  go_wp2
  obtain ⟨hB7, ho7, hx7⟩ := unhide H7
  obtain ⟨r0, r1, r2⟩ := hB7.three
  refine bodyPost_ret (v := .agg #[.int .i64 (W : Int), .int .i64 (H : Int), .slice (some ⟨w.heap.size + 1, 0, none⟩) (W * H * s) (W * H * s)]) (by simp [results, Try.results46, go_sem, r0, r1, r2]) rfl ?_
  exact ⟨_, rfl, ho7, hx7⟩
end Go.Proofs.Ytpjapdifmfpcnaa
