/-
  Images: the walks of Clone of levels, duplicate and blank. What the dump lacks is left out.
-/
import Derived.Test.YtadajaoidhbmgaaIU
import Derived.Deep.RegionHeld3
import Derived.Deep.RegionLaw
namespace Go.Proofs.Ytadajaoidhbmgaa
open Go.RowKit
set_option linter.unusedVariables false
set_option linter.unusedSimpArgs false

theorem Blk.put6 {w : World} {b : Nat} {o0 o1 o2 o3 o4 o5 : Value} {t : TypeId} (h : Blk w b #[o0, o1, o2, o3, o4, o5] t) (a0 a1 a2 a3 a4 a5 : Value) :
    Blk ((((((w.setCell ⟨b, 0, none⟩ a0).setCell ⟨b, 1, none⟩ a1).setCell ⟨b, 2, none⟩ a2).setCell ⟨b, 3, none⟩ a3).setCell ⟨b, 4, none⟩ a4).setCell ⟨b, 5, none⟩ a5) b #[a0, a1, a2, a3, a4, a5] t := by
  have h1 := (((((h.set 0 a0).set 1 a1).set 2 a2).set 3 a3).set 4 a4).set 5 a5
  simpa using h1
theorem grown_put6 (w : World) (b : Nat) (a0 a1 a2 a3 a4 a5 : Value) :
    w.grownBy ((((((w.setCell ⟨b, 0, none⟩ a0).setCell ⟨b, 1, none⟩ a1).setCell ⟨b, 2, none⟩ a2).setCell ⟨b, 3, none⟩ a3).setCell ⟨b, 4, none⟩ a4).setCell ⟨b, 5, none⟩ a5) (some b) :=
  (((((grownBy_set _ _ _ _).trans (grownBy_set _ _ _ _)).trans (grownBy_set _ _ _ _)).trans (grownBy_set _ _ _ _)).trans (grownBy_set _ _ _ _)).trans (grownBy_set _ _ _ _)
theorem Blk.frees {w : World} {b : Nat} {cs : Array Value} {t : TypeId} (h : Blk w b cs t) : w.frozen? ⟨b, 0, none⟩ = false ∧ w.frozen? ⟨b, 1, none⟩ = false ∧ w.frozen? ⟨b, 2, none⟩ = false ∧ w.frozen? ⟨b, 3, none⟩ = false ∧ w.frozen? ⟨b, 4, none⟩ = false ∧ w.frozen? ⟨b, 5, none⟩ = false :=
  ⟨h.free 0, h.free 1, h.free 2, h.free 3, h.free 4, h.free 5⟩
/-- Levels and their bytes do not lie in a block of another type. -/
theorem LO.grown {w w' : World} {base r : Nat} {v : Value} {L : List Ent} {cs : Array Value} {t : TypeId} (h : LO w base v L) (hB : Blk w r cs t) (ht : t ≠ 46 ∧ t ≠ 5) (hg : w.grownBy w' (some r)) : LO w' base v L := by
  refine ⟨?_, fun p hp => (h.bys p hp).grown hg fun b hb e => ?_, h.alone⟩
  · refine World.ownsRow.kept h.own hg (.inr fun e => ?_)
    rcases h.own.2 with ⟨e1, _⟩ | ⟨g, cap, cur, e1, _, hg2, _⟩
    · rw [e1] at e; cases e
    · have hr : g = r := by rw [e1] at e; simpa [Value.ownBlock] using e
      rw [hr, show w.heap[r]? = some (.cells cs t (0, 0)) from hB] at hg2
      simp at hg2
      exact ht.1 hg2.2
  · subst e
    rcases (h.bys p hp).2 with ⟨e1, _⟩ | ⟨g, cap, cur, e1, _, hg2, _⟩
    · rw [e1] at hb; cases hb
    · have hr : g = b := by rw [e1] at hb; simpa [Value.ownBlock] using hb
      rw [hr, show w.heap[b]? = some (.cells cs t (0, 0)) from hB] at hg2
      simp at hg2
      exact ht.2 hg2.2
theorem LR.news {w : World} {b off n cap : Nat} {L : List Ent} (h : LR w (.slice (some ⟨b, off, none⟩) n cap) L) : ∀ j u, (lcells L)[j]? = some u → w.cell? ((⟨b, off, none⟩ : Addr).add j) = some u := by
  obtain ⟨ao, cap', e, _, _, _, h4⟩ := h.shape
  cases e
  intro j u hu
  have hj : j < L.length * 3 := by
    have := (List.getElem?_eq_some_iff.1 hu).1
    rwa [lcells_len] at this
  obtain ⟨b2, off2, e2, c0, c1, c2⟩ := h4 (j / 3) (by omega)
  cases e2
  obtain ⟨g0, g1, g2⟩ := lcells_get L (j / 3) (by omega)
  rw [Addr.add_lit]
  have hd := Nat.div_add_mod j 3
  rcases (by omega : j % 3 = 0 ∨ j % 3 = 1 ∨ j % 3 = 2) with hm | hm | hm
  · rw [show j = j / 3 * 3 by omega] at hu ⊢
    rw [g0] at hu
    cases hu
    exact c0
  · rw [show j = j / 3 * 3 + 1 by omega] at hu ⊢
    rw [g1] at hu
    cases hu
    rw [← Nat.add_assoc]
    exact c1
  · rw [show j = j / 3 * 3 + 2 by omega] at hu ⊢
    rw [g2] at hu
    cases hu
    rw [← Nat.add_assoc]
    exact c2
theorem lcells_ones {w : World} {v : Value} {L : List Ent} (h : LR w v L) : ∀ u ∈ lcells L, u.oneCell' = true := by
  intro u hu
  unfold lcells at hu
  obtain ⟨p, hp, hu⟩ := List.mem_flatMap.1 hu
  obtain ⟨ao, cap, e, _⟩ := (h.row p hp).shape
  exact ecells_one e u hu

section
variable {w : World} {v : Value} {L : List Ent} {I : Img}

/-- How far duplicate has come: the first levels' bytes are new. -/
structure DupI (w wr : World) (I : Img) (ao : Option Addr) (cap : Nat) (L : List Ent) (k : Nat) (D : List Ent) : Prop where
  len : D.length = k
  abs : absL D = absL (L.take k)
  own : wr.ownsRow w.heap.size 46 3 (.slice ao L.length cap) L.length (lcells (D ++ L.drop k))
  bys : ∀ p ∈ D, Own .u8 wr w.heap.size 5 p.2.2.1 p.2.2.2
  alone : D.Pairwise fun p q => ∀ b, p.2.2.1.ownBlock = some b → q.2.2.1.ownBlock ≠ some b
  blk : Blk wr w.heap.size #[.int .i64 I.f, .slice ao L.length cap, .int .i64 I.ws, .int .i64 I.wt, .int .i64 I.mn, .int .i64 I.mg] 24
  res : Blk wr (w.heap.size + 1) #[.int .i64 0, .slice none 0 0, .int .i64 0, .int .i64 0, .int .i64 0, .int .i64 0] 24
  ext : Ext w wr

theorem DupI.step {wr w3 : World} {ao : Option Addr} {cap k : Nat} {D : List Ent} (h : DupI w wr I ao cap L k D) (hk : k < L.length) {g : Nat} (hg : ao = some ⟨g, 0, none⟩) {bo : Option Addr} {bcap : Nat}
    (ho : Own .u8 w3 wr.heap.size 5 (.slice bo L[k].2.2.2.length bcap) L[k].2.2.2) (hx : Ext wr w3) :
    DupI w (w3.setCell ⟨g, k * 3 + 2, none⟩ (.slice bo L[k].2.2.2.length bcap)) I ao cap L (k + 1) (D ++ [(L[k].1, L[k].2.1, .slice bo L[k].2.2.2.length bcap, L[k].2.2.2)]) := by
  subst hg
  have hs := h.ext.size
  have ho3 : w3.ownsRow w.heap.size 46 3 (.slice (some ⟨g, 0, none⟩) L.length cap) L.length (lcells (D ++ L.drop k)) := World.ownsRow.kept h.own (ext_grown hx none) (.inr (by simp [Value.ownBlock]))
  have hdrop : L.drop k = L[k] :: L.drop (k + 1) := List.drop_eq_getElem_cons hk
  obtain ⟨hst, hgr⟩ := World.ownsRow.stored ho3 (k * 3 + 2) (.slice bo L[k].2.2.2.length bcap)
  obtain ⟨cur, hcur⟩ : ∃ cur, w3.heap[g]? = some (.cells cur 46 (0, 0)) := by
    rcases ho3.2 with ⟨e, _⟩ | ⟨g2, c, cur, e, _, hg2, _⟩
    · cases e
    · cases e
      exact ⟨cur, hg2⟩
  have hgl : g < wr.heap.size := (World.ownsRow.lt h.own g rfl).2
  have hgw : w.heap.size ≤ g := (World.ownsRow.lt h.own g rfl).1
  refine ⟨by simp [h.len], ?_, ?_, ?_, ?_, ?_, ?_, ?_⟩
  · rw [absL_append, h.abs, List.take_succ_eq_append_getElem hk, absL_append]
    rfl
  · rw [hdrop] at hst
    have e := lcells_set D (L.drop (k + 1)) L[k] (.slice bo L[k].2.2.2.length bcap) L[k].2.2.2
    rw [h.len] at e
    rw [e] at hst
    rw [List.append_assoc]
    exact hst
  · intro p hp
    rcases List.mem_append.1 hp with hp | hp
    · have hp3 := (h.bys p hp).kept hx
      exact hp3.grown hgr (own_ne hcur hp3)
    · simp at hp
      subst hp
      exact (ho.lower hs).grown hgr (own_ne hcur ho)
  · refine List.pairwise_append.2 ⟨h.alone, by simp, fun p hp q hq b hb => ?_⟩
    simp at hq
    subst hq
    intro e
    have h1 := ((h.bys p hp).lt b hb).2
    have h2 := (ho.lt b e).1
    omega
  · have hb3 := h.blk.ext hx
    refine hb3.other (r := g) _ _ fun e => ?_
    rw [← e] at hcur
    rw [show w3.heap[w.heap.size]? = _ from hb3] at hcur
    simp at hcur
  · have hb3 := h.res.ext hx
    refine hb3.other (r := g) _ _ fun e => ?_
    rw [← e] at hcur
    rw [show w3.heap[w.heap.size + 1]? = _ from hb3] at hcur
    simp at hcur
  · exact below_grown (h.ext.trans hx) hgr (h.ext.trans hx).size hgw

end

end Go.Proofs.Ytadajaoidhbmgaa
