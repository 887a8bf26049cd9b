/-
  Images: the document's Copy. What the dump lacks is left out.
-/
import Derived.Test.YtpjapdifmfpcnaaIX
import Derived.Test.YtpjapdifmfpcnaaQa
namespace Go.Proofs.Ytpjapdifmfpcnaa
open Go.RowKit
set_option linter.unusedVariables false
set_option linter.unusedSimpArgs false

/-- How far Copy has come. -/
structure CpI (w wr : World) (I : Img) (v : Value) (L : List Ent) (ao : Option Addr) (cap k : Nat) (D : List Ent) : Prop where
  len : D.length = k
  abs : absL D = absL (L.take k)
  lo : LO wr (w.heap.size + 2) (.slice ao D.length cap) D
  blk : Blk wr w.heap.size #[.int .i64 I.f, v, .int .i64 I.ws, .int .i64 I.wt, .int .i64 I.mn, .int .i64 I.mg] 24
  res : Blk wr (w.heap.size + 1) #[.int .i64 0, .slice none 0 0, .int .i64 0, .int .i64 0, .int .i64 0, .int .i64 0] 24
  ext : Ext w wr

section
variable {w : World} {v : Value} {L : List Ent} {I : Img}
set_option maxRecDepth 10000 in
set_option maxHeartbeats 4000000 in
theorem refCopy_any (h : LR w v L) (hL : L.length ≤ 3518437208780) (hb : ∀ p ∈ L, p.2.2.2.length ≤ 140737488355328) :
    Calls Try.prog 8 #[.agg #[.int .i64 I.f, v, .int .i64 I.ws, .int .i64 I.wt, .int .i64 I.mn, .int .i64 I.mg]] w fun e w' => ∃ ao cap D, e = .returned (.agg #[.int .i64 I.f, .slice ao D.length cap, .int .i64 I.ws, .int .i64 I.wt, .int .i64 I.mn, .int .i64 I.mg]) ∧ LO w' w.heap.size (.slice ao D.length cap) D ∧ absL D = absL L ∧ Ext w w' := by
  obtain ⟨ao, cap, rfl, hao, hlc, hcm, _⟩ := h.shape
  have hcm2 : cap ≤ 9223372036854775807 := by unfold maxLen at hcm; omega
  obtain ⟨i0, hi, hz0, hz1, hz2⟩ := info_parts info5
  have hX1 := ((Ext.refl w).alloc (.cells #[.int .i64 I.f, .slice ao L.length cap, .int .i64 I.ws, .int .i64 I.wt, .int .i64 I.mn, .int .i64 I.mg] 24)).alloc (.cells #[.int .i64 0, .slice none 0 0, .int .i64 0, .int .i64 0, .int .i64 0, .int .i64 0] 24)
  have hB1 := (Blk.new w #[.int .i64 I.f, .slice ao L.length cap, .int .i64 I.ws, .int .i64 I.wt, .int .i64 I.mn, .int .i64 I.mg] 24).alloc (.cells #[.int .i64 0, .slice none 0 0, .int .i64 0, .int .i64 0, .int .i64 0, .int .i64 0] 24)
  have hR1 : Blk ((w.alloc (.cells #[.int .i64 I.f, .slice ao L.length cap, .int .i64 I.ws, .int .i64 I.wt, .int .i64 I.mn, .int .i64 I.mg] 24)).alloc (.cells #[.int .i64 0, .slice none 0 0, .int .i64 0, .int .i64 0, .int .i64 0, .int .i64 0] 24)) (w.heap.size + 1) #[.int .i64 0, .slice none 0 0, .int .i64 0, .int .i64 0, .int .i64 0, .int .i64 0] 24 := Blk.at (by simp)
  have HI0 : Hid (CpI w ((w.alloc (.cells #[.int .i64 I.f, .slice ao L.length cap, .int .i64 I.ws, .int .i64 I.wt, .int .i64 I.mn, .int .i64 I.mg] 24)).alloc (.cells #[.int .i64 0, .slice none 0 0, .int .i64 0, .int .i64 0, .int .i64 0, .int .i64 0] 24)) I (.slice ao L.length cap) L none 0 0 []) := ⟨rfl, rfl, LO.nil _ _, hB1, hR1, hX1⟩
  have HH := hide h
  have HB := hide hb
  clear h hao hcm hb hX1 hB1 hR1
  go_enter Try.func8, Try.ntmps8
  go_wp2_with fail
  generalize (w.alloc (.cells #[.int .i64 I.f, .slice ao L.length cap, .int .i64 I.ws, .int .i64 I.wt, .int .i64 I.mn, .int .i64 I.mg] 24)).alloc (.cells #[.int .i64 0, .slice none 0 0, .int .i64 0, .int .i64 0, .int .i64 0, .int .i64 0] 24) = w2 at HI0 ⊢
  go_loopw [3, 9] (fun sv iv wr => ∃ (k : Nat) (a2 : Option Addr) (c2 : Nat) (D : List Ent), k ≤ L.length ∧ iv = .int .i64 (k : Int) ∧ sv = .slice a2 k c2 ∧ CpI w wr I (.slice ao L.length cap) L a2 c2 k D) (fun _ iv _ => L.length - (intOf iv).toNat)
  case atStart => exact ⟨0, _, _, _, Nat.zero_le _, rfl, rfl, unhide HI0⟩
  case round =>
    clear HI0
    obtain ⟨k, a2, c2, D, hk, rfl, rfl, hI⟩ := hrel
    have HI := hide hI
    have hlen := hI.len
    subst hlen
    by_cases hlt : D.length < L.length
    · have hkn : (D.length : Int) < (L.length : Int) := by omega
      obtain ⟨b, off, bo, bcap, e1, eb, c0, c1, c2', hr⟩ := ((unhide HH).ext hI.ext).at D.length hlt
      subst e1
      have hbl := unhide HB _ (List.getElem_mem hlt)
      have heq : absL (L.take (D.length + 1)) = absL D ++ [(L[D.length].1, L[D.length].2.1, L[D.length].2.2.2)] := by
        rw [List.take_succ_eq_append_getElem hlt, absL_append, ← hI.abs]
        rfl
      have HEQ := hide heq
      generalize L[D.length].1 = W at *
      generalize L[D.length].2.1 = H at *
      generalize L[D.length].2.2.2 = bs at *
      have HR2 : Hid (Row .u8 ((wr.alloc (.cells #[.int .i64 W, .int .i64 H, .slice bo bs.length bcap] 48)).alloc (.cells #[] 5)) (.slice bo bs.length bcap) bs) := hr.ext (((Ext.refl wr).alloc _).alloc _)
      have HSZ := hide hI.ext.size
      clear hI eb hr heq
      go_wp2_with (at_builtin; refine wpList_append_Own rfl (.tmp 13) (.tmp 15) 27 rfl (wr.heap.size + 1) 5 i0 .u8 1 Try.underlying27 hi hz0 hz1 hz2 _ [] rfl (Own.made_at _ (by simp) (Nat.le_refl _)) _ bs rfl (unhide HR2) ?c1 ?c2 ?c3 ?_)
      case c1 => unfold maxLen; simp; omega
      case c2 => simp; omega
      case c3 => simp
      intro v' w3 hown hgrow
      replace hown : Own .u8 w3 (wr.heap.size + 1) 5 v' bs := hown
      obtain ⟨ao', cap', rfl⟩ := hown.shape
      have hg3 : ((wr.alloc (.cells #[.int .i64 W, .int .i64 H, .slice bo bs.length bcap] 48)).alloc (.cells #[] 5)).grownBy w3 (some (wr.heap.size + 1)) := by
        have e : (Value.slice (some ⟨(wr.alloc (.cells #[.int .i64 W, .int .i64 H, .slice bo bs.length bcap] 48)).heap.size, 0, none⟩) 0 0).ownBlock = some (wr.heap.size + 1) := by simp [Value.ownBlock]
        first
          | exact hgrow
          | (rw [e] at hgrow; exact hgrow)
      have hx3 : Ext wr w3 := below_grown (((Ext.refl wr).alloc _).alloc _) hg3 (by simp; omega) (by omega)
      have hB3 : Blk w3 wr.heap.size #[.int .i64 W, .int .i64 H, .slice bo bs.length bcap] 48 := (hg3.block wr.heap.size (by simp; omega) (by simp)).trans ((Blk.new wr #[.int .i64 W, .int .i64 H, .slice bo bs.length bcap] 48).alloc (.cells #[] 5))
      obtain ⟨l0, l1, l2⟩ := hB3.three
      have lf := hB3.free 2
      have hg4 := grownBy_set w3 wr.heap.size 2 (.slice ao' bs.length cap')
      have hx4 : Ext wr (w3.setCell ⟨wr.heap.size, 2, none⟩ (.slice ao' bs.length cap')) := below_grown hx3 hg4 hx3.size (Nat.le_refl _)
      have hB4 : Blk (w3.setCell ⟨wr.heap.size, 2, none⟩ (.slice ao' bs.length cap')) wr.heap.size #[.int .i64 W, .int .i64 H, .slice ao' bs.length cap'] 48 := by
        have := hB3.set 2 (.slice ao' bs.length cap')
        simpa using this
      have ho4 : Own .u8 (w3.setCell ⟨wr.heap.size, 2, none⟩ (.slice ao' bs.length cap')) (wr.heap.size + 1) 5 (.slice ao' bs.length cap') bs := hown.grown hg4 (fun b hb e => by have := (hown.lt b hb).1; omega)
      have H4 := hide (And.intro hx4 (And.intro hB4 ho4))
      clear hown hgrow hg3 hx3 hB3 hg4 hx4 hB4 ho4 HR2 c0 c1 c2'
      have hX5 := (unhide H4).1.alloc (.cells #[.int .i64 W, .int .i64 H, .slice ao' bs.length cap'] 48)
      have hLO5 := (unhide HI).lo.ext hX5
      have ho5 := ((unhide H4).2.2.alloc (.cells #[.int .i64 W, .int .i64 H, .slice ao' bs.length cap'] 48))
      have H5 := hide (And.intro hX5 (And.intro hLO5 ho5))
      have hfit : w.heap.size + 2 ≤ ((w3.setCell ⟨wr.heap.size, 2, none⟩ (.slice ao' bs.length cap')).alloc (.cells #[.int .i64 W, .int .i64 H, .slice ao' bs.length cap'] 48)).heap.size := by
        have h1 := (unhide HI).res.lt
        have h2 := hX5.size
        omega
      clear hX5 hLO5 ho5
      obtain ⟨m0, m1, m2⟩ := (unhide H4).2.1.three
      go_wp2_with (at_builtin; refine wpList_append_lev rfl (.tmp 18) (.tmp 20) rfl (w.heap.size + 2) _ D (W, H, .slice ao' bs.length cap', bs) rfl (unhide H5).2.1.own w3.heap.size 1 ?z1 48 (Blk.at ?z2) rfl (by omega) hfit ?_)
      case z1 => rfl
      case z2 => simp
      intro ao6 cap6 w6 hown6 hg6
      have hI6 : CpI w w6 I (.slice (some ⟨b, off, none⟩) L.length cap) L ao6 cap6 (D.length + 1) (D ++ [(W, H, .slice ao' bs.length cap', bs)]) := by
        obtain ⟨hX5, hLO5, ho5⟩ := unhide H5
        have hs := (unhide HI).res.lt
        refine ⟨by simp, by rw [absL_append, unhide HEQ]; rfl, ?_, ?_, ?_, ?_⟩
        · rw [show (D ++ [(W, H, Value.slice ao' bs.length cap', bs)]).length = D.length + 1 by simp]
          refine LO.app hLO5 (by rw [show (D ++ [(W, H, Value.slice ao' bs.length cap', bs)]).length = D.length + 1 by simp]; exact hown6) hg6 (ho5.lower (by omega)) fun p hp b2 hb2 e => ?_
          have h1 := (((unhide HI).lo.bys p hp).lt b2 hb2).2
          have h2 := (ho5.lt b2 e).1
          omega
        · exact (((unhide HI).blk.ext hX5)).byL (by omega) hLO5 hg6
        · exact (((unhide HI).res.ext hX5)).byL (by omega) hLO5 hg6
        · refine ((unhide HI).ext.trans hX5).grown hg6 ((unhide HI).ext.trans hX5).size (fun r e => ?_)
          have := (World.ownsRow.lt hLO5.own r e).1
          omega
      have HI6 := hide hI6
      clear hI6 hown6 hg6 m0 m1 m2 H5 H4 l0 l1 l2 lf
      go_wp2
      go_roundw
      case rel => exact ⟨D.length + 1, ao6, cap6, _, by omega, by go_num, rfl, unhide HI6⟩
      case measure => simp [intOf]; omega
    · have hDl : D.length = L.length := by omega
      have hab := hI.abs
      rw [hDl, List.take_length] at hab
      have HAB := hide hab
      have hnl : ¬ (D.length : Int) < (L.length : Int) := by omega
      clear hDl hab
      obtain ⟨q0, q1, q2, q3, q4, q5⟩ := hI.blk.six
      have f1 := hI.blk.free 1
      have hg1 := grownBy_set wr w.heap.size 1 (.slice a2 D.length c2)
      have hB5 : Blk (wr.setCell ⟨w.heap.size, 1, none⟩ (.slice a2 D.length c2)) w.heap.size #[.int .i64 I.f, .slice a2 D.length c2, .int .i64 I.ws, .int .i64 I.wt, .int .i64 I.mn, .int .i64 I.mg] 24 := by
        have := hI.blk.set 1 (.slice a2 D.length c2)
        simpa using this
      have hR5 := hI.res.other (r := w.heap.size) 1 (.slice a2 D.length c2) (by omega)
      have hX5 := below_grown hI.ext hg1 hI.ext.size (Nat.le_refl _)
      have hL5 := hI.lo.grown hI.blk ⟨by decide, by decide⟩ hg1
      have H5 := hide (And.intro hB5 (And.intro hR5 (And.intro hX5 hL5)))
      clear hI hg1 hB5 hR5 hX5 hL5
      go_upto_region 9 with fail
      generalize wr.setCell ⟨w.heap.size, 1, none⟩ (.slice a2 D.length c2) = w5 at H5 ⊢
      obtain ⟨hB5, hR5, hX5, hL5⟩ := unhide H5
      clear q0 q1 q2 q3 q4 q5 f1
      obtain ⟨q0, q1, q2, q3, q4, q5⟩ := hB5.six
      obtain ⟨p0, p1, p2, p3, p4, p5⟩ := hR5.six
      obtain ⟨f0, f1, f2, f3, f4, f5⟩ := hR5.frees
      have hB7 := hR5.put6 (.int .i64 I.f) (.slice a2 D.length c2) (.int .i64 I.ws) (.int .i64 I.wt) (.int .i64 I.mn) (.int .i64 I.mg)
      have hg7 := grown_put6 w5 (w.heap.size + 1) (.int .i64 I.f) (.slice a2 D.length c2) (.int .i64 I.ws) (.int .i64 I.wt) (.int .i64 I.mn) (.int .i64 I.mg)
      have hL7 := (hL5.grown hR5 ⟨by decide, by decide⟩ hg7).lower (b2 := w.heap.size) (by omega)
      have hX7 : Ext w _ := below_grown hX5 hg7 hX5.size (by omega)
      have H7 := hide (And.intro hB7 (And.intro hL7 hX7))
      clear hB7 hg7 hL7 hX7 H5 hB5 hR5 hX5 hL5
      go_wp2
      obtain ⟨hB7, hL7, hX7⟩ := unhide H7
      obtain ⟨r0, r1, r2, r3, r4, r5⟩ := hB7.six
      refine bodyPost_ret (v := .agg #[.int .i64 I.f, .slice a2 D.length c2, .int .i64 I.ws, .int .i64 I.wt, .int .i64 I.mn, .int .i64 I.mg]) (by simp [results, Try.results8, go_sem, r0, r1, r2, r3, r4, r5]) rfl ?_
      exact ⟨a2, c2, D, rfl, hL7, unhide HAB, hX7⟩
end
end Go.Proofs.Ytpjapdifmfpcnaa
