/- Several texts in one. -/
import Derived.Test.YtglfhmlcmffoaaaGreatIT
import Derived.Test.YtglfhmlcmffoaaaGreatQt
import Derived.Deep.RegionHeld3
import Derived.Deep.RegionLaw
import Derived.Deep.DeepCutAuto
import Derived.Test.YtglfhmlcmffoaaaGreatIAJ
/-
  Images: the walk of Check.
-/
namespace Go.Proofs.YtglfhmlcmffoaaaGreat
open Go.RowKit
set_option linter.unusedVariables false
set_option linter.unusedSimpArgs false

theorem Blk.six {w : World} {b : Nat} {a0 a1 a2 a3 a4 a5 : Value} {t : TypeId} (h : Blk w b #[a0, a1, a2, a3, a4, a5] t) :
    w.cell? ⟨b, 0, none⟩ = some a0 ∧ w.cell? ⟨b, 1, none⟩ = some a1 ∧ w.cell? ⟨b, 2, none⟩ = some a2 ∧ w.cell? ⟨b, 3, none⟩ = some a3 ∧ w.cell? ⟨b, 4, none⟩ = some a4 ∧ w.cell? ⟨b, 5, none⟩ = some a5 :=
  ⟨h.cell (i := 0) rfl, h.cell (i := 1) rfl, h.cell (i := 2) rfl, h.cell (i := 3) rfl, h.cell (i := 4) rfl, h.cell (i := 5) rfl⟩
theorem Blk.four {w : World} {b : Nat} {a0 a1 a2 a3 : Value} {t : TypeId} (h : Blk w b #[a0, a1, a2, a3] t) :
    w.cell? ⟨b, 0, none⟩ = some a0 ∧ w.cell? ⟨b, 1, none⟩ = some a1 ∧ w.cell? ⟨b, 2, none⟩ = some a2 ∧ w.cell? ⟨b, 3, none⟩ = some a3 :=
  ⟨h.cell (i := 0) rfl, h.cell (i := 1) rfl, h.cell (i := 2) rfl, h.cell (i := 3) rfl⟩
theorem Blk.three {w : World} {b : Nat} {a0 a1 a2 : Value} {t : TypeId} (h : Blk w b #[a0, a1, a2] t) :
    w.cell? ⟨b, 0, none⟩ = some a0 ∧ w.cell? ⟨b, 1, none⟩ = some a1 ∧ w.cell? ⟨b, 2, none⟩ = some a2 :=
  ⟨h.cell (i := 0) rfl, h.cell (i := 1) rfl, h.cell (i := 2) rfl⟩

theorem siz_bd (f : Int) : 0 ≤ sizI f ∧ sizI f ≤ 4 := by
  unfold sizI
  repeat' split
  all_goals omega
/-- What Check answers. -/
def chkE (I : Img) : Int := if okB (sizI I.f) I = true then 0 else 180
theorem chkE_no {I : Img} (h : ¬ okB (sizI I.f) I = true) : chkE I = 180 := if_neg h
theorem chkE_yes {I : Img} (h : okB (sizI I.f) I = true) : chkE I = 0 := if_pos h

section
variable {w : World} {v : Value} {L : List Ent} {I : Img}
set_option maxRecDepth 10000 in
set_option maxHeartbeats 4000000 in
theorem check_any (h : LR w v L) (hL : L.length ≤ 4000000000000) (hA : I.L = absL L) :
    Calls Tryz.prog 119 #[.agg #[.int .i64 I.f, v, .int .i64 I.ws, .int .i64 I.wt, .int .i64 I.mn, .int .i64 I.mg]] w fun e w' => e = .returned (.int .i64 (chkE I)) ∧ Ext w w' := by
  obtain ⟨ao, cap, rfl, hao, hlc, hcm, _⟩ := h.shape
  have hcm2 : cap ≤ 9223372036854775807 := by unfold maxLen at hcm; omega
  have hal : I.L.length = L.length := by rw [hA, absL_len]
  have HA := hide hA
  have HAL := hide hal
  have HH := hide h
  have hX1 := (Ext.refl w).alloc (.cells #[.int .i64 I.f, .slice ao L.length cap, .int .i64 I.ws, .int .i64 I.wt, .int .i64 I.mn, .int .i64 I.mg] 112)
  have hB1 := Blk.new w #[.int .i64 I.f, .slice ao L.length cap, .int .i64 I.ws, .int .i64 I.wt, .int .i64 I.mn, .int .i64 I.mg] 112
  have HX1 := hide hX1
  have HB1 := hide hB1
  have m0 := cell_later hB1.six.1
  have m1 := cell_later hB1.six.2.1
  have hne := Later.some (w.alloc (.cells #[.int .i64 I.f, .slice ao L.length cap, .int .i64 I.ws, .int .i64 I.wt, .int .i64 I.mn, .int .i64 I.mg] 112))
  clear h hA hal hao hcm hX1 hB1
  go_enter Tryz.func119, Tryz.ntmps119
  go_wp2
  refine wp_region_later (by kernel_rfl) (by kernel_rfl) ?_
  repeat (go_big_quiet_step (first | (go_at_call 163; refine calls_later (size_any _ _))))
  refine wpQuiet_nil ?_
  rintro _ ⟨x, rfl⟩
  have hx2 := x.ext
  generalize x.w = w2 at hx2 ⊢
  clear x m0 m1 hne
  have HX2 := hide ((unhide HX1).trans hx2)
  have HB2 := hide ((unhide HB1).ext hx2)
  clear HX1 HB1 hx2
  obtain ⟨q0, q1, q2, q3, q4, q5⟩ := (unhide HB2).six
  have HS := hide (siz_bd I.f)
  have HE : Hid (∀ h : ¬ okB (sizI I.f) I = true, chkE I = 180) := fun h => chkE_no h
  have HE2 : Hid (∀ h : okB (sizI I.f) I = true, chkE I = 0) := fun h => chkE_yes h
  have hs1 := (unhide HS).1
  have hs2 := (unhide HS).2
  obtain ⟨s, hs⟩ : ∃ s, s = sizI I.f := ⟨_, rfl⟩
  rw [← hs] at HS HE HE2 hs1 hs2 ⊢
  clear hs
  by_cases a1 : L.length = 0 ∧ I.f ≠ 0
  · have b1 : ((L.length : Int) == 0) = true := by rw [beq_iff_eq]; omega
    have b2 : (I.f != 0) = true := by simp [a1.2]
    have E := hide (unhide HE (fun hok => a1.2 ((okB_iff.1 hok).2.1 (by rw [unhide HAL]; exact a1.1))))
    clear a1
    go_wp2
    go_ret
    rw [unhide E]
    exact ⟨rfl, unhide HX2⟩
  have A1 : Hid (((L.length : Int) == 0) = false ∨ ((L.length : Int) == 0) = true ∧ (I.f != 0) = false) := by
    show _ ∨ _
    by_cases h0 : L.length = 0
    · refine .inr ⟨by rw [beq_iff_eq]; omega, ?_⟩
      have : I.f = 0 := Classical.byContradiction fun h => a1 ⟨h0, h⟩
      simp [this]
    · exact .inl (by rw [beq_eq_false_iff_ne]; omega)
  have A1' := hide a1
  clear a1
  by_cases a2 : 7 < L.length
  · have b0 : ((L.length : Int) == 0) = false := by rw [beq_eq_false_iff_ne]; omega
    have b1 : (7 : Int) < (L.length : Int) := by omega
    have E := hide (unhide HE (fun hok => by have := (okB_iff.1 hok).1; rw [unhide HAL] at this; omega))
    clear a2
    go_wp2
    go_ret
    rw [unhide E]
    exact ⟨rfl, unhide HX2⟩
  have b7 : (L.length : Int) ≤ 7 := by omega
  have HL2 := hide ((unhide HH).ext (unhide HX2))
  have HWR := hide (wrongAt_all s (absL L))
  have HWL := hide (wrongAt_le s (absL L))
  rw [absL_len] at HWL HWR
  have hfw := firstWrong_any (unhide HL2) (by omega) s (unhide HS)
  have HFW := hide hfw
  clear hfw
  have hwl := unhide HWL
  obtain ⟨fw, hfwe⟩ : ∃ fw, fw = wrongAt s (absL L) := ⟨_, rfl⟩
  rw [← hfwe] at HFW HWR hwl
  clear hfwe HWL
  by_cases a3 : fw < L.length
  · have b3 : (fw : Int) < (L.length : Int) := by omega
    have b0 : ((L.length : Int) == 0) = false := by rw [beq_eq_false_iff_ne]; omega
    have E := hide (unhide HE (fun hok => by
      have h3 := (okB_iff.1 hok).2.2.1
      rw [unhide HA] at h3
      have := (unhide HWR).2 h3
      omega))
    clear a2 a3
    go_wp2_with fail
    refine (unhide HFW).mono ?_
    rintro e w3 ⟨rfl, hx3⟩
    have HX3 := hide ((unhide HX2).trans hx3)
    clear hx3
    go_wp2
    go_ret
    rw [unhide E]
    exact ⟨rfl, unhide HX3⟩
  obtain rfl : fw = L.length := by omega
  have HAll := hide ((unhide HWR).1 rfl)
  clear HWR a2 a3 hwl
  have T1 := hide (takes_any 1 I.ws)
  have T2 := hide (takes_any 2 I.wt)
  have T3 := hide (takes_any 3 I.mn)
  have T4 := hide (takes_any 4 I.mg)
  have HV : Hid (okB s I = true ↔ (0 < L.length → s ≠ 0 ∧ hasB (absL L) ((L.length : Int) - 1) = true) ∧ valB 1 I.ws = true ∧ valB 2 I.wt = true ∧ valB 3 I.mn = true ∧ valB 4 I.mg = true) := by
    show _ ↔ _
    rw [okB_iff, unhide HAL, unhide HA]
    constructor
    · intro h
      exact h.2.2.2
    · intro h
      exact ⟨by omega, fun h0 => Classical.byContradiction fun h1 => unhide A1' ⟨h0, h1⟩, unhide HAll, h⟩
  generalize valB 1 I.ws = t1 at *
  generalize valB 2 I.wt = t2 at *
  generalize valB 3 I.mn = t3 at *
  generalize valB 4 I.mg = t4 at *
  -- from the third test on, in the world w3
  rcases (by omega : L.length = 0 ∨ 0 < L.length) with h0 | h0
  · have b0 : ((L.length : Int) == 0) = true := by rw [beq_iff_eq]; omega
    have b1 : (I.f != 0) = false := by
      rcases unhide A1 with h | h
      · rw [h] at b0; cases b0
      · exact h.2
    have b2 : ¬ (0 : Int) < (L.length : Int) := by omega
    have b3 : ¬ (L.length : Int) < (L.length : Int) := by omega
    have HV2 : Hid (okB s I = true ↔ t1 = true ∧ t2 = true ∧ t3 = true ∧ t4 = true) := by
      show _ ↔ _
      rw [unhide HV]
      exact ⟨fun h => h.2, fun h => ⟨fun h1 => by omega, h⟩⟩
    clear HV A1 A1' h0
    go_wp2_with fail
    refine (unhide HFW).mono ?_
    rintro e w3 ⟨rfl, hx3⟩
    have HX3 := hide ((unhide HX2).trans hx3)
    obtain ⟨q0, q1, q2, q3, q4, q5⟩ := ((unhide HB2).ext hx3).six
    clear hx3
    go_wp2_with fail
    refine (unhide T1 _).mono ?_
    rintro e w4 ⟨rfl, rfl⟩
    cases t1 with
    | false =>
      have E := hide (unhide HE (fun hok => by have := (unhide HV2).1 hok; simp at this))
      go_wp2
      go_ret
      rw [unhide E]
      exact ⟨rfl, unhide HX3⟩
    | true =>
      go_wp2_with fail
      refine (unhide T2 _).mono ?_
      rintro e w4 ⟨rfl, rfl⟩
      cases t2 with
      | false =>
        have E := hide (unhide HE (fun hok => by have := (unhide HV2).1 hok; simp at this))
        go_wp2
        go_ret
        rw [unhide E]
        exact ⟨rfl, unhide HX3⟩
      | true =>
        go_wp2_with fail
        refine (unhide T3 _).mono ?_
        rintro e w4 ⟨rfl, rfl⟩
        cases t3 with
        | false =>
          have E := hide (unhide HE (fun hok => by have := (unhide HV2).1 hok; simp at this))
          go_wp2
          go_ret
          rw [unhide E]
          exact ⟨rfl, unhide HX3⟩
        | true =>
          go_wp2_with fail
          refine (unhide T4 _).mono ?_
          rintro e w4 ⟨rfl, rfl⟩
          cases t4 with
          | false =>
            have E := hide (unhide HE (fun hok => by have := (unhide HV2).1 hok; simp at this))
            go_wp2
            go_ret
            rw [unhide E]
            exact ⟨rfl, unhide HX3⟩
          | true =>
            have E := hide (unhide HE2 ((unhide HV2).2 (by simp)))
            go_wp2
            go_ret
            rw [unhide E]
            exact ⟨rfl, unhide HX3⟩
  · have b0 : ((L.length : Int) == 0) = false := by rw [beq_eq_false_iff_ne]; omega
    have b2 : (0 : Int) < (L.length : Int) := by omega
    have b3 : ¬ (L.length : Int) < (L.length : Int) := by omega
    have HV2 : Hid (okB s I = true ↔ (s ≠ 0 ∧ hasB (absL L) ((L.length : Int) - 1) = true) ∧ t1 = true ∧ t2 = true ∧ t3 = true ∧ t4 = true) := by
      show _ ↔ _
      rw [unhide HV]
      exact ⟨fun h => ⟨h.1 h0, h.2⟩, fun h => ⟨fun _ => h.1, h.2⟩⟩
    clear HV A1 A1' h0
    go_wp2_with fail
    refine (unhide HFW).mono ?_
    rintro e w3 ⟨rfl, hx3⟩
    have HX3 := hide ((unhide HX2).trans hx3)
    have HL3 := hide ((unhide HL2).ext hx3)
    have HB3 := hide ((unhide HB2).ext hx3)
    obtain ⟨q0, q1, q2, q3, q4, q5⟩ := (unhide HB3).six
    clear hx3
    by_cases hs0 : s = 0
    · have c1 : (s == 0) = true := by simp [hs0]
      have E := hide (unhide HE (fun hok => ((unhide HV2).1 hok).1.1 hs0))
      clear hs0
      go_wp2
      go_ret
      rw [unhide E]
      exact ⟨rfl, unhide HX3⟩
    have c1 : (s == 0) = false := by simp [hs0]
    have HS0 := hide hs0
    clear hs0
    have HHA := hide (has_any (I := I) (unhide HL3) ((L.length : Int) - 1))
    generalize hasB (absL L) ((L.length : Int) - 1) = hb at *
    go_wp2_with fail
    refine (unhide HHA).mono ?_
    rintro e w4 ⟨rfl, hx4⟩
    have HX4 := hide ((unhide HX3).trans hx4)
    have HB4 := hide ((unhide HB3).ext hx4)
    clear q0 q1 q2 q3 q4 q5 HX3 HL3 HB3 HHA hx4
    obtain ⟨q0, q1, q2, q3, q4, q5⟩ := (unhide HB4).six
    cases hb with
    | false =>
      have E := hide (unhide HE (fun hok => by have := (unhide HV2).1 hok; simp at this))
      go_wp2
      go_ret
      rw [unhide E]
      exact ⟨rfl, unhide HX4⟩
    | true =>
      go_wp2_with fail
      refine (unhide T1 _).mono ?_
      rintro e w5 ⟨rfl, rfl⟩
      cases t1 with
      | false =>
        have E := hide (unhide HE (fun hok => by have := (unhide HV2).1 hok; simp at this))
        go_wp2
        go_ret
        rw [unhide E]
        exact ⟨rfl, unhide HX4⟩
      | true =>
        go_wp2_with fail
        refine (unhide T2 _).mono ?_
        rintro e w5 ⟨rfl, rfl⟩
        cases t2 with
        | false =>
          have E := hide (unhide HE (fun hok => by have := (unhide HV2).1 hok; simp at this))
          go_wp2
          go_ret
          rw [unhide E]
          exact ⟨rfl, unhide HX4⟩
        | true =>
          go_wp2_with fail
          refine (unhide T3 _).mono ?_
          rintro e w5 ⟨rfl, rfl⟩
          cases t3 with
          | false =>
            have E := hide (unhide HE (fun hok => by have := (unhide HV2).1 hok; simp at this))
            go_wp2
            go_ret
            rw [unhide E]
            exact ⟨rfl, unhide HX4⟩
          | true =>
            go_wp2_with fail
            refine (unhide T4 _).mono ?_
            rintro e w5 ⟨rfl, rfl⟩
            cases t4 with
            | false =>
              have E := hide (unhide HE (fun hok => by have := (unhide HV2).1 hok; simp at this))
              go_wp2
              go_ret
              rw [unhide E]
              exact ⟨rfl, unhide HX4⟩
            | true =>
              have E := hide (unhide HE2 ((unhide HV2).2 (by have h9 := unhide HS0; simp [h9])))
              go_wp2
              go_ret
              rw [unhide E]
              exact ⟨rfl, unhide HX4⟩
end
end Go.Proofs.YtglfhmlcmffoaaaGreat

/-
  Images: the walks of Clone of levels, duplicate and blank. What the dump lacks is left out.
-/
namespace Go.Proofs.YtglfhmlcmffoaaaGreat
open Go.RowKit
set_option linter.unusedVariables false
set_option linter.unusedSimpArgs false

theorem Blk.put6 {w : World} {b : Nat} {o0 o1 o2 o3 o4 o5 : Value} {t : TypeId} (h : Blk w b #[o0, o1, o2, o3, o4, o5] t) (a0 a1 a2 a3 a4 a5 : Value) :
    Blk ((((((w.setCell ⟨b, 0, none⟩ a0).setCell ⟨b, 1, none⟩ a1).setCell ⟨b, 2, none⟩ a2).setCell ⟨b, 3, none⟩ a3).setCell ⟨b, 4, none⟩ a4).setCell ⟨b, 5, none⟩ a5) b #[a0, a1, a2, a3, a4, a5] t := by
  have h1 := (((((h.set 0 a0).set 1 a1).set 2 a2).set 3 a3).set 4 a4).set 5 a5
  simpa using h1
theorem grown_put6 (w : World) (b : Nat) (a0 a1 a2 a3 a4 a5 : Value) :
    w.grownBy ((((((w.setCell ⟨b, 0, none⟩ a0).setCell ⟨b, 1, none⟩ a1).setCell ⟨b, 2, none⟩ a2).setCell ⟨b, 3, none⟩ a3).setCell ⟨b, 4, none⟩ a4).setCell ⟨b, 5, none⟩ a5) (some b) :=
  (((((grownBy_set _ _ _ _).trans (grownBy_set _ _ _ _)).trans (grownBy_set _ _ _ _)).trans (grownBy_set _ _ _ _)).trans (grownBy_set _ _ _ _)).trans (grownBy_set _ _ _ _)
theorem Blk.frees {w : World} {b : Nat} {cs : Array Value} {t : TypeId} (h : Blk w b cs t) : w.frozen? ⟨b, 0, none⟩ = false ∧ w.frozen? ⟨b, 1, none⟩ = false ∧ w.frozen? ⟨b, 2, none⟩ = false ∧ w.frozen? ⟨b, 3, none⟩ = false ∧ w.frozen? ⟨b, 4, none⟩ = false ∧ w.frozen? ⟨b, 5, none⟩ = false :=
  ⟨h.free 0, h.free 1, h.free 2, h.free 3, h.free 4, h.free 5⟩
/-- Levels and their bytes do not lie in a block of another type. -/
theorem LO.grown {w w' : World} {base r : Nat} {v : Value} {L : List Ent} {cs : Array Value} {t : TypeId} (h : LO w base v L) (hB : Blk w r cs t) (ht : t ≠ 156 ∧ t ≠ 5) (hg : w.grownBy w' (some r)) : LO w' base v L := by
  refine ⟨?_, fun p hp => (h.bys p hp).grown hg fun b hb e => ?_, h.alone⟩
  · refine World.ownsRow.kept h.own hg (.inr fun e => ?_)
    rcases h.own.2 with ⟨e1, _⟩ | ⟨g, cap, cur, e1, _, hg2, _⟩
    · rw [e1] at e; cases e
    · have hr : g = r := by rw [e1] at e; simpa [Value.ownBlock] using e
      rw [hr, show w.heap[r]? = some (.cells cs t (0, 0)) from hB] at hg2
      simp at hg2
      exact ht.1 hg2.2
  · subst e
    rcases (h.bys p hp).2 with ⟨e1, _⟩ | ⟨g, cap, cur, e1, _, hg2, _⟩
    · rw [e1] at hb; cases hb
    · have hr : g = b := by rw [e1] at hb; simpa [Value.ownBlock] using hb
      rw [hr, show w.heap[b]? = some (.cells cs t (0, 0)) from hB] at hg2
      simp at hg2
      exact ht.2 hg2.2
theorem LR.news {w : World} {b off n cap : Nat} {L : List Ent} (h : LR w (.slice (some ⟨b, off, none⟩) n cap) L) : ∀ j u, (lcells L)[j]? = some u → w.cell? ((⟨b, off, none⟩ : Addr).add j) = some u := by
  obtain ⟨ao, cap', e, _, _, _, h4⟩ := h.shape
  cases e
  intro j u hu
  have hj : j < L.length * 3 := by
    have := (List.getElem?_eq_some_iff.1 hu).1
    rwa [lcells_len] at this
  obtain ⟨b2, off2, e2, c0, c1, c2⟩ := h4 (j / 3) (by omega)
  cases e2
  obtain ⟨g0, g1, g2⟩ := lcells_get L (j / 3) (by omega)
  rw [Addr.add_lit]
  have hd := Nat.div_add_mod j 3
  rcases (by omega : j % 3 = 0 ∨ j % 3 = 1 ∨ j % 3 = 2) with hm | hm | hm
  · rw [show j = j / 3 * 3 by omega] at hu ⊢
    rw [g0] at hu
    cases hu
    exact c0
  · rw [show j = j / 3 * 3 + 1 by omega] at hu ⊢
    rw [g1] at hu
    cases hu
    rw [← Nat.add_assoc]
    exact c1
  · rw [show j = j / 3 * 3 + 2 by omega] at hu ⊢
    rw [g2] at hu
    cases hu
    rw [← Nat.add_assoc]
    exact c2
theorem lcells_ones {w : World} {v : Value} {L : List Ent} (h : LR w v L) : ∀ u ∈ lcells L, u.oneCell' = true := by
  intro u hu
  unfold lcells at hu
  obtain ⟨p, hp, hu⟩ := List.mem_flatMap.1 hu
  obtain ⟨ao, cap, e, _⟩ := (h.row p hp).shape
  exact ecells_one e u hu

section
variable {w : World} {v : Value} {L : List Ent} {I : Img}

/-- How far duplicate has come: the first levels' bytes are new. -/
structure DupI (w wr : World) (I : Img) (ao : Option Addr) (cap : Nat) (L : List Ent) (k : Nat) (D : List Ent) : Prop where
  len : D.length = k
  abs : absL D = absL (L.take k)
  own : wr.ownsRow w.heap.size 156 3 (.slice ao L.length cap) L.length (lcells (D ++ L.drop k))
  bys : ∀ p ∈ D, Own .u8 wr w.heap.size 5 p.2.2.1 p.2.2.2
  alone : D.Pairwise fun p q => ∀ b, p.2.2.1.ownBlock = some b → q.2.2.1.ownBlock ≠ some b
  blk : Blk wr w.heap.size #[.int .i64 I.f, .slice ao L.length cap, .int .i64 I.ws, .int .i64 I.wt, .int .i64 I.mn, .int .i64 I.mg] 112
  res : Blk wr (w.heap.size + 1) #[.int .i64 0, .slice none 0 0, .int .i64 0, .int .i64 0, .int .i64 0, .int .i64 0] 112
  ext : Ext w wr

theorem DupI.step {wr w3 : World} {ao : Option Addr} {cap k : Nat} {D : List Ent} (h : DupI w wr I ao cap L k D) (hk : k < L.length) {g : Nat} (hg : ao = some ⟨g, 0, none⟩) {bo : Option Addr} {bcap : Nat}
    (ho : Own .u8 w3 wr.heap.size 5 (.slice bo L[k].2.2.2.length bcap) L[k].2.2.2) (hx : Ext wr w3) :
    DupI w (w3.setCell ⟨g, k * 3 + 2, none⟩ (.slice bo L[k].2.2.2.length bcap)) I ao cap L (k + 1) (D ++ [(L[k].1, L[k].2.1, .slice bo L[k].2.2.2.length bcap, L[k].2.2.2)]) := by
  subst hg
  have hs := h.ext.size
  have ho3 : w3.ownsRow w.heap.size 156 3 (.slice (some ⟨g, 0, none⟩) L.length cap) L.length (lcells (D ++ L.drop k)) := World.ownsRow.kept h.own (ext_grown hx none) (.inr (by simp [Value.ownBlock]))
  have hdrop : L.drop k = L[k] :: L.drop (k + 1) := List.drop_eq_getElem_cons hk
  obtain ⟨hst, hgr⟩ := World.ownsRow.stored ho3 (k * 3 + 2) (.slice bo L[k].2.2.2.length bcap)
  obtain ⟨cur, hcur⟩ : ∃ cur, w3.heap[g]? = some (.cells cur 156 (0, 0)) := by
    rcases ho3.2 with ⟨e, _⟩ | ⟨g2, c, cur, e, _, hg2, _⟩
    · cases e
    · cases e
      exact ⟨cur, hg2⟩
  have hgl : g < wr.heap.size := (World.ownsRow.lt h.own g rfl).2
  have hgw : w.heap.size ≤ g := (World.ownsRow.lt h.own g rfl).1
  refine ⟨by simp [h.len], ?_, ?_, ?_, ?_, ?_, ?_, ?_⟩
  · rw [absL_append, h.abs, List.take_succ_eq_append_getElem hk, absL_append]
    rfl
  · rw [hdrop] at hst
    have e := lcells_set D (L.drop (k + 1)) L[k] (.slice bo L[k].2.2.2.length bcap) L[k].2.2.2
    rw [h.len] at e
    rw [e] at hst
    rw [List.append_assoc]
    exact hst
  · intro p hp
    rcases List.mem_append.1 hp with hp | hp
    · have hp3 := (h.bys p hp).kept hx
      exact hp3.grown hgr (own_ne hcur hp3)
    · simp at hp
      subst hp
      exact (ho.lower hs).grown hgr (own_ne hcur ho)
  · refine List.pairwise_append.2 ⟨h.alone, by simp, fun p hp q hq b hb => ?_⟩
    simp at hq
    subst hq
    intro e
    have h1 := ((h.bys p hp).lt b hb).2
    have h2 := (ho.lt b e).1
    omega
  · have hb3 := h.blk.ext hx
    refine hb3.other (r := g) _ _ fun e => ?_
    rw [← e] at hcur
    rw [show w3.heap[w.heap.size]? = _ from hb3] at hcur
    simp at hcur
  · have hb3 := h.res.ext hx
    refine hb3.other (r := g) _ _ fun e => ?_
    rw [← e] at hcur
    rw [show w3.heap[w.heap.size + 1]? = _ from hb3] at hcur
    simp at hcur
  · exact below_grown (h.ext.trans hx) hgr (h.ext.trans hx).size hgw

end

end Go.Proofs.YtglfhmlcmffoaaaGreat

/-
  Images: the walk of putRefusal; a level more, or another one, in a row of the call's own. What the dump lacks is left out.
-/
namespace Go.Proofs.YtglfhmlcmffoaaaGreat
open Go.RowKit
set_option linter.unusedVariables false
set_option linter.unusedSimpArgs false

/-- What Put answers. -/
def putE (I : Img) (lv f W H : Int) (n : Nat) : Int :=
  if okB (sizI I.f) I = false then 180 else if lv < 0 ∨ 7 ≤ lv ∨ sizI f = 0 ∨ sideB W = false ∨ sideB H = false then 2
  else if n ≠ 0 ∧ (n : Int) ≠ W * H * sizI f then 7 else if lv ≠ 0 ∧ I.L.length ≠ 0 ∧ f ≠ I.f then 181 else 0

/-- A block of another type is no block of levels. -/
theorem blk_ne {w : World} {b g : Nat} {cs cur : Array Value} {t : TypeId} (h : Blk w b cs t) (ht : t ≠ 156) (hg : w.heap[g]? = some (.cells cur 156 (0, 0))) : b ≠ g := by
  intro e
  rw [← e, show w.heap[b]? = some (.cells cs t (0, 0)) from h] at hg
  simp at hg
  exact ht hg.2
section
variable {w w' : World} {base : Nat} {v v' : Value} {L : List Ent}
/-- What stands in a row's block, if there is one. -/
theorem LO.block (h : LO w base v L) {g : Nat} (hg : v.ownBlock = some g) : ∃ cur, w.heap[g]? = some (.cells cur 156 (0, 0)) := by
  rcases h.own.2 with ⟨e, _⟩ | ⟨g2, c, cur, e, _, hg2, _⟩
  · rw [e] at hg; cases hg
  · rw [e] at hg
    cases hg
    exact ⟨cur, hg2⟩
theorem Own.by {xs : List Int} {u : Value} (h : Own .u8 w base 5 u xs) (hL : LO w base v L) (hg : w.grownBy w' v.ownBlock) : Own .u8 w' base 5 u xs := by
  cases hv : v.ownBlock with
  | none =>
    rw [hv] at hg
    refine World.ownsRow.kept h hg ?_
    cases u.ownBlock <;> simp
  | some g =>
    rw [hv] at hg
    obtain ⟨cur, hc⟩ := hL.block hv
    exact h.grown hg (own_ne hc h)
theorem Blk.by {b : Nat} {cs : Array Value} {t : TypeId} (h : Blk w b cs t) (ht : t ≠ 156) (hL : LO w base v L) (hg : w.grownBy w' v.ownBlock) : Blk w' b cs t := by
  cases hv : v.ownBlock with
  | none =>
    rw [hv] at hg
    exact (hg.block b h.lt (by simp)).trans h
  | some g =>
    rw [hv] at hg
    obtain ⟨cur, hc⟩ := hL.block hv
    exact h.grown hg (blk_ne h ht hc)
/-- A block of a level that stands alone, not in the row. -/
theorem Blk.byL {b : Nat} {cs : Array Value} {t : TypeId} (h : Blk w b cs t) (hb : b < base) (hL : LO w base v L) (hg : w.grownBy w' v.ownBlock) : Blk w' b cs t := by
  refine (hg.block b h.lt fun e => ?_).trans h
  have := (World.ownsRow.lt hL.own b e.symm).1
  omega
theorem LO.app {y : Ent} (h : LO w base v L) (hown : w'.ownsRow base 156 3 v' (L ++ [y]).length (lcells (L ++ [y]))) (hg : w.grownBy w' v.ownBlock) (hy : Own .u8 w base 5 y.2.2.1 y.2.2.2)
    (hal : ∀ p ∈ L, ∀ b, p.2.2.1.ownBlock = some b → y.2.2.1.ownBlock ≠ some b) : LO w' base v' (L ++ [y]) := by
  refine ⟨hown, fun p hp => ?_, List.pairwise_append.2 ⟨h.alone, by simp, fun p hp q hq => ?_⟩⟩
  · rcases List.mem_append.1 hp with hp | hp
    · exact (h.bys p hp).by h hg
    · simp at hp
      subst hp
      exact hy.by h hg
  · simp at hq
    subst hq
    exact hal p hp
/-- One level is set. -/
theorem LO.setAt {g n cap : Nat} {A B : List Ent} {x : Ent} (h : LO w base (.slice (some ⟨g, 0, none⟩) n cap) (A ++ x :: B)) (y : Ent) (hy : Own .u8 w base 5 y.2.2.1 y.2.2.2)
    (hal : ∀ p ∈ A ++ B, ∀ b, p.2.2.1.ownBlock = some b → y.2.2.1.ownBlock ≠ some b) :
    LO (((w.setCell ⟨g, A.length * 3, none⟩ (.int .i64 y.1)).setCell ⟨g, A.length * 3 + 1, none⟩ (.int .i64 y.2.1)).setCell ⟨g, A.length * 3 + 2, none⟩ y.2.2.1) base (.slice (some ⟨g, 0, none⟩) n cap) (A ++ y :: B) := by
  have hn : n = (A ++ x :: B).length := by
    rcases h.own.2 with ⟨e, _⟩ | ⟨g2, c, cur, e, _⟩
    · cases e
    · cases e; rfl
  have hl2 : (A ++ y :: B).length = (A ++ x :: B).length := by simp
  obtain ⟨h1, g1⟩ := World.ownsRow.stored (hn ▸ h.own) (A.length * 3) (.int .i64 y.1)
  obtain ⟨h2, g2⟩ := World.ownsRow.stored h1 (A.length * 3 + 1) (.int .i64 y.2.1)
  obtain ⟨h3, g3⟩ := World.ownsRow.stored h2 (A.length * 3 + 2) y.2.2.1
  rw [lcells_set3] at h3
  have hg := (g1.trans g2).trans g3
  refine ⟨by rw [hl2, hn]; exact h3, fun p hp => ?_, ?_⟩
  · rcases List.mem_append.1 hp with hp | hp
    · exact (h.bys p (List.mem_append_left _ hp)).by h hg
    · rcases List.mem_cons.1 hp with rfl | hp
      · exact hy.by h hg
      · exact (h.bys p (List.mem_append_right _ (List.mem_cons_of_mem _ hp))).by h hg
  · have ha := List.pairwise_append.1 h.alone
    have hb := List.pairwise_cons.1 ha.2.1
    refine List.pairwise_append.2 ⟨ha.1, List.pairwise_cons.2 ⟨fun q hq b h1 h2 => ?_, hb.2⟩, fun p hp q hq b k1 => ?_⟩
    · exact hal q (List.mem_append_right _ hq) b h2 h1
    · rcases List.mem_cons.1 hq with rfl | hq
      · exact hal p (List.mem_append_left _ hp) b k1
      · exact ha.2.2 p hp q (List.mem_cons_of_mem _ hq) b k1
end
end Go.Proofs.YtglfhmlcmffoaaaGreat

/-
  Images: the walk of Put. What the dump lacks is left out.
-/
namespace Go.Proofs.YtglfhmlcmffoaaaGreat
open Go.RowKit
set_option linter.unusedVariables false
set_option linter.unusedSimpArgs false

/-- The bytes of a level that is put: noughts, if there are none. -/
def fillB (n : Nat) (xs : List Int) : List Int := if xs.length = 0 then List.replicate n 0 else xs
/-- Levels, one being put. -/
def putL (A : List Lev) (k : Nat) (x : Lev) : List Lev := (A ++ List.replicate (k + 1 - A.length) noLev).set k x
/-- What becomes of an image. -/
def putI (I : Img) (lv f W H : Int) (bs : List Int) : Img :=
  if putE I lv f W H bs.length = 0 then ⟨f, putL (if f = I.f then I.L else []) lv.toNat (W, H, fillB (W * H * sizI f).toNat bs), I.ws, I.wt, I.mn, I.mg⟩ else zimg

theorem putE_zero {I : Img} {lv f W H : Int} {n : Nat} (h : putE I lv f W H n = 0) : okB (sizI I.f) I = true ∧ (0 ≤ lv ∧ lv < 7) ∧ sizI f ≠ 0 ∧ (1 ≤ W ∧ W ≤ 64) ∧ (1 ≤ H ∧ H ≤ 64) ∧ (n = 0 ∨ (n : Int) = W * H * sizI f) := by
  unfold putE at h
  cases hok : okB (sizI I.f) I with
  | false =>
    rw [if_pos hok] at h
    simp at h
  | true =>
    rw [if_neg (by rw [hok]; simp)] at h
    by_cases h1 : lv < 0 ∨ 7 ≤ lv ∨ sizI f = 0 ∨ sideB W = false ∨ sideB H = false
    · rw [if_pos h1] at h
      simp at h
    · rw [if_neg h1] at h
      have hw : sideB W = true := by
        cases e : sideB W with
        | true => rfl
        | false => exact absurd (.inr (.inr (.inr (.inl e)))) h1
      have hh : sideB H = true := by
        cases e : sideB H with
        | true => rfl
        | false => exact absurd (.inr (.inr (.inr (.inr e)))) h1
      refine ⟨rfl, by omega, fun e => h1 (.inr (.inr (.inl e))), sideB_iff.1 hw, sideB_iff.1 hh, ?_⟩
      by_cases h2 : n ≠ 0 ∧ (n : Int) ≠ W * H * sizI f
      · rw [if_pos h2] at h
        simp at h
      · by_cases h3 : n = 0
        · exact .inl h3
        · exact .inr (Classical.byContradiction fun h4 => h2 ⟨h3, h4⟩)

def zcells : Array Value := #[.int .i64 0, .slice none 0 0, .int .i64 0, .int .i64 0, .int .i64 0, .int .i64 0]
/-- How far Put has come: the image under way in block Y, the level that was handed in, the result's block. -/
structure PutS (w wr : World) (base Y : Nat) (J : Img) (W H : Int) (vb : Value) (ao : Option Addr) (cap : Nat) (D : List Ent) : Prop where
  blk : Blk wr Y #[.int .i64 J.f, .slice ao D.length cap, .int .i64 J.ws, .int .i64 J.wt, .int .i64 J.mn, .int .i64 J.mg] 112
  lo : LO wr base (.slice ao D.length cap) D
  lev : Blk wr (w.heap.size + 1) #[.int .i64 W, .int .i64 H, vb] 156
  res : Blk wr (w.heap.size + 1 + 1) #[.int .i64 0, .slice none 0 0, .int .i64 0, .int .i64 0, .int .i64 0, .int .i64 0] 112
  low : w.heap.size + 3 ≤ base ∧ w.heap.size + 3 ≤ Y
  ext : Ext w wr
theorem PutS.exts {w wr w' : World} {base Y : Nat} {J : Img} {W H : Int} {vb : Value} {ao : Option Addr} {cap : Nat} {D : List Ent} (h : PutS w wr base Y J W H vb ao cap D) (hx : Ext wr w') : PutS w w' base Y J W H vb ao cap D :=
  ⟨h.blk.ext hx, h.lo.ext hx, h.lev.ext hx, h.res.ext hx, h.low, h.ext.trans hx⟩
def zent : Ent := (0, 0, .slice none 0 0, [])
/-- An empty level is appended, and the row stored. -/
theorem PutS.more {w wr w5 : World} {base Y : Nat} {J : Img} {W H : Int} {vb : Value} {ao ao' : Option Addr} {cap cap' : Nat} {D : List Ent} {o : Obj} (h : PutS w wr base Y J W H vb ao cap D)
    (hown0 : w5.ownsRow base 156 3 (.slice ao' (D.length + 1) cap') (D.length + 1) (lcells (D ++ [zent]))) (hg : (wr.alloc o).grownBy w5 (Value.slice ao D.length cap).ownBlock) :
    w5.cell? ⟨Y, 1, none⟩ = some (.slice ao D.length cap) ∧ w5.frozen? ⟨Y, 1, none⟩ = false ∧ PutS w (w5.setCell ⟨Y, 1, none⟩ (.slice ao' (D.length + 1) cap')) base Y J W H vb ao' cap' (D ++ [zent]) := by
  have hown : w5.ownsRow base 156 3 (.slice ao' (D.length + 1) cap') (D ++ [zent]).length (lcells (D ++ [zent])) := by rw [show (D ++ [zent]).length = D.length + 1 by simp]; exact hown0
  have h1 := h.exts ((Ext.refl wr).alloc o)
  have hlo5 : LO w5 base (.slice ao' (D.length + 1) cap') (D ++ [zent]) := h1.lo.app hown hg (Own.nil _ _ _ _) (fun p hp b hb => by simp [zent, Value.ownBlock])
  have hb5 := h1.blk.by (by decide) h1.lo hg
  have hl5 := h1.lev.byL (by have := h.low.1; omega) h1.lo hg
  have hr5 := h1.res.by (by decide) h1.lo hg
  have hx5 : Ext w w5 := h1.ext.grown hg h1.ext.size (fun k e => by
    have h3 := (World.ownsRow.lt h1.lo.own k e).1
    have h4 := h.low.1
    omega)
  have hg6 := grownBy_set w5 Y 1 (.slice ao' (D.length + 1) cap')
  have hl : (D ++ [zent]).length = D.length + 1 := by simp
  refine ⟨hb5.six.2.1, hb5.free 1, ⟨?_, ?_, ?_, ?_, h.low, ?_⟩⟩
  · have := hb5.set 1 (.slice ao' (D.length + 1) cap')
    rw [hl]
    simpa using this
  · rw [hl]
    exact hlo5.grown hb5 ⟨by decide, by decide⟩ hg6
  · exact hl5.other (r := Y) _ _ (by have := h.low.2; omega)
  · exact hr5.other (r := Y) _ _ (by have := h.low.2; omega)
  · exact below_grown hx5 hg6 hx5.size (by have := h.low.2; omega)

theorem pad_end {A : List Lev} {D : List Ent} {j k : Nat} (h : absL D = A ++ List.replicate j noLev) (hj : j = 0 ∨ D.length ≤ k + 1) (hk : k < D.length) : absL D = A ++ List.replicate (k + 1 - A.length) noLev := by
  have hl := congrArg List.length h
  rw [absL_len, List.length_append, List.length_replicate] at hl
  rw [h]
  congr 2
  omega

theorem ext_set3 {w w1 : World} {b : Nat} {x0 x1 x2 : Value} (h : Ext w w1) (hb : w.heap.size ≤ b) : Ext w (((w1.setCell ⟨b, 0, none⟩ x0).setCell ⟨b, 1, none⟩ x1).setCell ⟨b, 2, none⟩ x2) :=
  below_grown h (((grownBy_set _ _ _ _).trans (grownBy_set _ _ _ _)).trans (grownBy_set _ _ _ _)) h.size hb
theorem grown_set3 (w : World) (b : Nat) (x0 x1 x2 : Value) : w.grownBy (((w.setCell ⟨b, 0, none⟩ x0).setCell ⟨b, 1, none⟩ x1).setCell ⟨b, 2, none⟩ x2) (some b) := ((grownBy_set _ _ _ _).trans (grownBy_set _ _ _ _)).trans (grownBy_set _ _ _ _)
theorem Blk.put3 {w : World} {b : Nat} {o0 o1 o2 : Value} {t : TypeId} (h : Blk w b #[o0, o1, o2] t) (a0 a1 a2 : Value) :
    Blk (((w.setCell ⟨b, 0, none⟩ a0).setCell ⟨b, 1, none⟩ a1).setCell ⟨b, 2, none⟩ a2) b #[a0, a1, a2] t := by
  have h1 := ((h.set 0 a0).set 1 a1).set 2 a2
  simpa using h1
theorem grown_set3L (w : World) (b i : Nat) (x0 x1 x2 : Value) : w.grownBy (((w.setCell ⟨b, i, none⟩ x0).setCell ⟨b, i + 1, none⟩ x1).setCell ⟨b, i + 2, none⟩ x2) (some b) := ((grownBy_set _ _ _ _).trans (grownBy_set _ _ _ _)).trans (grownBy_set _ _ _ _)
theorem ext_1 (w : World) (o : Obj) : Ext w (w.alloc o).drew := ((Ext.refl w).alloc o).drew
theorem ext_0 (w : World) : Ext w w.drew := (Ext.refl w).drew
theorem blk_1 (w : World) (cs : Array Value) (t : TypeId) {w' : World} (hx : Ext (w.alloc (.cells cs t)).drew w') : Blk w' w.heap.size cs t := Blk.ext (w := (w.alloc (.cells cs t)).drew) (Blk.new w cs t) hx
theorem blk_0 (w : World) (cs : Array Value) (t : TypeId) {w' : World} (hx : Ext (w.alloc (.cells cs t)) w') : Blk w' w.heap.size cs t := (Blk.new w cs t).ext hx
theorem size8 : (Tryz.prog.info? 5).map (·.size) = some 1 := by kernel_rfl
/-- 'copy' into a part of a row of the call's own. -/
theorem copy_in {w : World} {base g n c : Nat} {xs ys : List Int} (ho : Own .u8 w base 5 (.slice (some ⟨g, 0, none⟩) n c) xs) (p : Nat) (hp : p + ys.length ≤ xs.length) {bo : Option Addr} {bcap : Nat} (hr : Row .u8 w (.slice bo ys.length bcap) ys) (hne : 0 < ys.length) (cap2 : Nat) :
    ∃ w', (∀ ty, (Builtin.copy_ #[154, 154] ty #[.slice (some ⟨g, p, none⟩) ys.length cap2, .slice bo ys.length bcap]).run Tryz.prog w = .ok (goInt ys.length) w') ∧ Own .u8 w' base 5 (.slice (some ⟨g, 0, none⟩) n c) (layB xs p ys) ∧ w.grownBy w' (some g) := by
  have hl : n = xs.length := by obtain ⟨_, _, e⟩ := ho.shape; cases e; rfl
  subst hl
  obtain ⟨hlen, hown⟩ := ho
  rcases hown with ⟨e, _⟩ | ⟨g2, c2, cur, e, hbase, hblk, hnc, hccm, hsz, hcur⟩
  · cases e
  cases e
  obtain ⟨b, off, rfl, hc⟩ := hr.at 0 hne
  simp only [Nat.mul_one] at hsz hcur
  have hl2 : (ys.map (Value.int .u8)).length = ys.length := by simp
  have hrun := fun ty => run_copy_row (P := Tryz.prog) w 154 154 ty 5 g p ys.length cap2 ⟨b, off, none⟩ ys.length bcap cur 5 (ys.map (Value.int .u8)) Tryz.underlying154 size8 hblk (by simp)
    (by
      refine Row.news fun i hi => ?_
      rw [hc i hi]
      simp [hi]) (by rw [hl2, hsz]; omega) (ints_oneCell _ _)
  rw [hl2] at hrun
  refine ⟨_, hrun, ?_, ⟨rfl, rfl, rfl, by simp [World.setRow], fun k _ hk => setRow_other w g k _ (fun e => hk (by rw [e]))⟩⟩
  have hnew := setRow_heap w g cur (cur.toList.take p ++ ys.map (Value.int .u8) ++ cur.toList.drop (p + ys.length)).toArray 5 (0, 0) hblk
  have hlb := layB_len hp
  refine ⟨by simp, .inr ⟨g, c, _, by rw [hlb], hbase, hnew, by rw [hlb]; exact hnc, hccm, ?_, ?_⟩⟩
  · simp
    omega
  · rw [hlb, Nat.mul_one]
    unfold layB
    have e1 : cur.toList.take p = (xs.take p).map (Value.int .u8) := by
      rw [List.map_take, ← hcur, List.take_take, Nat.min_eq_left (by omega)]
    have e2 : (cur.toList.drop (p + ys.length)).take (xs.length - (p + ys.length)) = (xs.drop (p + ys.length)).map (Value.int .u8) := by
      rw [List.map_drop, ← hcur, List.drop_take]
    simp only [List.map_append, List.append_assoc]
    rw [e1, ← e2]
    have l1 : ((xs.take p).map (Value.int .u8)).length = p := by simp; omega
    rw [← List.append_assoc, List.take_append, List.take_of_length_le (by rw [List.length_append, l1, hl2]; omega), List.length_append, l1, hl2, List.append_assoc]
theorem blk_neU {w : World} {b g base n c : Nat} {cs : Array Value} {t : TypeId} {xs : List Int} (h : Blk w b cs t) (ht : t ≠ 5) (ho : Own .u8 w base 5 (.slice (some ⟨g, 0, none⟩) n c) xs) : b ≠ g := by
  intro e
  rcases ho.2 with ⟨e1, _⟩ | ⟨g2, c2, cur, e1, _, hg2, _⟩
  · cases e1
  · injection e1 with e2 _ _
    cases e2
    rw [← e, show w.heap[b]? = some (.cells cs t (0, 0)) from h] at hg2
    simp at hg2
    exact ht hg2.2
theorem own_neB {w : World} {base g : Nat} {cs : Array Value} {u : Value} {xs : List Int} (hB : Blk w g cs 156) (h : Own .u8 w base 5 u xs) : ∀ b, u.ownBlock = some b → b ≠ g := own_ne (cur := cs) hB h
/-- How many levels an image in memory has. -/
def lenAt (w : World) (Y : Nat) : Nat := match w.cell? ⟨Y, 1, none⟩ with | some (.slice _ n _) => n | _ => 0
theorem lenAt_of {w : World} {Y n cap : Nat} {ao : Option Addr} (h : w.cell? ⟨Y, 1, none⟩ = some (.slice ao n cap)) : lenAt w Y = n := by unfold lenAt; rw [h]

section
variable {w : World} {v : Value} {L : List Ent} {I : Img}

end
end Go.Proofs.YtglfhmlcmffoaaaGreat

/-
  Plain facts on means of pixels, and the levels that follow from one. Nothing here speaks of the program.
-/
namespace Go.Proofs.YtglfhmlcmffoaaaGreat
open Go.RowKit

/-- The sum of a channel of k bits from bit p on. -/
def chanS (p k : Nat) : List Int → Int
  | [] => 0
  | g :: r => g / 2 ^ p % 2 ^ k + chanS p k r
/-- The mean of a channel. -/
def chan (p k : Nat) (G : List Int) : Int := (chanS p k G + (G.length : Int) / 2) / (G.length : Int)
/-- The means of channels, as one number. -/
def meanN : List Nat → Nat → List Int → Int
  | [], _, _ => 0
  | k :: ks, p, G => chan p k G * 2 ^ p + meanN ks (p + k) G
/-- The channels of a format, the lowest first. -/
def chs8 (f : Int) : List Nat := if f = 1 then [8, 8, 8, 8] else if f = 2 then [5, 6, 5] else if f = 3 then [4, 4, 4, 4] else if f = 4 then [1, 5, 5, 5] else if f = 7 then [8, 8] else [8]

theorem chanS_snoc (p k : Nat) (G : List Int) (g : Int) : chanS p k (G ++ [g]) = chanS p k G + g / 2 ^ p % 2 ^ k := by
  induction G with
  | nil => simp [chanS]
  | cons x r ih => simp only [List.cons_append, chanS, ih]; omega
theorem two_pow_pos (k : Nat) : (1 : Int) ≤ 2 ^ k := by
  have h : 0 < 2 ^ k := Nat.pow_pos (by decide)
  have e : (2 : Int) ^ k = ((2 ^ k : Nat) : Int) := by simp
  omega
theorem chanS_bound (p k : Nat) (G : List Int) : 0 ≤ chanS p k G ∧ chanS p k G ≤ (G.length : Int) * (2 ^ k - 1) := by
  induction G with
  | nil => simp [chanS]
  | cons x r ih =>
    have h2 := two_pow_pos k
    have a := Int.emod_nonneg (x / 2 ^ p) (show (2 : Int) ^ k ≠ 0 by omega)
    have b := Int.emod_lt_of_pos (x / 2 ^ p) (show (0 : Int) < 2 ^ k by omega)
    simp only [chanS, List.length_cons]
    have e : ((r.length + 1 : Nat) : Int) * (2 ^ k - 1) = (r.length : Int) * (2 ^ k - 1) + (2 ^ k - 1) := by
      rw [Int.natCast_add, Int.add_mul]
      simp
    omega
theorem chan_bound (p k : Nat) (G : List Int) (hG : 0 < G.length) : 0 ≤ chan p k G ∧ chan p k G < 2 ^ k := by
  obtain ⟨a, b⟩ := chanS_bound p k G
  have h2 := two_pow_pos k
  unfold chan
  refine ⟨Int.ediv_nonneg (by omega) (by omega), ?_⟩
  refine Int.ediv_lt_of_lt_mul (by omega) ?_
  have e : (2 : Int) ^ k * (G.length : Int) = (G.length : Int) * (2 ^ k - 1) + (G.length : Int) := by
    rw [Int.mul_sub, Int.mul_one, Int.mul_comm]
    omega
  rw [e]
  omega
theorem meanN_snoc (ks : List Nat) (k p : Nat) (G : List Int) : meanN (ks ++ [k]) p G = meanN ks p G + chan (p + ks.sum) k G * 2 ^ (p + ks.sum) := by
  induction ks generalizing p with
  | nil => simp [meanN]
  | cons x r ih =>
    simp only [List.cons_append, meanN, ih, List.sum_cons]
    rw [Nat.add_assoc, Int.add_assoc]
theorem meanN_bound (ks : List Nat) (p : Nat) (G : List Int) (hG : 0 < G.length) : 0 ≤ meanN ks p G ∧ meanN ks p G ≤ 2 ^ (p + ks.sum) - 2 ^ p := by
  induction ks generalizing p with
  | nil => simp [meanN]
  | cons k r ih =>
    obtain ⟨a, b⟩ := ih (p + k)
    obtain ⟨c, d⟩ := chan_bound p k G hG
    have h2 := two_pow_pos p
    simp only [meanN, List.sum_cons]
    rw [show p + (k + r.sum) = p + k + r.sum by omega]
    have e : (2 : Int) ^ (p + k) = 2 ^ k * 2 ^ p := by rw [Int.pow_add, Int.mul_comm]
    have h3 : chan p k G * 2 ^ p ≤ (2 ^ k - 1) * 2 ^ p := Int.mul_le_mul_of_nonneg_right (by omega) (by omega)
    have h4 : 0 ≤ chan p k G * 2 ^ p := Int.mul_nonneg c (by omega)
    rw [Int.sub_mul, Int.one_mul, ← e] at h3
    omega
theorem meanN_lt (ks : List Nat) (G : List Int) (hG : 0 < G.length) : 0 ≤ meanN ks 0 G ∧ meanN ks 0 G < 2 ^ ks.sum := by
  have h := meanN_bound ks 0 G hG
  rw [Nat.zero_add] at h
  simp at h
  omega

/-! ### Pixels that follow -/
/-- The pixels of which the one at x, y is the mean. -/
def grp (s W H : Nat) (xs : List Int) (x y : Nat) : List (List Int) := (List.range (min 2 W * min 2 H)).map fun k => cellL s xs (pq W (2 * x) (2 * y) (min 2 W) k)
/-- The mean of pixels, as bytes. -/
def meanB (ks : List Nat) (s : Nat) (G : List (List Int)) : List Int := low (meanN ks 0 (G.map numOf)) s
def hN (n : Nat) : Nat := max 1 (n / 2)
theorem hN_half (n : Nat) : ((hN n : Nat) : Int) = half (n : Int) := by unfold hN half; omega
/-- The bytes of the first j pixels that follow. -/
def nb (ks : List Nat) (s W H : Nat) (xs : List Int) : Nat → List Int
  | 0 => []
  | j + 1 => nb ks s W H xs j ++ meanB ks s (grp s W H xs (j % hN W) (j / hN W))
theorem nb_len (ks : List Nat) (s W H : Nat) (xs : List Int) (j : Nat) : (nb ks s W H xs j).length = j * s := by
  induction j with
  | zero => simp [nb]
  | succ j ih => rw [nb, List.length_append, ih, meanB, low_length, Nat.succ_mul]
theorem nb_byt (ks : List Nat) (s W H : Nat) (xs : List Int) (j : Nat) : Byt (nb ks s W H xs j) := by
  induction j with
  | zero => intro x hx; cases hx
  | succ j ih => exact ih.append (low_byt _ _)
/-- The level that follows. -/
def nxt (ks : List Nat) (s : Nat) (l : Lev) : Lev := (half l.1, half l.2.1, nb ks s l.1.toNat l.2.1.toNat l.2.2 (hN l.1.toNat * hN l.2.1.toNat))
def itL (ks : List Nat) (s : Nat) (l : Lev) : Nat → Lev
  | 0 => l
  | n + 1 => nxt ks s (itL ks s l n)
/-- A level and the n that follow. -/
def chn (ks : List Nat) (s : Nat) (l : Lev) (n : Nat) : List Lev := (List.range (n + 1)).map (itL ks s l)
theorem chn_len (ks : List Nat) (s : Nat) (l : Lev) (n : Nat) : (chn ks s l n).length = n + 1 := by simp [chn]
theorem chn_succ (ks : List Nat) (s : Nat) (l : Lev) (n : Nat) : chn ks s l (n + 1) = chn ks s l n ++ [nxt ks s (itL ks s l n)] := by
  unfold chn
  rw [List.range_succ, List.map_append]
  rfl
theorem chn_zero (ks : List Nat) (s : Nat) (l : Lev) : chn ks s l 0 = [l] := rfl
theorem chn_get (ks : List Nat) (s : Nat) (l : Lev) (n i : Nat) (h : i < n + 1) : (chn ks s l n)[i]'(by rw [chn_len]; exact h) = itL ks s l i := by simp [chn]
theorem itL_w (ks : List Nat) (s : Nat) (l : Lev) (n : Nat) : (itL ks s l n).1 = halfs l.1 n ∧ (itL ks s l n).2.1 = halfs l.2.1 n := by
  induction n with
  | zero => exact ⟨rfl, rfl⟩
  | succ n ih =>
    unfold itL nxt halfs
    rw [ih.1, ih.2]
    exact ⟨rfl, rfl⟩
theorem itL_byt {ks : List Nat} {s : Nat} {l : Lev} (h : Byt l.2.2) (n : Nat) : Byt (itL ks s l n).2.2 := by
  cases n with
  | zero => exact h
  | succ n => exact nb_byt _ _ _ _ _ _
theorem itL_good {ks : List Nat} {s : Nat} {l : Lev} (h : goodB s l = true) (n : Nat) : goodB s (itL ks s l n) = true := by
  induction n with
  | zero => exact h
  | succ n ih =>
    obtain ⟨a, b, c⟩ := goodB_iff.1 ih
    refine goodB_iff.2 ⟨half_side a, half_side b, ?_⟩
    show ((nb _ _ _ _ _ _).length : Int) = half _ * half _ * _
    have e1 : half (itL ks s l n).1 = ((hN (itL ks s l n).1.toNat : Nat) : Int) := by rw [hN_half, Int.toNat_of_nonneg (by omega)]
    have e2 : half (itL ks s l n).2.1 = ((hN (itL ks s l n).2.1.toNat : Nat) : Int) := by rw [hN_half, Int.toNat_of_nonneg (by omega)]
    rw [nb_len, e1, e2]
    simp
/-- A pixel laid behind those that are. -/
theorem lay_nb (A ys : List Int) (m : Nat) : layB (A ++ List.replicate m 0) A.length ys = A ++ ys ++ List.replicate (m - ys.length) 0 := by
  unfold layB
  rw [List.take_left, List.drop_append, List.drop_of_length_le (by omega), List.nil_append, Nat.add_sub_cancel_left, List.drop_replicate]
theorem grp_len (s W H : Nat) (xs : List Int) (x y : Nat) : (grp s W H xs x y).length = min 2 W * min 2 H := by simp [grp]
theorem grp_pos {s W H : Nat} {xs : List Int} {x y : Nat} (hW : 1 ≤ W) (hH : 1 ≤ H) : 0 < (grp s W H xs x y).length := by
  rw [grp_len]
  exact Nat.mul_pos (by omega) (by omega)

/-! ### Bits -/
/-- One more bit, above all that are set. -/
theorem low_bit (N : Int) (q n : Nat) (h0 : 0 ≤ N) (hN : N < 2 ^ q) (hq : q < 8 * n) : low (N + 2 ^ q) n = (low N n).set (q / 8) ((low N n).getD (q / 8) 0 + 2 ^ (q % 8)) ∧ 0 ≤ (low N n).getD (q / 8) 0 ∧ (low N n).getD (q / 8) 0 + 2 ^ (q % 8) < 256 := by
  induction n generalizing N q with
  | zero => omega
  | succ n ih =>
    by_cases hq8 : q < 8
    · have e1 : q / 8 = 0 := Nat.div_eq_of_lt hq8
      have e2 : q % 8 = q := Nat.mod_eq_of_lt hq8
      rw [e1, e2]
      have hb : (2 : Int) ^ q ≤ 128 := by
        rcases (by omega : q = 0 ∨ q = 1 ∨ q = 2 ∨ q = 3 ∨ q = 4 ∨ q = 5 ∨ q = 6 ∨ q = 7) with rfl | rfl | rfl | rfl | rfl | rfl | rfl | rfl <;> decide
      have hm : N % 256 = N := Int.emod_eq_of_lt h0 (by omega)
      have hm2 : (N + 2 ^ q) % 256 = N + 2 ^ q := Int.emod_eq_of_lt (by have := two_pow_pos q; omega) (by omega)
      have hd : N / 256 = 0 := Int.ediv_eq_zero_of_lt h0 (by omega)
      have hd2 : (N + 2 ^ q) / 256 = 0 := Int.ediv_eq_zero_of_lt (by have := two_pow_pos q; omega) (by omega)
      simp only [low, hm, hm2, hd, hd2, List.set_cons_zero, List.getD_cons_zero]
      exact ⟨trivial, h0, by omega⟩
    · obtain ⟨p, rfl⟩ : ∃ p, q = p + 8 := ⟨q - 8, by omega⟩
      have e1 : (p + 8) / 8 = p / 8 + 1 := by omega
      have e2 : (p + 8) % 8 = p % 8 := by omega
      have e3 : (2 : Int) ^ (p + 8) = 2 ^ p * 256 := by rw [Int.pow_add]; rfl
      rw [e1, e2]
      have hN2 : N / 256 < 2 ^ p := Int.ediv_lt_of_lt_mul (by omega) (by rw [← e3]; exact hN)
      obtain ⟨i1, i2, i3⟩ := ih (N / 256) p (by omega) hN2 (by omega)
      have hm : (N + 2 ^ (p + 8)) % 256 = N % 256 := by rw [e3]; exact Int.add_mul_emod_self_right _ _ _
      have hd : (N + 2 ^ (p + 8)) / 256 = N / 256 + 2 ^ p := by rw [e3]; exact Int.add_mul_ediv_right _ _ (by omega)
      simp only [low, hm, hd, List.set_cons_succ, List.getD_cons_succ]
      exact ⟨by rw [i1], i2, i3⟩
theorem mod_next (m : Int) (i : Nat) : m % 2 ^ (i + 1) = m % 2 ^ i + 2 ^ i * (m / 2 ^ i % 2) := by
  have e : (2 : Int) ^ (i + 1) = 2 ^ i * 2 := Int.pow_succ _ _
  have h2 := two_pow_pos i
  rw [e]
  have h1 := Int.mul_ediv_add_emod m (2 ^ i)
  have h3 := Int.mul_ediv_add_emod (m / 2 ^ i) 2
  have h4 := Int.mul_ediv_add_emod m (2 ^ i * 2)
  have h5 : m / (2 ^ i * 2) = m / 2 ^ i / 2 := (Int.ediv_ediv_of_nonneg (by omega)).symm
  rw [h5] at h4
  generalize m / 2 ^ i = x at *
  generalize x % 2 = y at *
  generalize x / 2 = z at *
  generalize (2 : Int) ^ i = P at *
  subst h3
  have e6 : P * 2 * z = P * (2 * z) := by rw [Int.mul_assoc]
  rw [e6] at h4
  rw [Int.mul_add] at h1
  omega
theorem emod_two (x a b : Int) (ha : 0 ≤ a) : x % (a * b) = x % a + a * (x / a % b) := by
  have h1 := Int.mul_ediv_add_emod x a
  have h3 := Int.mul_ediv_add_emod (x / a) b
  have h4 := Int.mul_ediv_add_emod x (a * b)
  have h5 : x / (a * b) = x / a / b := (Int.ediv_ediv_of_nonneg ha).symm
  rw [h5] at h4
  generalize x / a = y at *
  generalize y % b = u at *
  generalize y / b = z at *
  subst h3
  rw [Int.mul_assoc] at h4
  rw [Int.mul_add] at h1
  omega
/-- A mean of pixels all of which are the same. -/
theorem chanS_same (p k : Nat) (c : Int) (n : Nat) : chanS p k (List.replicate n c) = n * (c / 2 ^ p % 2 ^ k) := by
  induction n with
  | zero => simp [chanS]
  | succ n ih =>
    rw [List.replicate_succ, chanS, ih, Int.natCast_add, Int.add_mul]
    simp
    omega
theorem chan_same (p k : Nat) (c : Int) (n : Nat) (hn : 0 < n) : chan p k (List.replicate n c) = c / 2 ^ p % 2 ^ k := by
  unfold chan
  rw [chanS_same, List.length_replicate, Int.add_comm, Int.add_mul_ediv_left _ _ (by omega), Int.ediv_eq_zero_of_lt (by omega) (by omega), Int.zero_add]
theorem meanN_same (ks : List Nat) (c : Int) (p n : Nat) (hn : 0 < n) : meanN ks p (List.replicate n c) = c / 2 ^ p % 2 ^ ks.sum * 2 ^ p := by
  induction ks generalizing p with
  | nil => simp [meanN]
  | cons k r ih =>
    rw [meanN, ih, chan_same _ _ _ _ hn, List.sum_cons]
    have e1 : (2 : Int) ^ (p + k) = 2 ^ p * 2 ^ k := Int.pow_add _ _ _
    have e2 : (2 : Int) ^ (k + r.sum) = 2 ^ k * 2 ^ r.sum := Int.pow_add _ _ _
    have hp := two_pow_pos p
    have hk := two_pow_pos k
    rw [e1, e2, ← Int.ediv_ediv_of_nonneg (by omega)]
    generalize c / 2 ^ p = x
    have h1 := Int.mul_ediv_add_emod x (2 ^ k)
    have h2 : x % (2 ^ k * 2 ^ r.sum) = x % 2 ^ k + 2 ^ k * (x / 2 ^ k % 2 ^ r.sum) := emod_two x _ _ (by omega)
    rw [h2, Int.add_mul]
    congr 1
    generalize x / 2 ^ k % 2 ^ r.sum = y
    generalize (2 : Int) ^ k = K
    generalize (2 : Int) ^ p = P
    rw [Int.mul_comm P K, ← Int.mul_assoc, Int.mul_comm y K]
end Go.Proofs.YtglfhmlcmffoaaaGreat
