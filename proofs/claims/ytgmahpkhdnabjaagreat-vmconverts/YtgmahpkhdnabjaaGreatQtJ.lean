/- Several texts in one. -/
import Derived.Test.YtgmahpkhdnabjaaGreatLemJ
import Derived.BigQuiet
import Derived.Test.YtgmahpkhdnabjaaGreatIT
import Derived.Deep.RegionHeld3
import Derived.Deep.RegionLaw
/-
  A region that draws its order, whose operations only read, and whose callees read and make new blocks: one walk of the text's order serves every order. Nothing here speaks of the program.
-/
namespace Go.Proofs.YtgmahpkhdnabjaaGreat
open Go.RowKit

/-- The worlds in which all that lay in w lies as it did. -/
def Later (w : World) : Type := { w' : World // Ext w w' }
def Later.w {w : World} (x : Later w) : World := x.1
theorem Later.ext {w : World} (x : Later w) : Ext w x.w := x.2
theorem Later.some (w : World) : Nonempty (Later w) := ⟨⟨w, Ext.refl w⟩⟩

theorem wp_region_later {P : Program} {id : Nat} {Q : Exit → Act → World → Prop} {a : Act} {w : World} {l : List Oper} (hm : P.follows .mixedOrders = true) (hB : Region.lexB .any l.toArray = true)
    (h : wpQuiet P l.toArray (fun w' => ∃ x : Later w, w' = x.w) (fun a' => ∀ w', (∃ x : Later w, w' = x.w) → Q .normal a' w') l a) : (Code.region id l.toArray true).wp P Q a w :=
  wp_region_quiet (C := fun w' => ∃ x : Later w, w' = x.w) hm hB ⟨⟨w.drew, (Ext.refl w).drew⟩, rfl⟩ (by simpa using h)

theorem calls_later {P : Program} {f : FuncId} {args : Array Value} {w : World} {x : Later w} {v : Value} (h : Calls P f args x.w fun e w' => e = .returned v ∧ Ext x.w w') :
    Calls P f args x.w fun e w'' => e = .returned v ∧ ∃ y : Later w, w'' = y.w :=
  h.mono fun _ w' ⟨he, hx⟩ => ⟨he, ⟨w', x.ext.trans hx⟩, rfl⟩

/-- What a cell holds in w it holds later. -/
theorem cell_later {w : World} {p : Addr} {v : Value} (h : w.cell? p = some v) (x : Later w) : x.w.cell? p = some v := by
  rw [x.ext.cell (p := p) (World.block_lt_of_cell? w p h)]
  exact h
end Go.Proofs.YtgmahpkhdnabjaaGreat

/-
  Images: the walk of Check.
-/
namespace Go.Proofs.YtgmahpkhdnabjaaGreat
open Go.RowKit
set_option linter.unusedVariables false
set_option linter.unusedSimpArgs false

theorem Blk.six {w : World} {b : Nat} {a0 a1 a2 a3 a4 a5 : Value} {t : TypeId} (h : Blk w b #[a0, a1, a2, a3, a4, a5] t) :
    w.cell? ⟨b, 0, none⟩ = some a0 ∧ w.cell? ⟨b, 1, none⟩ = some a1 ∧ w.cell? ⟨b, 2, none⟩ = some a2 ∧ w.cell? ⟨b, 3, none⟩ = some a3 ∧ w.cell? ⟨b, 4, none⟩ = some a4 ∧ w.cell? ⟨b, 5, none⟩ = some a5 :=
  ⟨h.cell (i := 0) rfl, h.cell (i := 1) rfl, h.cell (i := 2) rfl, h.cell (i := 3) rfl, h.cell (i := 4) rfl, h.cell (i := 5) rfl⟩
theorem Blk.four {w : World} {b : Nat} {a0 a1 a2 a3 : Value} {t : TypeId} (h : Blk w b #[a0, a1, a2, a3] t) :
    w.cell? ⟨b, 0, none⟩ = some a0 ∧ w.cell? ⟨b, 1, none⟩ = some a1 ∧ w.cell? ⟨b, 2, none⟩ = some a2 ∧ w.cell? ⟨b, 3, none⟩ = some a3 :=
  ⟨h.cell (i := 0) rfl, h.cell (i := 1) rfl, h.cell (i := 2) rfl, h.cell (i := 3) rfl⟩
theorem Blk.three {w : World} {b : Nat} {a0 a1 a2 : Value} {t : TypeId} (h : Blk w b #[a0, a1, a2] t) :
    w.cell? ⟨b, 0, none⟩ = some a0 ∧ w.cell? ⟨b, 1, none⟩ = some a1 ∧ w.cell? ⟨b, 2, none⟩ = some a2 :=
  ⟨h.cell (i := 0) rfl, h.cell (i := 1) rfl, h.cell (i := 2) rfl⟩

theorem siz_bd (f : Int) : 0 ≤ sizI f ∧ sizI f ≤ 4 := by
  unfold sizI
  repeat' split
  all_goals omega
/-- What Check answers. -/
def chkE (I : Img) : Int := if okB (sizI I.f) I = true then 0 else 180
theorem chkE_no {I : Img} (h : ¬ okB (sizI I.f) I = true) : chkE I = 180 := if_neg h
theorem chkE_yes {I : Img} (h : okB (sizI I.f) I = true) : chkE I = 0 := if_pos h

section
variable {w : World} {v : Value} {L : List Ent} {I : Img}
set_option maxRecDepth 10000 in
set_option maxHeartbeats 4000000 in
theorem check_any (h : LR w v L) (hL : L.length ≤ 4000000000000) (hA : I.L = absL L) :
    Calls Tryz.prog 128 #[.agg #[.int .i64 I.f, v, .int .i64 I.ws, .int .i64 I.wt, .int .i64 I.mn, .int .i64 I.mg]] w fun e w' => e = .returned (.int .i64 (chkE I)) ∧ Ext w w' := by
  obtain ⟨ao, cap, rfl, hao, hlc, hcm, _⟩ := h.shape
  have hcm2 : cap ≤ 9223372036854775807 := by unfold maxLen at hcm; omega
  have hal : I.L.length = L.length := by rw [hA, absL_len]
  have HA := hide hA
  have HAL := hide hal
  have HH := hide h
  have hX1 := (Ext.refl w).alloc (.cells #[.int .i64 I.f, .slice ao L.length cap, .int .i64 I.ws, .int .i64 I.wt, .int .i64 I.mn, .int .i64 I.mg] 117)
  have hB1 := Blk.new w #[.int .i64 I.f, .slice ao L.length cap, .int .i64 I.ws, .int .i64 I.wt, .int .i64 I.mn, .int .i64 I.mg] 117
  have HX1 := hide hX1
  have HB1 := hide hB1
  have m0 := cell_later hB1.six.1
  have m1 := cell_later hB1.six.2.1
  have hne := Later.some (w.alloc (.cells #[.int .i64 I.f, .slice ao L.length cap, .int .i64 I.ws, .int .i64 I.wt, .int .i64 I.mn, .int .i64 I.mg] 117))
  clear h hA hal hao hcm hX1 hB1
  go_enter Tryz.func128, Tryz.ntmps128
  go_wp2
  refine wp_region_later (by kernel_rfl) (by kernel_rfl) ?_
  repeat (go_big_quiet_step (first | (go_at_call 168; refine calls_later (size_any _ _))))
  refine wpQuiet_nil ?_
  rintro _ ⟨x, rfl⟩
  have hx2 := x.ext
  generalize x.w = w2 at hx2 ⊢
  clear x m0 m1 hne
  have HX2 := hide ((unhide HX1).trans hx2)
  have HB2 := hide ((unhide HB1).ext hx2)
  clear HX1 HB1 hx2
  obtain ⟨q0, q1, q2, q3, q4, q5⟩ := (unhide HB2).six
  have HS := hide (siz_bd I.f)
  have HE : Hid (∀ h : ¬ okB (sizI I.f) I = true, chkE I = 180) := fun h => chkE_no h
  have HE2 : Hid (∀ h : okB (sizI I.f) I = true, chkE I = 0) := fun h => chkE_yes h
  have hs1 := (unhide HS).1
  have hs2 := (unhide HS).2
  obtain ⟨s, hs⟩ : ∃ s, s = sizI I.f := ⟨_, rfl⟩
  rw [← hs] at HS HE HE2 hs1 hs2 ⊢
  clear hs
  by_cases a1 : L.length = 0 ∧ I.f ≠ 0
  · have b1 : ((L.length : Int) == 0) = true := by rw [beq_iff_eq]; omega
    have b2 : (I.f != 0) = true := by simp [a1.2]
    have E := hide (unhide HE (fun hok => a1.2 ((okB_iff.1 hok).2.1 (by rw [unhide HAL]; exact a1.1))))
    clear a1
    go_wp2
    go_ret
    rw [unhide E]
    exact ⟨rfl, unhide HX2⟩
  have A1 : Hid (((L.length : Int) == 0) = false ∨ ((L.length : Int) == 0) = true ∧ (I.f != 0) = false) := by
    show _ ∨ _
    by_cases h0 : L.length = 0
    · refine .inr ⟨by rw [beq_iff_eq]; omega, ?_⟩
      have : I.f = 0 := Classical.byContradiction fun h => a1 ⟨h0, h⟩
      simp [this]
    · exact .inl (by rw [beq_eq_false_iff_ne]; omega)
  have A1' := hide a1
  clear a1
  by_cases a2 : 7 < L.length
  · have b0 : ((L.length : Int) == 0) = false := by rw [beq_eq_false_iff_ne]; omega
    have b1 : (7 : Int) < (L.length : Int) := by omega
    have E := hide (unhide HE (fun hok => by have := (okB_iff.1 hok).1; rw [unhide HAL] at this; omega))
    clear a2
    go_wp2
    go_ret
    rw [unhide E]
    exact ⟨rfl, unhide HX2⟩
  have b7 : (L.length : Int) ≤ 7 := by omega
  have HL2 := hide ((unhide HH).ext (unhide HX2))
  have HWR := hide (wrongAt_all s (absL L))
  have HWL := hide (wrongAt_le s (absL L))
  rw [absL_len] at HWL HWR
  have hfw := firstWrong_any (unhide HL2) (by omega) s (unhide HS)
  have HFW := hide hfw
  clear hfw
  have hwl := unhide HWL
  obtain ⟨fw, hfwe⟩ : ∃ fw, fw = wrongAt s (absL L) := ⟨_, rfl⟩
  rw [← hfwe] at HFW HWR hwl
  clear hfwe HWL
  by_cases a3 : fw < L.length
  · have b3 : (fw : Int) < (L.length : Int) := by omega
    have b0 : ((L.length : Int) == 0) = false := by rw [beq_eq_false_iff_ne]; omega
    have E := hide (unhide HE (fun hok => by
      have h3 := (okB_iff.1 hok).2.2.1
      rw [unhide HA] at h3
      have := (unhide HWR).2 h3
      omega))
    clear a2 a3
    go_wp2_with fail
    refine (unhide HFW).mono ?_
    rintro e w3 ⟨rfl, hx3⟩
    have HX3 := hide ((unhide HX2).trans hx3)
    clear hx3
    go_wp2
    go_ret
    rw [unhide E]
    exact ⟨rfl, unhide HX3⟩
  obtain rfl : fw = L.length := by omega
  have HAll := hide ((unhide HWR).1 rfl)
  clear HWR a2 a3 hwl
  have T1 := hide (takes_any 1 I.ws)
  have T2 := hide (takes_any 2 I.wt)
  have T3 := hide (takes_any 3 I.mn)
  have T4 := hide (takes_any 4 I.mg)
  have HV : Hid (okB s I = true ↔ (0 < L.length → s ≠ 0 ∧ hasB (absL L) ((L.length : Int) - 1) = true) ∧ valB 1 I.ws = true ∧ valB 2 I.wt = true ∧ valB 3 I.mn = true ∧ valB 4 I.mg = true) := by
    show _ ↔ _
    rw [okB_iff, unhide HAL, unhide HA]
    constructor
    · intro h
      exact h.2.2.2
    · intro h
      exact ⟨by omega, fun h0 => Classical.byContradiction fun h1 => unhide A1' ⟨h0, h1⟩, unhide HAll, h⟩
  generalize valB 1 I.ws = t1 at *
  generalize valB 2 I.wt = t2 at *
  generalize valB 3 I.mn = t3 at *
  generalize valB 4 I.mg = t4 at *
  -- from the third test on, in the world w3
  rcases (by omega : L.length = 0 ∨ 0 < L.length) with h0 | h0
  · have b0 : ((L.length : Int) == 0) = true := by rw [beq_iff_eq]; omega
    have b1 : (I.f != 0) = false := by
      rcases unhide A1 with h | h
      · rw [h] at b0; cases b0
      · exact h.2
    have b2 : ¬ (0 : Int) < (L.length : Int) := by omega
    have b3 : ¬ (L.length : Int) < (L.length : Int) := by omega
    have HV2 : Hid (okB s I = true ↔ t1 = true ∧ t2 = true ∧ t3 = true ∧ t4 = true) := by
      show _ ↔ _
      rw [unhide HV]
      exact ⟨fun h => h.2, fun h => ⟨fun h1 => by omega, h⟩⟩
    clear HV A1 A1' h0
    go_wp2_with fail
    refine (unhide HFW).mono ?_
    rintro e w3 ⟨rfl, hx3⟩
    have HX3 := hide ((unhide HX2).trans hx3)
    obtain ⟨q0, q1, q2, q3, q4, q5⟩ := ((unhide HB2).ext hx3).six
    clear hx3
    go_wp2_with fail
    refine (unhide T1 _).mono ?_
    rintro e w4 ⟨rfl, rfl⟩
    cases t1 with
    | false =>
      have E := hide (unhide HE (fun hok => by have := (unhide HV2).1 hok; simp at this))
      go_wp2
      go_ret
      rw [unhide E]
      exact ⟨rfl, unhide HX3⟩
    | true =>
      go_wp2_with fail
      refine (unhide T2 _).mono ?_
      rintro e w4 ⟨rfl, rfl⟩
      cases t2 with
      | false =>
        have E := hide (unhide HE (fun hok => by have := (unhide HV2).1 hok; simp at this))
        go_wp2
        go_ret
        rw [unhide E]
        exact ⟨rfl, unhide HX3⟩
      | true =>
        go_wp2_with fail
        refine (unhide T3 _).mono ?_
        rintro e w4 ⟨rfl, rfl⟩
        cases t3 with
        | false =>
          have E := hide (unhide HE (fun hok => by have := (unhide HV2).1 hok; simp at this))
          go_wp2
          go_ret
          rw [unhide E]
          exact ⟨rfl, unhide HX3⟩
        | true =>
          go_wp2_with fail
          refine (unhide T4 _).mono ?_
          rintro e w4 ⟨rfl, rfl⟩
          cases t4 with
          | false =>
            have E := hide (unhide HE (fun hok => by have := (unhide HV2).1 hok; simp at this))
            go_wp2
            go_ret
            rw [unhide E]
            exact ⟨rfl, unhide HX3⟩
          | true =>
            have E := hide (unhide HE2 ((unhide HV2).2 (by simp)))
            go_wp2
            go_ret
            rw [unhide E]
            exact ⟨rfl, unhide HX3⟩
  · have b0 : ((L.length : Int) == 0) = false := by rw [beq_eq_false_iff_ne]; omega
    have b2 : (0 : Int) < (L.length : Int) := by omega
    have b3 : ¬ (L.length : Int) < (L.length : Int) := by omega
    have HV2 : Hid (okB s I = true ↔ (s ≠ 0 ∧ hasB (absL L) ((L.length : Int) - 1) = true) ∧ t1 = true ∧ t2 = true ∧ t3 = true ∧ t4 = true) := by
      show _ ↔ _
      rw [unhide HV]
      exact ⟨fun h => ⟨h.1 h0, h.2⟩, fun h => ⟨fun _ => h.1, h.2⟩⟩
    clear HV A1 A1' h0
    go_wp2_with fail
    refine (unhide HFW).mono ?_
    rintro e w3 ⟨rfl, hx3⟩
    have HX3 := hide ((unhide HX2).trans hx3)
    have HL3 := hide ((unhide HL2).ext hx3)
    have HB3 := hide ((unhide HB2).ext hx3)
    obtain ⟨q0, q1, q2, q3, q4, q5⟩ := (unhide HB3).six
    clear hx3
    by_cases hs0 : s = 0
    · have c1 : (s == 0) = true := by simp [hs0]
      have E := hide (unhide HE (fun hok => ((unhide HV2).1 hok).1.1 hs0))
      clear hs0
      go_wp2
      go_ret
      rw [unhide E]
      exact ⟨rfl, unhide HX3⟩
    have c1 : (s == 0) = false := by simp [hs0]
    have HS0 := hide hs0
    clear hs0
    have HHA := hide (has_any (I := I) (unhide HL3) ((L.length : Int) - 1))
    generalize hasB (absL L) ((L.length : Int) - 1) = hb at *
    go_wp2_with fail
    refine (unhide HHA).mono ?_
    rintro e w4 ⟨rfl, hx4⟩
    have HX4 := hide ((unhide HX3).trans hx4)
    have HB4 := hide ((unhide HB3).ext hx4)
    clear q0 q1 q2 q3 q4 q5 HX3 HL3 HB3 HHA hx4
    obtain ⟨q0, q1, q2, q3, q4, q5⟩ := (unhide HB4).six
    cases hb with
    | false =>
      have E := hide (unhide HE (fun hok => by have := (unhide HV2).1 hok; simp at this))
      go_wp2
      go_ret
      rw [unhide E]
      exact ⟨rfl, unhide HX4⟩
    | true =>
      go_wp2_with fail
      refine (unhide T1 _).mono ?_
      rintro e w5 ⟨rfl, rfl⟩
      cases t1 with
      | false =>
        have E := hide (unhide HE (fun hok => by have := (unhide HV2).1 hok; simp at this))
        go_wp2
        go_ret
        rw [unhide E]
        exact ⟨rfl, unhide HX4⟩
      | true =>
        go_wp2_with fail
        refine (unhide T2 _).mono ?_
        rintro e w5 ⟨rfl, rfl⟩
        cases t2 with
        | false =>
          have E := hide (unhide HE (fun hok => by have := (unhide HV2).1 hok; simp at this))
          go_wp2
          go_ret
          rw [unhide E]
          exact ⟨rfl, unhide HX4⟩
        | true =>
          go_wp2_with fail
          refine (unhide T3 _).mono ?_
          rintro e w5 ⟨rfl, rfl⟩
          cases t3 with
          | false =>
            have E := hide (unhide HE (fun hok => by have := (unhide HV2).1 hok; simp at this))
            go_wp2
            go_ret
            rw [unhide E]
            exact ⟨rfl, unhide HX4⟩
          | true =>
            go_wp2_with fail
            refine (unhide T4 _).mono ?_
            rintro e w5 ⟨rfl, rfl⟩
            cases t4 with
            | false =>
              have E := hide (unhide HE (fun hok => by have := (unhide HV2).1 hok; simp at this))
              go_wp2
              go_ret
              rw [unhide E]
              exact ⟨rfl, unhide HX4⟩
            | true =>
              have E := hide (unhide HE2 ((unhide HV2).2 (by have h9 := unhide HS0; simp [h9])))
              go_wp2
              go_ret
              rw [unhide E]
              exact ⟨rfl, unhide HX4⟩
end
end Go.Proofs.YtgmahpkhdnabjaaGreat

/-
  Images: the walks of Clone of levels, duplicate and blank. What the dump lacks is left out.
-/
namespace Go.Proofs.YtgmahpkhdnabjaaGreat
open Go.RowKit
set_option linter.unusedVariables false
set_option linter.unusedSimpArgs false

theorem Blk.put6 {w : World} {b : Nat} {o0 o1 o2 o3 o4 o5 : Value} {t : TypeId} (h : Blk w b #[o0, o1, o2, o3, o4, o5] t) (a0 a1 a2 a3 a4 a5 : Value) :
    Blk ((((((w.setCell ⟨b, 0, none⟩ a0).setCell ⟨b, 1, none⟩ a1).setCell ⟨b, 2, none⟩ a2).setCell ⟨b, 3, none⟩ a3).setCell ⟨b, 4, none⟩ a4).setCell ⟨b, 5, none⟩ a5) b #[a0, a1, a2, a3, a4, a5] t := by
  have h1 := (((((h.set 0 a0).set 1 a1).set 2 a2).set 3 a3).set 4 a4).set 5 a5
  simpa using h1
theorem grown_put6 (w : World) (b : Nat) (a0 a1 a2 a3 a4 a5 : Value) :
    w.grownBy ((((((w.setCell ⟨b, 0, none⟩ a0).setCell ⟨b, 1, none⟩ a1).setCell ⟨b, 2, none⟩ a2).setCell ⟨b, 3, none⟩ a3).setCell ⟨b, 4, none⟩ a4).setCell ⟨b, 5, none⟩ a5) (some b) :=
  (((((grownBy_set _ _ _ _).trans (grownBy_set _ _ _ _)).trans (grownBy_set _ _ _ _)).trans (grownBy_set _ _ _ _)).trans (grownBy_set _ _ _ _)).trans (grownBy_set _ _ _ _)
theorem Blk.frees {w : World} {b : Nat} {cs : Array Value} {t : TypeId} (h : Blk w b cs t) : w.frozen? ⟨b, 0, none⟩ = false ∧ w.frozen? ⟨b, 1, none⟩ = false ∧ w.frozen? ⟨b, 2, none⟩ = false ∧ w.frozen? ⟨b, 3, none⟩ = false ∧ w.frozen? ⟨b, 4, none⟩ = false ∧ w.frozen? ⟨b, 5, none⟩ = false :=
  ⟨h.free 0, h.free 1, h.free 2, h.free 3, h.free 4, h.free 5⟩
/-- Levels and their bytes do not lie in a block of another type. -/
theorem LO.grown {w w' : World} {base r : Nat} {v : Value} {L : List Ent} {cs : Array Value} {t : TypeId} (h : LO w base v L) (hB : Blk w r cs t) (ht : t ≠ 160 ∧ t ≠ 5) (hg : w.grownBy w' (some r)) : LO w' base v L := by
  refine ⟨?_, fun p hp => (h.bys p hp).grown hg fun b hb e => ?_, h.alone⟩
  · refine World.ownsRow.kept h.own hg (.inr fun e => ?_)
    rcases h.own.2 with ⟨e1, _⟩ | ⟨g, cap, cur, e1, _, hg2, _⟩
    · rw [e1] at e; cases e
    · have hr : g = r := by rw [e1] at e; simpa [Value.ownBlock] using e
      rw [hr, show w.heap[r]? = some (.cells cs t (0, 0)) from hB] at hg2
      simp at hg2
      exact ht.1 hg2.2
  · subst e
    rcases (h.bys p hp).2 with ⟨e1, _⟩ | ⟨g, cap, cur, e1, _, hg2, _⟩
    · rw [e1] at hb; cases hb
    · have hr : g = b := by rw [e1] at hb; simpa [Value.ownBlock] using hb
      rw [hr, show w.heap[b]? = some (.cells cs t (0, 0)) from hB] at hg2
      simp at hg2
      exact ht.2 hg2.2
theorem LR.news {w : World} {b off n cap : Nat} {L : List Ent} (h : LR w (.slice (some ⟨b, off, none⟩) n cap) L) : ∀ j u, (lcells L)[j]? = some u → w.cell? ((⟨b, off, none⟩ : Addr).add j) = some u := by
  obtain ⟨ao, cap', e, _, _, _, h4⟩ := h.shape
  cases e
  intro j u hu
  have hj : j < L.length * 3 := by
    have := (List.getElem?_eq_some_iff.1 hu).1
    rwa [lcells_len] at this
  obtain ⟨b2, off2, e2, c0, c1, c2⟩ := h4 (j / 3) (by omega)
  cases e2
  obtain ⟨g0, g1, g2⟩ := lcells_get L (j / 3) (by omega)
  rw [Addr.add_lit]
  have hd := Nat.div_add_mod j 3
  rcases (by omega : j % 3 = 0 ∨ j % 3 = 1 ∨ j % 3 = 2) with hm | hm | hm
  · rw [show j = j / 3 * 3 by omega] at hu ⊢
    rw [g0] at hu
    cases hu
    exact c0
  · rw [show j = j / 3 * 3 + 1 by omega] at hu ⊢
    rw [g1] at hu
    cases hu
    rw [← Nat.add_assoc]
    exact c1
  · rw [show j = j / 3 * 3 + 2 by omega] at hu ⊢
    rw [g2] at hu
    cases hu
    rw [← Nat.add_assoc]
    exact c2
theorem lcells_ones {w : World} {v : Value} {L : List Ent} (h : LR w v L) : ∀ u ∈ lcells L, u.oneCell' = true := by
  intro u hu
  unfold lcells at hu
  obtain ⟨p, hp, hu⟩ := List.mem_flatMap.1 hu
  obtain ⟨ao, cap, e, _⟩ := (h.row p hp).shape
  exact ecells_one e u hu

section
variable {w : World} {v : Value} {L : List Ent} {I : Img}

/-- How far duplicate has come: the first levels' bytes are new. -/
structure DupI (w wr : World) (I : Img) (ao : Option Addr) (cap : Nat) (L : List Ent) (k : Nat) (D : List Ent) : Prop where
  len : D.length = k
  abs : absL D = absL (L.take k)
  own : wr.ownsRow w.heap.size 160 3 (.slice ao L.length cap) L.length (lcells (D ++ L.drop k))
  bys : ∀ p ∈ D, Own .u8 wr w.heap.size 5 p.2.2.1 p.2.2.2
  alone : D.Pairwise fun p q => ∀ b, p.2.2.1.ownBlock = some b → q.2.2.1.ownBlock ≠ some b
  blk : Blk wr w.heap.size #[.int .i64 I.f, .slice ao L.length cap, .int .i64 I.ws, .int .i64 I.wt, .int .i64 I.mn, .int .i64 I.mg] 117
  res : Blk wr (w.heap.size + 1) #[.int .i64 0, .slice none 0 0, .int .i64 0, .int .i64 0, .int .i64 0, .int .i64 0] 117
  ext : Ext w wr

theorem DupI.step {wr w3 : World} {ao : Option Addr} {cap k : Nat} {D : List Ent} (h : DupI w wr I ao cap L k D) (hk : k < L.length) {g : Nat} (hg : ao = some ⟨g, 0, none⟩) {bo : Option Addr} {bcap : Nat}
    (ho : Own .u8 w3 wr.heap.size 5 (.slice bo L[k].2.2.2.length bcap) L[k].2.2.2) (hx : Ext wr w3) :
    DupI w (w3.setCell ⟨g, k * 3 + 2, none⟩ (.slice bo L[k].2.2.2.length bcap)) I ao cap L (k + 1) (D ++ [(L[k].1, L[k].2.1, .slice bo L[k].2.2.2.length bcap, L[k].2.2.2)]) := by
  subst hg
  have hs := h.ext.size
  have ho3 : w3.ownsRow w.heap.size 160 3 (.slice (some ⟨g, 0, none⟩) L.length cap) L.length (lcells (D ++ L.drop k)) := World.ownsRow.kept h.own (ext_grown hx none) (.inr (by simp [Value.ownBlock]))
  have hdrop : L.drop k = L[k] :: L.drop (k + 1) := List.drop_eq_getElem_cons hk
  obtain ⟨hst, hgr⟩ := World.ownsRow.stored ho3 (k * 3 + 2) (.slice bo L[k].2.2.2.length bcap)
  obtain ⟨cur, hcur⟩ : ∃ cur, w3.heap[g]? = some (.cells cur 160 (0, 0)) := by
    rcases ho3.2 with ⟨e, _⟩ | ⟨g2, c, cur, e, _, hg2, _⟩
    · cases e
    · cases e
      exact ⟨cur, hg2⟩
  have hgl : g < wr.heap.size := (World.ownsRow.lt h.own g rfl).2
  have hgw : w.heap.size ≤ g := (World.ownsRow.lt h.own g rfl).1
  refine ⟨by simp [h.len], ?_, ?_, ?_, ?_, ?_, ?_, ?_⟩
  · rw [absL_append, h.abs, List.take_succ_eq_append_getElem hk, absL_append]
    rfl
  · rw [hdrop] at hst
    have e := lcells_set D (L.drop (k + 1)) L[k] (.slice bo L[k].2.2.2.length bcap) L[k].2.2.2
    rw [h.len] at e
    rw [e] at hst
    rw [List.append_assoc]
    exact hst
  · intro p hp
    rcases List.mem_append.1 hp with hp | hp
    · have hp3 := (h.bys p hp).kept hx
      exact hp3.grown hgr (own_ne hcur hp3)
    · simp at hp
      subst hp
      exact (ho.lower hs).grown hgr (own_ne hcur ho)
  · refine List.pairwise_append.2 ⟨h.alone, by simp, fun p hp q hq b hb => ?_⟩
    simp at hq
    subst hq
    intro e
    have h1 := ((h.bys p hp).lt b hb).2
    have h2 := (ho.lt b e).1
    omega
  · have hb3 := h.blk.ext hx
    refine hb3.other (r := g) _ _ fun e => ?_
    rw [← e] at hcur
    rw [show w3.heap[w.heap.size]? = _ from hb3] at hcur
    simp at hcur
  · have hb3 := h.res.ext hx
    refine hb3.other (r := g) _ _ fun e => ?_
    rw [← e] at hcur
    rw [show w3.heap[w.heap.size + 1]? = _ from hb3] at hcur
    simp at hcur
  · exact below_grown (h.ext.trans hx) hgr (h.ext.trans hx).size hgw

end

end Go.Proofs.YtgmahpkhdnabjaaGreat
