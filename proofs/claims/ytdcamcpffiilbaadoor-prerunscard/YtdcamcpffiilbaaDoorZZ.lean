/-
  A text: Run.
-/
import Derived.Test.YtdcamcpffiilbaaDoorZY
namespace Go.Proofs.YtdcamcpffiilbaaDoor
open Go.RowKit
set_option linter.unusedVariables false
set_option linter.unusedSimpArgs false

theorem readP_form : ∀ (ls : List (List Tok)) (first : Bool) (E : Env) (ps : List Part) (tl : List Tok), (readP first E ps tl ls).2.1 = 0 → (readP first E ps tl ls).2.2 = 0
  | [], _, _, _, _, _ => rfl
  | l :: ls, first, E, ps, tl, h => by
    rw [readP] at h ⊢
    split at h
    · rename_i h1
      rw [if_pos h1]
      split at h
      · cases h
      · rename_i E2 ps2 h2
        exact readP_form ls false E2 ps2 tl h
    · rename_i h1
      rw [if_neg h1]
      split at h
      · rename_i h2
        rw [if_pos h2]
        exact readP_form ls _ _ _ _ h
      · rename_i h2
        rw [if_neg h2]
        split at h
        · rename_i h3
          exact absurd h h3
        · rename_i h3
          rw [if_neg h3]
          exact readP_form ls _ _ _ _ h
theorem TO.keep {w w' : World} {base r : Nat} {v : Value} {L : List Tok} (h : TO w base v L) (hg : w.grownBy w' (some r)) (hr : ∀ b, v.ownBlock = some b → b ≠ r) : TO w' base v L := by
  refine World.ownsRow.kept h hg ?_
  cases hv : v.ownBlock with
  | none => exact .inl rfl
  | some b => exact .inr (fun e => hr b hv (by cases e; rfl))

/-- What Run answers. -/
def RunQ (w : World) (R : List Tok × Int × Int) (e : Ending) (w' : World) : Prop := ∃ ao cap, e = .returned (.tuple #[.slice ao R.1.length cap, .agg #[.int .i64 R.2.1, .int .i64 R.2.2]]) ∧ TO w' w.heap.size (.slice ao R.1.length cap) R.1 ∧ Ext w w'

set_option maxHeartbeats 4000000 in
set_option maxRecDepth 100000 in
theorem run2_any (s : ByteArray) (w : World) (m : Int) (hS : Std w m) : Calls Tryd.prog 5 #[.string s] w (RunQ w (runP s.data.toList)) := by
  have HS := hide hS
  clear hS
  obtain ⟨R, hR⟩ : ∃ R, R = runP s.data.toList := ⟨_, rfl⟩
  rw [← hR]
  have HR := hide hR
  have hlen := list_size s
  obtain ⟨hLl, hLt⟩ := lexP_ok s.data.toList
  obtain ⟨X, hX⟩ : ∃ X, lexP s.data.toList = X := ⟨_, rfl⟩
  rw [hX] at hLl hLt
  have hform : X.2.1 = 0 → X.2.2 = 0 := by
    rw [← hX]
    unfold lexP
    split
    · intro e; cases e
    · exact (lexA_form _ 0 0 0).1
  have HFORM := hide hform
  have HLT := hide hLt
  unfold runP at HR
  rw [hX, hlen] at HR
  obtain ⟨w1, hw1⟩ : ∃ w1, w1 = w.alloc (.cells spotZ 26) := ⟨_, rfl⟩
  obtain ⟨sb, hsb⟩ : ∃ sb, sb = w.heap.size := ⟨_, rfl⟩
  have X1 : Hid (Ext w w1) := by rw [hw1]; exact (Ext.refl w).alloc _
  have HB1 : Hid (Blk w1 sb spotZ 26) := by rw [hw1, hsb]; exact Blk.new _ _ _
  have HLX := hide (lex_any s w1 m ((unhide HS).ext (unhide X1)).1)
  rw [hX] at HLX
  have HSB := hide hsb
  clear hR hX hform hLt hsb
  go_enter Tryd.func5, Tryd.ntmps5
  go_wp2_with fail
  rw [show (w.alloc (.cells #[.int .i64 0, .int .i64 0] 26)) = w1 from hw1.symm, show w.heap.size = sb from (unhide HSB).symm]
  clear hw1
  refine (unhide HLX).mono ?_
  rintro e w2 ⟨ao2, cap2, rfl, hO2, hx2⟩
  obtain ⟨LX, le, lp⟩ := X
  simp only at hO2 hLl HFORM HLT HR
  obtain ⟨w3, hw3⟩ : ∃ w3, w3 = w2.alloc (.cells #[.int .i64 le, .int .i64 lp] 26) := ⟨_, rfl⟩
  obtain ⟨pb, hpb⟩ : ∃ pb, pb = w2.heap.size := ⟨_, rfl⟩
  have X3 : Hid (Ext w w3) := by rw [hw3]; exact ((unhide X1).trans hx2).alloc _
  have HB3 : Hid (Blk w3 sb spotZ 26) := by rw [hw3]; exact ((unhide HB1).ext hx2).alloc _
  have HP3 : Hid (Blk w3 pb #[.int .i64 le, .int .i64 lp] 26) := by rw [hw3, hpb]; exact Blk.new _ _ _
  have HT3 : Hid (TR w3 (.slice ao2 LX.length cap2) LX) := by rw [hw3]; exact hO2.tr.ext ((Ext.refl w2).alloc _)
  have hsw : w.heap.size ≤ sb := Nat.le_of_eq (unhide HSB).symm
  have hsp : sb < pb := by
    have h1 := (unhide HB1).lt
    have h2 := hx2.size
    omega
  have hp3 : pb < w3.heap.size := (unhide HP3).lt
  have p0 := (unhide HP3).cell (i := 0) (v := .int .i64 le) rfl
  have p1 := (unhide HP3).cell (i := 1) (v := .int .i64 lp) rfl
  have s0 := (unhide HB3).cell (i := 0) (v := .int .i64 0) rfl
  have s1 := (unhide HB3).cell (i := 1) (v := .int .i64 0) rfl
  have fs := fun i => (unhide HB3).free i
  have fp := fun i => (unhide HP3).free i
  have HW3 := hide hw3
  have HPB := hide hpb
  rw [unhide HW3] at p0 p1 s0 s1 fs fp
  rw [unhide HPB] at p0 p1 fp
  clear hO2 hx2 hw3 hpb HLX
  by_cases hle : le = 0
  · have hlp := unhide HFORM hle
    subst hle
    subst hlp
    have HR2 : Hid (R = if (readP true beginE [] [] (linesP LX)).2.1 ≠ 0 then ([], (readP true beginE [] [] (linesP LX)).2) else if (readP true beginE [] [] (linesP LX)).1.2 ≠ [] then ([], 210, (s.size : Int)) else ((readP true beginE [] [] (linesP LX)).1.1, 0, 0)) := by
      show R = _
      rw [unhide HR]
      exact if_neg (by simp)
    go_wp2_with fail
    rw [← unhide HW3, ← unhide HPB]
    refine (begin_any w3 m ((unhide HS).ext (unhide X3))).mono ?_
    rintro e w4 ⟨rb, mb, T, rfl, hrd4, hx4⟩
    have HRDX := hide (readL_any w3 w4 m ((unhide HS).ext (unhide X3)) hx4 (Nat.le_refl _) hrd4 (by omega) (by simp) (by simp) begin_ok LX ao2 cap2 ((unhide HT3).ext hx4) hLl (unhide HLT))
    have HP4 := hide ((unhide HP3).ext hx4)
    have HB4 := hide ((unhide HB3).ext hx4)
    have X4 := hide ((unhide X3).trans hx4)
    have HLOW : Hid (∀ b, T b → w3.heap.size ≤ b) := hrd4.low
    have hx4s := hx4.size
    clear hrd4 hx4 p0 p1 s0 s1 fs fp
    go_wp2_with fail
    refine (unhide HRDX).mono ?_
    rintro e w5 ⟨rfl, ho5, hrd5⟩
    have hrf := readP_form (linesP LX) true beginE [] []
    obtain ⟨RR, hRR⟩ : ∃ RR, RR = readP true beginE [] [] (linesP LX) := ⟨_, rfl⟩
    rw [← hRR] at HR2 hrd5 hrf ⊢
    obtain ⟨⟨tlR, psR⟩, eR, aR⟩ := RR
    simp only at HR2 hrd5 hrf ⊢
    have HRF := hide hrf
    have HP5 := hide ((unhide HP4).out ho5 (fun e => by have := unhide HLOW pb e; omega))
    have HB5 := hide ((unhide HB4).out ho5 (fun e => by have := unhide HLOW sb e; omega))
    have X5 : Hid (Ext w w5) := ho5.ext0 (unhide X4) (fun b hb => by have := unhide HLOW b hb; have := (unhide X3).size; omega)
    have HRD5 := hide hrd5
    have p0 := (unhide HP5).cell (i := 0) (v := .int .i64 0) rfl
    have p1 := (unhide HP5).cell (i := 1) (v := .int .i64 0) rfl
    have fp := fun i => (unhide HP5).free i
    have HP6 := hide (((unhide HP5).set 0 (.int .i64 eR)).set 1 (.int .i64 aR))
    have HB6 := hide (((unhide HB5).other 0 (.int .i64 eR) (Nat.ne_of_lt hsp)).other 1 (.int .i64 aR) (Nat.ne_of_lt hsp))
    have s0 := (unhide HB6).cell (i := 0) (v := .int .i64 0) rfl
    have s1 := (unhide HB6).cell (i := 1) (v := .int .i64 0) rfl
    have fs := fun i => (unhide HB6).free i
    have g0 := (unhide HP6).cell (i := 0) (v := .int .i64 eR) (by simp)
    have g1 := (unhide HP6).cell (i := 1) (v := .int .i64 aR) (by simp)
    have X6 : Hid (Ext w ((w5.setCell ⟨pb, 0, none⟩ (.int .i64 eR)).setCell ⟨pb, 1, none⟩ (.int .i64 aR))) := extSet (extSet (unhide X5) (by omega)) (by omega)
    clear hRR ho5 hrd5 HRDX hrf
    by_cases heR : eR = 0
    · have haR := unhide HRF heR
      subst heR
      subst haR
      obtain ⟨T5, n5, po5, pc5, to5, tc5, E5, hrd⟩ := unhide HRD5 rfl
      have hrl : w3.heap.size ≤ rb := hrd.low rb hrd.trb
      have hrp : rb ≠ pb := by omega
      have hrs : rb ≠ sb := by omega
      have HK6 := hide ((hrd.blk.other 0 (.int .i64 0) hrp).other 1 (.int .i64 0) hrp)
      have d1 := (unhide HK6).cell (i := 1) (v := .slice po5 psR.length pc5) rfl
      have d2 := (unhide HK6).cell (i := 2) (v := .slice to5 tlR.length tc5) rfl
      have HTO : Hid (TO ((w5.setCell ⟨pb, 0, none⟩ (.int .i64 0)).setCell ⟨pb, 1, none⟩ (.int .i64 0)) w3.heap.size (.slice to5 tlR.length tc5) tlR) :=
        (TO.keep hrd.told (grownBy_set _ pb 0 _) (fun b hb => by have := (World.ownsRow.lt hrd.told b hb).1; omega)).keep (grownBy_set _ pb 1 _) (fun b hb => by have := (World.ownsRow.lt hrd.told b hb).1; omega)
      clear hrd HRD5
      by_cases hps : psR = []
      · have hRq : R = (tlR, 0, 0) := by
          rw [unhide HR2, hps]
          simp
        subst hRq
        subst hps
        have B2 := (((unhide HB6).set 0 (.int .i64 0)).set 1 (.int .i64 0))
        have R0 := hide (B2.cell (i := 0) (v := .int .i64 0) (by simp [spotZ]))
        have R1 := hide (B2.cell (i := 1) (v := .int .i64 0) (by simp [spotZ]))
        clear B2
        go_wp2
        refine bodyPost_ret (v := .tuple #[.slice to5 tlR.length tc5, .agg #[.int .i64 0, .int .i64 0]]) (by have r0 := unhide R0; have r1 := unhide R1; simp [results, Tryd.results5, go_sem, r0, r1]) rfl ⟨to5, tc5, rfl, ?_, ?_⟩
        · refine (TO.keep (TO.keep ((unhide HTO).lower (b2 := w.heap.size) (by have := (unhide X3).size; omega)) (grownBy_set _ sb 0 _) (fun b hb => ?_)) (grownBy_set _ sb 1 _) (fun b hb => ?_))
          · have := (World.ownsRow.lt (unhide HTO) b hb).1; omega
          · have := (World.ownsRow.lt (unhide HTO) b hb).1; omega
        · exact extSet (extSet (unhide X6) hsw) hsw
      · have hpos : 0 < psR.length := by
          cases psR with
          | nil => exact absurd rfl hps
          | cons a b => simp
        have hRq : R = ([], 210, (s.size : Int)) := by
          rw [unhide HR2, if_neg (by simp)]
          exact if_pos hps
        subst hRq
        have dp : decide ((0 : Int) < (psR.length : Int)) = true := by simp; omega
        have B2 := (((unhide HB6).set 0 (.int .i64 210)).set 1 (.int .i64 (s.size : Int)))
        have R0 := hide (B2.cell (i := 0) (v := .int .i64 210) (by simp [spotZ]))
        have R1 := hide (B2.cell (i := 1) (v := .int .i64 (s.size : Int)) (by simp [spotZ]))
        clear B2 hps
        go_wp2
        refine bodyPost_ret (v := .tuple #[.slice none 0 0, .agg #[.int .i64 210, .int .i64 (s.size : Int)]]) (by have r0 := unhide R0; have r1 := unhide R1; simp [results, Tryd.results5, go_sem, r0, r1]) rfl ⟨none, 0, rfl, TO.nil _ _, ?_⟩
        exact extSet (extSet (unhide X6) hsw) hsw
    · have b0 : (eR == 0) = false := beq_eq_false_iff_ne.2 heR
      have hRq : R = ([], eR, aR) := by
        rw [unhide HR2]
        exact if_pos heR
      subst hRq
      have B2 := (((unhide HB6).set 0 (.int .i64 eR)).set 1 (.int .i64 aR))
      have R0 := hide (B2.cell (i := 0) (v := .int .i64 eR) (by simp [spotZ]))
      have R1 := hide (B2.cell (i := 1) (v := .int .i64 aR) (by simp [spotZ]))
      clear B2
      go_wp2
      go_region
      go_wp2
      refine bodyPost_ret (v := .tuple #[.slice none 0 0, .agg #[.int .i64 eR, .int .i64 aR]]) (by have r0 := unhide R0; have r1 := unhide R1; simp [results, Tryd.results5, go_sem, r0, r1]) rfl ⟨none, 0, rfl, TO.nil _ _, ?_⟩
      exact (extSet (extSet (unhide X6) hsw) hsw).drew
  · have b0 : (le == 0) = false := beq_eq_false_iff_ne.2 hle
    have hRq : R = ([], le, lp) := by
      rw [unhide HR]
      exact if_pos hle
    subst hRq
    have B2 := (((unhide HB3).set 0 (.int .i64 le)).set 1 (.int .i64 lp))
    have R0 := hide (B2.cell (i := 0) (v := .int .i64 le) (by simp [spotZ]))
    have R1 := hide (B2.cell (i := 1) (v := .int .i64 lp) (by simp [spotZ]))
    clear B2
    rw [unhide HW3] at R0 R1
    go_wp2
    go_region
    go_wp2
    refine bodyPost_ret (v := .tuple #[.slice none 0 0, .agg #[.int .i64 le, .int .i64 lp]]) (by have r0 := unhide R0; have r1 := unhide R1; simp [results, Tryd.results5, go_sem, r0, r1]) rfl ⟨none, 0, rfl, TO.nil _ _, ?_⟩
    rw [← unhide HW3]
    exact (extSet (extSet (unhide X3) hsw) hsw).drew
end Go.Proofs.YtdcamcpffiilbaaDoor
