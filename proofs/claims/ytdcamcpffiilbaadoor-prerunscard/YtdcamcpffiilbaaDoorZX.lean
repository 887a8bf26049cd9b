/-
  Bounds of a text's tokens; a reader at first.
-/
import Derived.Test.YtdcamcpffiilbaaDoorZV
import Derived.Test.YtdcamcpffiilbaaDoorZW
import Derived.Test.YtdcamcpffiilbaaDoorZG
namespace Go.Proofs.YtdcamcpffiilbaaDoor
open Go.RowKit
set_option linter.unusedVariables false
set_option linter.unusedSimpArgs false

theorem cnt_le2 (l : Byts8) (z : Nat) (h : z ≤ l.length) : cntL (l.take z) ≤ z := by
  have := cntL_le (l.take z)
  rw [List.length_take] at this
  omega
theorem lexA_bound (l : Byts8) : ∀ (a ln : Int) (n : Nat), (lexA l a ln n).1.length ≤ l.length ∧ ∀ t ∈ (lexA l a ln n).1, t.text.length ≤ l.length ∧ ln ≤ t.line ∧ t.line ≤ ln + l.length ∧ a ≤ t.place ∧ t.place ≤ a + l.length := by
  induction hn : l.length using Nat.strongRecOn generalizing l with
  | _ m ih =>
    intro a ln n
    by_cases h : l = []
    · subst h
      rw [lexA_nil]
      simp
    have hr := piece_room l h
    obtain ⟨k, z, hp⟩ : ∃ k z, pieceP l = (k, z) := ⟨_, _, rfl⟩
    rw [hp] at hr
    simp only at hr
    have hdl : (l.drop z).length = m - z := by rw [List.length_drop]; omega
    have hd : (l.drop z).length < m := by omega
    have hc := cnt_le2 l z hr.2
    by_cases hk : k = -1
    · subst hk
      rw [lexA_gap h hp]
      have := ih _ hd (l.drop z) rfl (a + z) (ln + cntL (l.take z)) n
      rw [hdl] at this
      refine ⟨by omega, fun t ht => ?_⟩
      have h2 := this.2 t ht
      omega
    · by_cases ht : (tellP k (l.take z) (l.drop z) n).2 = 0
      · rw [lexA_tok h hp hk a ln n ht]
        have := ih _ hd (l.drop z) rfl (a + z) (ln + cntL (l.take z)) (n + 1)
        rw [hdl] at this
        split
        · refine ⟨by omega, fun t ht => ?_⟩
          have h2 := this.2 t ht
          omega
        · refine ⟨by simp; omega, fun t ht => ?_⟩
          simp only [List.mem_cons] at ht
          rcases ht with rfl | ht
          · simp only [List.length_take]
            omega
          · have h2 := this.2 t ht
            omega
      · rw [lexA_bad h hp hk a ln n ht]
        simp
/-- A token that came out of a text. -/
def TokOk (t : Tok) : Prop := t.text.length ≤ 8192 ∧ 0 ≤ t.line ∧ t.line ≤ 8192 ∧ 0 ≤ t.place ∧ t.place ≤ 8192
theorem lexP_ok (l : Byts8) : (lexP l).1.length ≤ 8192 ∧ ∀ t ∈ (lexP l).1, TokOk t := by
  unfold lexP
  split
  · simp
  · have := lexA_bound l 0 0 0
    refine ⟨by omega, fun t ht => ?_⟩
    have h2 := this.2 t ht
    unfold TokOk
    omega
/-- What words stand for came out of texts. -/
def EnvOk (E : Env) : Prop := ∀ k L, E k = some L → L.length ≤ 8192 ∧ ∀ t ∈ L, TokOk t
theorem EnvOk.set {E : Env} (h : EnvOk E) (k : Byts8) (L : List Tok) (hl : L.length ≤ 8192) (ht : ∀ t ∈ L, TokOk t) : EnvOk (setE E k (some L)) := fun k' L' e => by
  unfold setE at e
  split at e
  · cases e
    exact ⟨hl, ht⟩
  · exact h k' L' e
theorem EnvOk.del {E : Env} (h : EnvOk E) (k : Byts8) : EnvOk (setE E k none) := fun k' L' e => by
  unfold setE at e
  split at e
  · cases e
  · exact h k' L' e
theorem EnvOk.whole {E : Env} (h : EnvOk E) (k : Byts8) (n : Int) : EnvOk (setE E k (some (wholeL n))) := h.set k _ (lexP_ok _).1 (lexP_ok _).2
theorem begin_ok : EnvOk beginE := by
  refine EnvOk.whole (EnvOk.whole ?_ _ _) _ _
  intro k L e
  cases e

set_option maxHeartbeats 1000000 in
set_option maxRecDepth 100000 in
theorem begin_any (w : World) (m : Int) (hS : Std w m) :
    Calls Tryd.prog 9 #[] w fun e w' => ∃ rb mb T, e = .returned (.pointer (some ⟨rb, 0, none⟩)) ∧ RD w' T w.heap.size rb mb 2 none 0 none 0 beginE [] [] ∧ Ext w w' := by
  have HS := hide hS
  clear hS
  have hmm := @run_makeMap Tryd.prog
  have HF0 := hide (FM.made w)
  obtain ⟨w1, hw1⟩ : ∃ w1, w1 = w.alloc (.map #[] 0) := ⟨_, rfl⟩
  obtain ⟨mb, hmb⟩ : ∃ mb, mb = w.heap.size := ⟨_, rfl⟩
  have X1 : Hid (Ext w w1) := by rw [hw1]; exact (Ext.refl w).alloc _
  have hs1 : mb + 1 = w1.heap.size := by rw [hw1, hmb, World.size_alloc]
  have hmbw : w.heap.size ≤ mb := Nat.le_of_eq hmb.symm
  rw [← hw1, ← hmb] at HF0
  go_enter Tryd.func9, Tryd.ntmps9
  go_wp2_with fail
  rw [← hw1, ← hmb]
  clear hw1
  refine (whole_any 1 w1 m (by decide) (by decide) ((unhide HS).ext (unhide X1))).mono ?_
  rintro e w2 ⟨ao2, cap2, rfl, hO2, hx2⟩
  have HF2 := hide ((unhide HF0).ext hx2)
  obtain ⟨w3, hput3, hF3, hg3⟩ := (unhide HF2).put (t := 37) (e := 23) Tryd.underlying37 (by unfold maxLen; omega) wGles (by decide) (.slice ao2 (wholeL 1).length cap2)
  rw [show (⟨wGles.toArray⟩ : ByteArray) = ⟨#[71, 76, 95, 69, 83]⟩ from rfl] at hput3
  have X3 : Hid (Ext w w3) := Below.trans ((unhide X1).trans hx2) (grown_below hg3 ((unhide X1).trans hx2).size (fun b hb => by cases hb; omega))
  have HO2 := hide hO2
  have HX2 := hide hx2
  have HF3 := hide hF3
  have HG3 := hide hg3
  clear hO2 hx2 hF3 hg3 hmb hs1
  have hs1 : mb + 1 ≤ w1.heap.size := (unhide HF0).lt
  go_wp2_with fail
  refine (whole_any 100 w3 m (by decide) (by decide) ((unhide HS).ext (unhide X3))).mono ?_
  rintro e w4 ⟨ao4, cap4, rfl, hO4, hx4⟩
  have HF4 := hide ((unhide HF3).ext hx4)
  obtain ⟨w5, hput5, hF5, hg5⟩ := (unhide HF4).put (t := 37) (e := 23) Tryd.underlying37 (by unfold maxLen; omega) wVers (by decide) (.slice ao4 (wholeL 100).length cap4)
  rw [show (⟨wVers.toArray⟩ : ByteArray) = ⟨#[95, 95, 86, 69, 82, 83, 73, 79, 78, 95, 95]⟩ from rfl] at hput5
  have X5 : Hid (Ext w w5) := Below.trans ((unhide X3).trans hx4) (grown_below hg5 ((unhide X3).trans hx4).size (fun b hb => by cases hb; omega))
  have h13 : w1.heap.size ≤ w3.heap.size := Nat.le_trans (unhide HX2).size (unhide HG3).size
  have h35 : w3.heap.size ≤ w5.heap.size := Nat.le_trans hx4.size hg5.size
  have HR2 : Hid (TF (fun b => b = w5.heap.size ∨ b = mb) w5 (.slice ao2 (wholeL 1).length cap2) (wholeL 1)) := by
    have h1 : TF (fun b => b = mb) w2 (.slice ao2 (wholeL 1).length cap2) (wholeL 1) := TF.of_TO (unhide HO2) (fun b hb e => by omega)
    have h2 := ((h1.out (Out.of_grown (T := fun b => b = mb) (unhide HG3) (fun k e => by cases e; rfl))).ext hx4).out (Out.of_grown (T := fun b => b = mb) hg5 (fun k e => by cases e; rfl))
    exact h2.wid2 (fun b hb => hb.elim (fun e => .inr (by omega)) (fun e => .inl e))
  have HR4 : Hid (TF (fun b => b = w5.heap.size ∨ b = mb) w5 (.slice ao4 (wholeL 100).length cap4) (wholeL 100)) := by
    have h1 : TF (fun b => b = mb) w4 (.slice ao4 (wholeL 100).length cap4) (wholeL 100) := TF.of_TO hO4 (fun b hb e => by omega)
    have h2 := h1.out (Out.of_grown (T := fun b => b = mb) hg5 (fun k e => by cases e; rfl))
    exact h2.wid2 (fun b hb => hb.elim (fun e => .inr (by omega)) (fun e => .inl e))
  have HF5 := hide hF5
  have hmb5 : mb < w5.heap.size := hF5.lt
  clear hO4 hx4 hF5 hg5 hput3
  go_wp2
  go_ret
  refine ⟨w5.heap.size, mb, fun b => b = w5.heap.size ∨ b = mb, rfl, ?_, (unhide X5).alloc _⟩
  refine ⟨Blk.new w5 _ _, ⟨_, (unhide HF5).ext ((Ext.refl w5).alloc _), fun k => ?_⟩, PO.nil _ _, TO.nil _ _, .inl rfl, .inr rfl, by omega, (fun b hb => by cases hb), (fun b hb => by cases hb), (fun b hb => by have := (unhide X5).size; rcases hb with e | e <;> omega), ?_⟩
  · unfold beginE setE
    by_cases h1 : k = wVers
    · rw [if_pos h1, if_pos h1]
      exact (unhide HR4).ext ((Ext.refl w5).alloc _)
    · rw [if_neg h1, if_neg h1]
      by_cases h2 : k = wGles
      · rw [if_pos h2, if_pos h2]
        exact (unhide HR2).ext ((Ext.refl w5).alloc _)
      · rw [if_neg h2, if_neg h2]
        trivial
  · have := (unhide X5).size
    rw [World.size_alloc]
    omega
end Go.Proofs.YtdcamcpffiilbaaDoor
