/-
  Images, plain: what Generate makes is whole, and makes itself.
-/
import Derived.Test.YtahnmlopekgimaaJP
namespace Go.Proofs.Ytahnmlopekgimaa
open Go.RowKit
set_option linter.unusedVariables false
set_option linter.unusedSimpArgs false

def genI (X : Img) : Img := ⟨X.f, genL X, X.ws, X.wt, X.mn, X.mg⟩
theorem chn_getD (ks : List Nat) (s : Nat) (l : Lev) (n i : Nat) (h : i < n + 1) : (chn ks s l n).getD i noLev = itL ks s l i := by
  have hl : i < (chn ks s l n).length := by rw [chn_len]; exact h
  rw [List.getD_eq_getElem?_getD, List.getElem?_eq_getElem hl, Option.getD_some]
  exact chn_get ks s l n i h
theorem has_lev {s : Int} {A : List Lev} {k : Nat} (ha : ∀ l ∈ A, lvB s l = true) (h : hasB A (k : Int) = true) : k < A.length ∧ goodB s (A.getD k noLev) = true := by
  unfold hasB at h
  simp only [Bool.and_eq_true, decide_eq_true_eq, Int.toNat_natCast] at h
  obtain ⟨⟨_, h1⟩, h2⟩ := h
  have hk : k < A.length := by omega
  refine ⟨hk, ?_⟩
  have hm : A.getD k noLev ∈ A := by
    rw [List.getD_eq_getElem?_getD, List.getElem?_eq_getElem hk, Option.getD_some]
    exact List.getElem_mem hk
  have h3 := ha _ hm
  unfold lvB at h3
  rcases Bool.or_eq_true _ _ |>.mp h3 with h4 | h4
  · unfold noneB at h4
    simp only [decide_eq_true_eq] at h4
    omega
  · exact h4
theorem gen_facts {X : Img} (h : genE X = 0) : genE (genI X) = 0 ∧ genL (genI X) = genL X ∧ cmpB (genI X) = true ∧ ((genL X).length : Int) = cntI (X.L.getD 0 noLev).1 (X.L.getD 0 noLev).2.1 ∧ (genL X).getD 0 noLev = X.L.getD 0 noLev ∧ 0 < X.L.length ∧ (genL X).length ≤ 7 := by
  obtain ⟨hok, hh, hp⟩ := genE_zero h
  have hok' := hok
  rw [okB_iff] at hok
  obtain ⟨o1, o2, o3, o4, o5⟩ := hok
  obtain ⟨h0, hg⟩ := has_lev (k := 0) o3 hh
  obtain ⟨s0, hlast⟩ := o4 h0
  have hsb := siz_bd X.f
  obtain ⟨s, hs⟩ := Int.eq_ofNat_of_zero_le hsb.1
  have hgL : genL X = chn (chs8 X.f) s (X.L.getD 0 noLev) (lgs (X.L.getD 0 noLev).1 (X.L.getD 0 noLev).2.1) := by
    unfold genL
    rw [hs, Int.toNat_natCast]
  rw [hs] at hg
  generalize hl0 : X.L.getD 0 noLev = l0 at *
  obtain ⟨g1, g2, _⟩ := goodB_iff.1 hg
  have hn6 : lgs l0.1 l0.2.1 ≤ 6 := lg_le _
  generalize hn : lgs l0.1 l0.2.1 = n at *
  have hlen : (genL X).length = n + 1 := by rw [hgL, chn_len]
  have hget : ∀ i, i < n + 1 → (genL X).getD i noLev = itL (chs8 X.f) s l0 i := fun i hi => by rw [hgL]; exact chn_getD _ _ _ _ _ hi
  have hgd : ∀ i, goodB s (itL (chs8 X.f) s l0 i) = true := fun i => itL_good hg i
  have hg0 : (genL X).getD 0 noLev = l0 := hget 0 (by omega)
  have hhas : ∀ i, i < n + 1 → hasB (genL X) (i : Int) = true := fun i hi => by
    unfold hasB
    simp only [Bool.and_eq_true, decide_eq_true_eq, Int.toNat_natCast]
    rw [hget i hi, hlen]
    obtain ⟨a1, _, _⟩ := goodB_iff.1 (hgd i)
    omega
  have hok2 : okB (sizI X.f) (genI X) = true := by
    rw [okB_iff]
    refine ⟨by show (genL X).length ≤ 7; omega, fun h9 => ?_, fun l hl => ?_, fun _ => ⟨s0, ?_⟩, o5⟩
    · have : (genL X).length = 0 := h9
      omega
    · have hl' : l ∈ genL X := hl
      rw [hgL] at hl'
      unfold chn at hl'
      obtain ⟨i, _, rfl⟩ := List.mem_map.1 hl'
      unfold lvB
      rw [hs, hgd i, Bool.or_true]
    · show hasB (genL X) (((genL X).length : Int) - 1) = true
      rw [hlen, show ((n + 1 : Nat) : Int) - 1 = (n : Int) by omega]
      exact hhas n (by omega)
  have hpw : (powB ((genL X).getD 0 noLev).1 && powB ((genL X).getD 0 noLev).2.1) = true := by rw [hg0]; exact hp
  have hh0 : hasB (genL X) 0 = true := hhas 0 (by omega)
  refine ⟨?_, ?_, ?_, ?_, hg0, h0, by omega⟩
  · show genE (genI X) = 0
    unfold genE
    show (if okB (sizI X.f) (genI X) = false then (180 : Int) else if hasB (genL X) 0 = false then 4 else if (powB ((genL X).getD 0 noLev).1 && powB ((genL X).getD 0 noLev).2.1) = false then 2 else 0) = 0
    rw [hok2, hh0, hpw]
    simp
  · have e1 : genL (genI X) = chn (chs8 X.f) (sizI X.f).toNat ((genL X).getD 0 noLev) (lgs ((genL X).getD 0 noLev).1 ((genL X).getD 0 noLev).2.1) := rfl
    rw [e1, hg0, hn, hgL, hs, Int.toNat_natCast]
  · have e1 : cmpB (genI X) = (okB (sizI X.f) (genI X) && hasB (genL X) 0 && (if (powB ((genL X).getD 0 noLev).1 && powB ((genL X).getD 0 noLev).2.1) = false then decide (X.ws = 2) && decide (X.wt = 2) && !mipB (genI X) else if mipB (genI X) = true then chainB (genL X) else true)) := rfl
    have hch : chainB (genL X) = true := by
      unfold chainB
      rw [hg0, hn, hlen]
      simp only [Nat.le_refl, decide_true, Bool.true_and, List.all_eq_true, List.mem_range]
      intro i hi
      unfold stepB
      rw [hget i hi]
      have := itL_w (chs8 X.f) s l0 i
      exact decide_eq_true this
    rw [e1, hok2, hh0, hpw, hch]
    simp
  · rw [hlen]
    unfold cntI
    rw [if_pos ⟨sideB_iff.2 g1, sideB_iff.2 g2⟩, hn]
    omega
end Go.Proofs.Ytahnmlopekgimaa
