/-
  Images: a level of one colour, put and all levels made of it.
-/
import Derived.Test.YtahnmlopekgimaaRKa
import Derived.Test.YtahnmlopekgimaaRP
import Derived.Test.YtahnmlopekgimaaIG
import Derived.Test.YtahnmlopekgimaaJP
namespace Go.Proofs.Ytahnmlopekgimaa
open Go.RowKit
set_option linter.unusedVariables false
set_option linter.unusedSimpArgs false

def nwI : Img := ⟨0, [], 1, 1, 3, 2⟩
def plI (f : Int) (W H : Nat) (p : List Int) : Img := ⟨f, [((W : Int), (H : Int), repB p (W * H))], 1, 1, 3, 2⟩
theorem nw_ok : okB (sizI nwI.f) nwI = true := by
  rw [okB_iff]
  simp [nwI, valB]
theorem pow_side {n : Int} (h : powB n = true) : 1 ≤ n ∧ n ≤ 64 := by
  unfold powB at h
  simp only [decide_eq_true_eq] at h
  omega
section
theorem pl_put {f : Int} {W H : Nat} {p : List Int} (hs : sizI f = (p.length : Int)) (h0 : p.length ≠ 0) (hW : powB (W : Int) = true) (hH : powB (H : Int) = true) : putE nwI 0 f W H (repB p (W * H)).length = 0 ∧ putI nwI 0 f W H (repB p (W * H)) = plI f W H p := by
  have w1 := pow_side hW
  have g1 := pow_side hH
  have e1 : putE nwI 0 f W H (repB p (W * H)).length = 0 := by
    unfold putE
    rw [if_neg (by rw [nw_ok]; simp), if_neg, if_neg, if_neg (by simp)]
    · rw [repB_len, hs]
      intro h
      exact h.2 (by push_cast; rfl)
    · rw [hs]
      rintro (h | h | h | h | h)
      · omega
      · omega
      · omega
      · rw [sideB_iff.2 w1] at h; cases h
      · rw [sideB_iff.2 g1] at h; cases h
  refine ⟨e1, ?_⟩
  unfold putI
  rw [if_pos e1]
  have hne : (repB p (W * H)).length ≠ 0 := by
    rw [repB_len]
    have : 1 * 1 ≤ W * H := Nat.mul_le_mul (by omega) (by omega)
    exact Nat.mul_ne_zero (by omega) h0
  have e2 : fillB ((W : Int) * H * sizI f).toNat (repB p (W * H)) = repB p (W * H) := by
    unfold fillB
    rw [if_neg hne]
  rw [e2]
  have e3 : (if f = nwI.f then nwI.L else []) = ([] : List Lev) := by split <;> rfl
  rw [e3]
  rfl
theorem pl_gen {f : Int} {W H : Nat} {p : List Int} (hs : sizI f = (p.length : Int)) (h0 : p.length ≠ 0) (hW : powB (W : Int) = true) (hH : powB (H : Int) = true) : genE (plI f W H p) = 0 := by
  have w1 := pow_side hW
  have g1 := pow_side hH
  have hg : goodB (p.length : Int) ((W : Int), (H : Int), repB p (W * H)) = true := goodB_iff.2 ⟨w1, g1, by show ((repB p (W * H)).length : Int) = _; rw [repB_len]; push_cast; rfl⟩
  unfold genE
  have h1 : okB (sizI f) (plI f W H p) = true := by
    rw [okB_iff, hs]
    refine ⟨by simp [plI], by simp [plI], ?_, ?_, by simp [plI, valB], by simp [plI, valB], by simp [plI, valB], by simp [plI, valB]⟩
    · intro l hl
      obtain rfl : l = ((W : Int), (H : Int), repB p (W * H)) := by simpa [plI] using hl
      unfold lvB
      rw [hg, Bool.or_true]
    · intro _
      refine ⟨by omega, ?_⟩
      simp [plI, hasB]
      omega
  have e1 : (plI f W H p).f = f := rfl
  have e2 : (plI f W H p).L.getD 0 noLev = ((W : Int), (H : Int), repB p (W * H)) := rfl
  rw [e1, if_neg (by rw [h1]; simp), e2]
  rw [if_neg (by simp [plI, hasB]; omega), if_neg (by rw [hW, hH]; simp)]
theorem pl_lev {f : Int} {W H : Nat} {p : List Int} (hs : sizI f = (p.length : Int)) (h0 : p.length ≠ 0) (hW : powB (W : Int) = true) (hH : powB (H : Int) = true) (hp : Byt p) : (∀ q ∈ genL (plI f W H p), ∃ A B : Nat, q = ((A : Int), (B : Int), repB p (A * B)) ∧ powB (A : Int) = true ∧ powB (B : Int) = true) ∧ ((genL (plI f W H p)).length : Int) = cntI W H ∧ (genL (plI f W H p)).length ≤ 7 := by
  obtain ⟨_, _, _, c1, _, _, c2⟩ := gen_facts (pl_gen hs h0 hW hH)
  refine ⟨fun q hq => ?_, c1, c2⟩
  unfold genL chn at hq
  obtain ⟨i, _, rfl⟩ := List.mem_map.1 hq
  have e1 : (plI f W H p).f = f := rfl
  have e2 : (plI f W H p).L.getD 0 noLev = ((W : Int), (H : Int), repB p (W * H)) := rfl
  rw [e1, e2, hs, Int.toNat_natCast]
  have := it_rep hp (chs_sum hs h0).1 hW hH i
  simpa using this
end
end Go.Proofs.Ytahnmlopekgimaa
