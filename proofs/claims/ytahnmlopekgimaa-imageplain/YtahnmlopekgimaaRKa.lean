/-
  Images: Put, both ways in one.
-/
import Derived.Test.YtahnmlopekgimaaIX
namespace Go.Proofs.Ytahnmlopekgimaa
open Go.ChangeShapes Go.WideShapes Go.ChangeAt Go.RowKit
set_option linter.unusedVariables false
set_option linter.unusedSimpArgs false

theorem Row.upto {k : IntKind} {w : World} {ao : Option Addr} {n cap : Nat} {xs : List Int} (h : Row k w (.slice ao n cap) xs) (m : Nat) (hm : m ≤ xs.length) : Row k w (.slice ao m cap) (xs.take m) := by
  have hl : (xs.take m).length = m := by simp; omega
  rcases h with ⟨rfl, ao, cap, e, h0, hc⟩ | ⟨hne, b, off, cap, e, hlc, hc, hce⟩
  · cases e
    obtain rfl : m = 0 := by simpa using hm
    exact .inl ⟨rfl, _, _, rfl, h0, hc⟩
  · cases e
    by_cases h0 : m = 0
    · subst h0
      exact .inl ⟨rfl, _, _, rfl, (fun h => by cases h), hc⟩
    · refine .inr ⟨fun h => h0 (by rw [h] at hl; exact hl.symm), b, off, cap, by rw [hl], by rw [hl]; omega, hc, fun i hi => ?_⟩
      rw [hl] at hi
      rw [hce i (by omega)]
      simp [List.getD, hi]
section
variable {w : World} {v : Value} {L : List Ent} {I : Img}
theorem put_all (h : LR w v L) (hL : L.length ≤ 1000) (hA : I.L = absL L) (hbL : ∀ p ∈ L, p.2.2.2.length ≤ 140737488355328) (lv f W H : Int) (bo : Option Addr) (bcap : Nat) (bs : List Int) (hr : Row .u8 w (.slice bo bs.length bcap) bs) :
    Calls Try.prog 23 #[.agg #[.int .i64 I.f, v, .int .i64 I.ws, .int .i64 I.wt, .int .i64 I.mn, .int .i64 I.mg], .int .i64 lv, .int .i64 f, .agg #[.int .i64 W, .int .i64 H, .slice bo bs.length bcap]] w fun e w' => ∃ ao cap L', e = .returned (.tuple #[.agg #[.int .i64 (putI I lv f W H bs).f, .slice ao L'.length cap, .int .i64 (putI I lv f W H bs).ws, .int .i64 (putI I lv f W H bs).wt, .int .i64 (putI I lv f W H bs).mn, .int .i64 (putI I lv f W H bs).mg], .int .i64 (putE I lv f W H bs.length)]) ∧
      LO w' w.heap.size (.slice ao L'.length cap) L' ∧ absL L' = (putI I lv f W H bs).L ∧ Ext w w' := by
  by_cases hE : putE I lv f W H bs.length = 0
  · obtain ⟨z1, z2, z3, z4, z5, z6⟩ := putE_zero hE
    obtain ⟨k, rfl⟩ := Int.eq_ofNat_of_zero_le z2.1
    obtain ⟨W, rfl⟩ := Int.eq_ofNat_of_zero_le (show 0 ≤ W by omega)
    obtain ⟨H, rfl⟩ := Int.eq_ofNat_of_zero_le (show 0 ≤ H by omega)
    obtain ⟨s, hs⟩ := Int.eq_ofNat_of_zero_le (show 0 ≤ sizI f by have := siz_bd f; omega)
    have hn : ((W : Int) * H * sizI f).toNat = W * H * s := by rw [hs]; exact Int.toNat_natCast (W * H * s)
    refine (put_good (I := I) h hL hA hbL k f W H s bo bcap bs hr hE (by omega) (by omega) (by omega) hs ?_ _ rfl).mono ?_
    · rcases z6 with z6 | z6
      · exact .inl z6
      · rw [hs] at z6
        exact .inr (by exact_mod_cast z6)
    · rintro e w' ⟨ao, cap, L', rfl, h1, h2, h3⟩
      refine ⟨ao, cap, L', ?_, h1, ?_, h3⟩
      · unfold putI
        rw [if_pos hE, hE]
      · unfold putI
        rw [if_pos hE, h2]
        show _ = putL _ _ _
        rw [hn]
        rfl
  · refine (put_bad (I := I) h hL hA lv f W H bo bcap bs hr hE).mono ?_
    rintro e w' ⟨rfl, h3⟩
    refine ⟨none, 0, [], ?_, LO.nil _ _, ?_, h3⟩
    · unfold putI
      rw [if_neg hE]
      rfl
    · unfold putI
      rw [if_neg hE]
      rfl
end
end Go.Proofs.Ytahnmlopekgimaa
