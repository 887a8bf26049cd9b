/-
  Signs.
-/
import Derived.Test.YtdcamcpffiilbaaDoorXB
namespace Go.Proofs.YtdcamcpffiilbaaDoor
open Go.RowKit
set_option linter.unusedSimpArgs false
set_option linter.unusedVariables false

set_option maxHeartbeats 4000000 in
theorem sign_any (s : ByteArray) (w : World) (h1 : 1 ≤ s.size) (hs : s.size < 4294967281) :
    Calls Tryd.prog 40 #[.string s] w fun e w' => e = .returned (.tuple #[.int .i64 (signP s.data.toList).1, .int .i64 ((signP s.data.toList).2 : Nat)]) ∧ w' = w := by
  have hL : (s.extract 0 (min 2 (s.size : Int)).toNat).toList = s.data.toList.take 2 := by
    rw [Lib.extract_toList, List.drop_zero, List.take_eq_take_iff]
    simp
    omega
  by_cases h : isTwo s.data.toList = true
  · have he : signP s.data.toList = (4, 2) := by unfold signP; rw [if_pos h]
    rw [he]
    have hm : s.data.toList.take 2 ∈ twos := by simpa [isTwo] using h
    rw [← hL] at hm
    simp only [twos, List.mem_cons, List.not_mem_nil, or_false] at hm
    clear h he hL
    rcases hm with hm | hm | hm | hm | hm | hm | hm | hm | hm | hm | hm | hm
    · have h0 : True := trivial
      have f0 : ((s.extract 0 (min 2 (s.size : Int)).toNat).toList == [61, 61]) = true := by rw [hm]; rfl
      clear hm
      go_enter Tryd.func40, Tryd.ntmps40
      go_wp2
      exact bodyPost_ret (v := .tuple #[.int .i64 4, .int .i64 2]) (by simp [results, Tryd.results40, go_sem]) rfl ⟨rfl, rfl⟩
    · have h0 : True := trivial
      have f0 : ((s.extract 0 (min 2 (s.size : Int)).toNat).toList == [61, 61]) = false := by rw [hm]; rfl
      have f1 : ((s.extract 0 (min 2 (s.size : Int)).toNat).toList == [33, 61]) = true := by rw [hm]; rfl
      clear hm
      go_enter Tryd.func40, Tryd.ntmps40
      go_wp2
      exact bodyPost_ret (v := .tuple #[.int .i64 4, .int .i64 2]) (by simp [results, Tryd.results40, go_sem]) rfl ⟨rfl, rfl⟩
    · have h0 : True := trivial
      have f0 : ((s.extract 0 (min 2 (s.size : Int)).toNat).toList == [61, 61]) = false := by rw [hm]; rfl
      have f1 : ((s.extract 0 (min 2 (s.size : Int)).toNat).toList == [33, 61]) = false := by rw [hm]; rfl
      have f2 : ((s.extract 0 (min 2 (s.size : Int)).toNat).toList == [60, 61]) = true := by rw [hm]; rfl
      clear hm
      go_enter Tryd.func40, Tryd.ntmps40
      go_wp2
      exact bodyPost_ret (v := .tuple #[.int .i64 4, .int .i64 2]) (by simp [results, Tryd.results40, go_sem]) rfl ⟨rfl, rfl⟩
    · have h0 : True := trivial
      have f0 : ((s.extract 0 (min 2 (s.size : Int)).toNat).toList == [61, 61]) = false := by rw [hm]; rfl
      have f1 : ((s.extract 0 (min 2 (s.size : Int)).toNat).toList == [33, 61]) = false := by rw [hm]; rfl
      have f2 : ((s.extract 0 (min 2 (s.size : Int)).toNat).toList == [60, 61]) = false := by rw [hm]; rfl
      have f3 : ((s.extract 0 (min 2 (s.size : Int)).toNat).toList == [62, 61]) = true := by rw [hm]; rfl
      clear hm
      go_enter Tryd.func40, Tryd.ntmps40
      go_wp2
      exact bodyPost_ret (v := .tuple #[.int .i64 4, .int .i64 2]) (by simp [results, Tryd.results40, go_sem]) rfl ⟨rfl, rfl⟩
    · have h0 : True := trivial
      have f0 : ((s.extract 0 (min 2 (s.size : Int)).toNat).toList == [61, 61]) = false := by rw [hm]; rfl
      have f1 : ((s.extract 0 (min 2 (s.size : Int)).toNat).toList == [33, 61]) = false := by rw [hm]; rfl
      have f2 : ((s.extract 0 (min 2 (s.size : Int)).toNat).toList == [60, 61]) = false := by rw [hm]; rfl
      have f3 : ((s.extract 0 (min 2 (s.size : Int)).toNat).toList == [62, 61]) = false := by rw [hm]; rfl
      have f4 : ((s.extract 0 (min 2 (s.size : Int)).toNat).toList == [38, 38]) = true := by rw [hm]; rfl
      clear hm
      go_enter Tryd.func40, Tryd.ntmps40
      go_wp2
      exact bodyPost_ret (v := .tuple #[.int .i64 4, .int .i64 2]) (by simp [results, Tryd.results40, go_sem]) rfl ⟨rfl, rfl⟩
    · have h0 : True := trivial
      have f0 : ((s.extract 0 (min 2 (s.size : Int)).toNat).toList == [61, 61]) = false := by rw [hm]; rfl
      have f1 : ((s.extract 0 (min 2 (s.size : Int)).toNat).toList == [33, 61]) = false := by rw [hm]; rfl
      have f2 : ((s.extract 0 (min 2 (s.size : Int)).toNat).toList == [60, 61]) = false := by rw [hm]; rfl
      have f3 : ((s.extract 0 (min 2 (s.size : Int)).toNat).toList == [62, 61]) = false := by rw [hm]; rfl
      have f4 : ((s.extract 0 (min 2 (s.size : Int)).toNat).toList == [38, 38]) = false := by rw [hm]; rfl
      have f5 : ((s.extract 0 (min 2 (s.size : Int)).toNat).toList == [124, 124]) = true := by rw [hm]; rfl
      clear hm
      go_enter Tryd.func40, Tryd.ntmps40
      go_wp2
      exact bodyPost_ret (v := .tuple #[.int .i64 4, .int .i64 2]) (by simp [results, Tryd.results40, go_sem]) rfl ⟨rfl, rfl⟩
    · have h0 : True := trivial
      have f0 : ((s.extract 0 (min 2 (s.size : Int)).toNat).toList == [61, 61]) = false := by rw [hm]; rfl
      have f1 : ((s.extract 0 (min 2 (s.size : Int)).toNat).toList == [33, 61]) = false := by rw [hm]; rfl
      have f2 : ((s.extract 0 (min 2 (s.size : Int)).toNat).toList == [60, 61]) = false := by rw [hm]; rfl
      have f3 : ((s.extract 0 (min 2 (s.size : Int)).toNat).toList == [62, 61]) = false := by rw [hm]; rfl
      have f4 : ((s.extract 0 (min 2 (s.size : Int)).toNat).toList == [38, 38]) = false := by rw [hm]; rfl
      have f5 : ((s.extract 0 (min 2 (s.size : Int)).toNat).toList == [124, 124]) = false := by rw [hm]; rfl
      have f6 : ((s.extract 0 (min 2 (s.size : Int)).toNat).toList == [43, 43]) = true := by rw [hm]; rfl
      clear hm
      go_enter Tryd.func40, Tryd.ntmps40
      go_wp2
      exact bodyPost_ret (v := .tuple #[.int .i64 4, .int .i64 2]) (by simp [results, Tryd.results40, go_sem]) rfl ⟨rfl, rfl⟩
    · have h0 : True := trivial
      have f0 : ((s.extract 0 (min 2 (s.size : Int)).toNat).toList == [61, 61]) = false := by rw [hm]; rfl
      have f1 : ((s.extract 0 (min 2 (s.size : Int)).toNat).toList == [33, 61]) = false := by rw [hm]; rfl
      have f2 : ((s.extract 0 (min 2 (s.size : Int)).toNat).toList == [60, 61]) = false := by rw [hm]; rfl
      have f3 : ((s.extract 0 (min 2 (s.size : Int)).toNat).toList == [62, 61]) = false := by rw [hm]; rfl
      have f4 : ((s.extract 0 (min 2 (s.size : Int)).toNat).toList == [38, 38]) = false := by rw [hm]; rfl
      have f5 : ((s.extract 0 (min 2 (s.size : Int)).toNat).toList == [124, 124]) = false := by rw [hm]; rfl
      have f6 : ((s.extract 0 (min 2 (s.size : Int)).toNat).toList == [43, 43]) = false := by rw [hm]; rfl
      have f7 : ((s.extract 0 (min 2 (s.size : Int)).toNat).toList == [45, 45]) = true := by rw [hm]; rfl
      clear hm
      go_enter Tryd.func40, Tryd.ntmps40
      go_wp2
      exact bodyPost_ret (v := .tuple #[.int .i64 4, .int .i64 2]) (by simp [results, Tryd.results40, go_sem]) rfl ⟨rfl, rfl⟩
    · have h0 : True := trivial
      have f0 : ((s.extract 0 (min 2 (s.size : Int)).toNat).toList == [61, 61]) = false := by rw [hm]; rfl
      have f1 : ((s.extract 0 (min 2 (s.size : Int)).toNat).toList == [33, 61]) = false := by rw [hm]; rfl
      have f2 : ((s.extract 0 (min 2 (s.size : Int)).toNat).toList == [60, 61]) = false := by rw [hm]; rfl
      have f3 : ((s.extract 0 (min 2 (s.size : Int)).toNat).toList == [62, 61]) = false := by rw [hm]; rfl
      have f4 : ((s.extract 0 (min 2 (s.size : Int)).toNat).toList == [38, 38]) = false := by rw [hm]; rfl
      have f5 : ((s.extract 0 (min 2 (s.size : Int)).toNat).toList == [124, 124]) = false := by rw [hm]; rfl
      have f6 : ((s.extract 0 (min 2 (s.size : Int)).toNat).toList == [43, 43]) = false := by rw [hm]; rfl
      have f7 : ((s.extract 0 (min 2 (s.size : Int)).toNat).toList == [45, 45]) = false := by rw [hm]; rfl
      have f8 : ((s.extract 0 (min 2 (s.size : Int)).toNat).toList == [43, 61]) = true := by rw [hm]; rfl
      clear hm
      go_enter Tryd.func40, Tryd.ntmps40
      go_wp2
      exact bodyPost_ret (v := .tuple #[.int .i64 4, .int .i64 2]) (by simp [results, Tryd.results40, go_sem]) rfl ⟨rfl, rfl⟩
    · have h0 : True := trivial
      have f0 : ((s.extract 0 (min 2 (s.size : Int)).toNat).toList == [61, 61]) = false := by rw [hm]; rfl
      have f1 : ((s.extract 0 (min 2 (s.size : Int)).toNat).toList == [33, 61]) = false := by rw [hm]; rfl
      have f2 : ((s.extract 0 (min 2 (s.size : Int)).toNat).toList == [60, 61]) = false := by rw [hm]; rfl
      have f3 : ((s.extract 0 (min 2 (s.size : Int)).toNat).toList == [62, 61]) = false := by rw [hm]; rfl
      have f4 : ((s.extract 0 (min 2 (s.size : Int)).toNat).toList == [38, 38]) = false := by rw [hm]; rfl
      have f5 : ((s.extract 0 (min 2 (s.size : Int)).toNat).toList == [124, 124]) = false := by rw [hm]; rfl
      have f6 : ((s.extract 0 (min 2 (s.size : Int)).toNat).toList == [43, 43]) = false := by rw [hm]; rfl
      have f7 : ((s.extract 0 (min 2 (s.size : Int)).toNat).toList == [45, 45]) = false := by rw [hm]; rfl
      have f8 : ((s.extract 0 (min 2 (s.size : Int)).toNat).toList == [43, 61]) = false := by rw [hm]; rfl
      have f9 : ((s.extract 0 (min 2 (s.size : Int)).toNat).toList == [45, 61]) = true := by rw [hm]; rfl
      clear hm
      go_enter Tryd.func40, Tryd.ntmps40
      go_wp2
      exact bodyPost_ret (v := .tuple #[.int .i64 4, .int .i64 2]) (by simp [results, Tryd.results40, go_sem]) rfl ⟨rfl, rfl⟩
    · have h0 : True := trivial
      have f0 : ((s.extract 0 (min 2 (s.size : Int)).toNat).toList == [61, 61]) = false := by rw [hm]; rfl
      have f1 : ((s.extract 0 (min 2 (s.size : Int)).toNat).toList == [33, 61]) = false := by rw [hm]; rfl
      have f2 : ((s.extract 0 (min 2 (s.size : Int)).toNat).toList == [60, 61]) = false := by rw [hm]; rfl
      have f3 : ((s.extract 0 (min 2 (s.size : Int)).toNat).toList == [62, 61]) = false := by rw [hm]; rfl
      have f4 : ((s.extract 0 (min 2 (s.size : Int)).toNat).toList == [38, 38]) = false := by rw [hm]; rfl
      have f5 : ((s.extract 0 (min 2 (s.size : Int)).toNat).toList == [124, 124]) = false := by rw [hm]; rfl
      have f6 : ((s.extract 0 (min 2 (s.size : Int)).toNat).toList == [43, 43]) = false := by rw [hm]; rfl
      have f7 : ((s.extract 0 (min 2 (s.size : Int)).toNat).toList == [45, 45]) = false := by rw [hm]; rfl
      have f8 : ((s.extract 0 (min 2 (s.size : Int)).toNat).toList == [43, 61]) = false := by rw [hm]; rfl
      have f9 : ((s.extract 0 (min 2 (s.size : Int)).toNat).toList == [45, 61]) = false := by rw [hm]; rfl
      have f10 : ((s.extract 0 (min 2 (s.size : Int)).toNat).toList == [42, 61]) = true := by rw [hm]; rfl
      clear hm
      go_enter Tryd.func40, Tryd.ntmps40
      go_wp2
      exact bodyPost_ret (v := .tuple #[.int .i64 4, .int .i64 2]) (by simp [results, Tryd.results40, go_sem]) rfl ⟨rfl, rfl⟩
    · have h0 : True := trivial
      have f0 : ((s.extract 0 (min 2 (s.size : Int)).toNat).toList == [61, 61]) = false := by rw [hm]; rfl
      have f1 : ((s.extract 0 (min 2 (s.size : Int)).toNat).toList == [33, 61]) = false := by rw [hm]; rfl
      have f2 : ((s.extract 0 (min 2 (s.size : Int)).toNat).toList == [60, 61]) = false := by rw [hm]; rfl
      have f3 : ((s.extract 0 (min 2 (s.size : Int)).toNat).toList == [62, 61]) = false := by rw [hm]; rfl
      have f4 : ((s.extract 0 (min 2 (s.size : Int)).toNat).toList == [38, 38]) = false := by rw [hm]; rfl
      have f5 : ((s.extract 0 (min 2 (s.size : Int)).toNat).toList == [124, 124]) = false := by rw [hm]; rfl
      have f6 : ((s.extract 0 (min 2 (s.size : Int)).toNat).toList == [43, 43]) = false := by rw [hm]; rfl
      have f7 : ((s.extract 0 (min 2 (s.size : Int)).toNat).toList == [45, 45]) = false := by rw [hm]; rfl
      have f8 : ((s.extract 0 (min 2 (s.size : Int)).toNat).toList == [43, 61]) = false := by rw [hm]; rfl
      have f9 : ((s.extract 0 (min 2 (s.size : Int)).toNat).toList == [45, 61]) = false := by rw [hm]; rfl
      have f10 : ((s.extract 0 (min 2 (s.size : Int)).toNat).toList == [42, 61]) = false := by rw [hm]; rfl
      have f11 : ((s.extract 0 (min 2 (s.size : Int)).toNat).toList == [47, 61]) = true := by rw [hm]; rfl
      clear hm
      go_enter Tryd.func40, Tryd.ntmps40
      go_wp2
      exact bodyPost_ret (v := .tuple #[.int .i64 4, .int .i64 2]) (by simp [results, Tryd.results40, go_sem]) rfl ⟨rfl, rfl⟩
  · have hb : signP s.data.toList = if begN isOne s.data.toList = true then (4, 1) else (-2, 1) := by unfold signP; rw [if_neg h]
    rw [hb, begN_ba _ s (by omega)]
    have hm : ¬ s.data.toList.take 2 ∈ twos := by simpa [isTwo] using h
    rw [← hL] at hm
    simp only [twos, List.mem_cons, List.not_mem_nil, or_false, not_or] at hm
    obtain ⟨g0, g1, g2, g3, g4, g5, g6, g7, g8, g9, g10, g11⟩ := hm
    have f0 : ((s.extract 0 (min 2 (s.size : Int)).toNat).toList == [61, 61]) = false := beq_eq_false_iff_ne.2 g0
    have f1 : ((s.extract 0 (min 2 (s.size : Int)).toNat).toList == [33, 61]) = false := beq_eq_false_iff_ne.2 g1
    have f2 : ((s.extract 0 (min 2 (s.size : Int)).toNat).toList == [60, 61]) = false := beq_eq_false_iff_ne.2 g2
    have f3 : ((s.extract 0 (min 2 (s.size : Int)).toNat).toList == [62, 61]) = false := beq_eq_false_iff_ne.2 g3
    have f4 : ((s.extract 0 (min 2 (s.size : Int)).toNat).toList == [38, 38]) = false := beq_eq_false_iff_ne.2 g4
    have f5 : ((s.extract 0 (min 2 (s.size : Int)).toNat).toList == [124, 124]) = false := beq_eq_false_iff_ne.2 g5
    have f6 : ((s.extract 0 (min 2 (s.size : Int)).toNat).toList == [43, 43]) = false := beq_eq_false_iff_ne.2 g6
    have f7 : ((s.extract 0 (min 2 (s.size : Int)).toNat).toList == [45, 45]) = false := beq_eq_false_iff_ne.2 g7
    have f8 : ((s.extract 0 (min 2 (s.size : Int)).toNat).toList == [43, 61]) = false := beq_eq_false_iff_ne.2 g8
    have f9 : ((s.extract 0 (min 2 (s.size : Int)).toNat).toList == [45, 61]) = false := beq_eq_false_iff_ne.2 g9
    have f10 : ((s.extract 0 (min 2 (s.size : Int)).toNat).toList == [42, 61]) = false := beq_eq_false_iff_ne.2 g10
    have f11 : ((s.extract 0 (min 2 (s.size : Int)).toNat).toList == [47, 61]) = false := beq_eq_false_iff_ne.2 g11
    clear h hb hL g0 g1 g2 g3 g4 g5 g6 g7 g8 g9 g10 g11
    by_cases ho : isOne s[0] = true
    · rw [if_pos ho]
      have hm : s[0] ∈ ones := by simpa [isOne] using ho
      simp only [ones, List.mem_cons, List.not_mem_nil, or_false] at hm
      clear ho
      rcases hm with hm | hm | hm | hm | hm | hm | hm | hm | hm | hm | hm | hm | hm | hm | hm | hm | hm | hm | hm | hm
      · have h0 : True := trivial
        have k0 : ((s[0].toNat : Int) == 40) = true := by rw [hm]; rfl
        clear hm
        go_enter Tryd.func40, Tryd.ntmps40
        go_wp2
        exact bodyPost_ret (v := .tuple #[.int .i64 4, .int .i64 1]) (by simp [results, Tryd.results40, go_sem]) rfl ⟨rfl, rfl⟩
      · have h0 : True := trivial
        have k0 : ((s[0].toNat : Int) == 40) = false := by rw [hm]; rfl
        have k1 : ((s[0].toNat : Int) == 41) = true := by rw [hm]; rfl
        clear hm
        go_enter Tryd.func40, Tryd.ntmps40
        go_wp2
        exact bodyPost_ret (v := .tuple #[.int .i64 4, .int .i64 1]) (by simp [results, Tryd.results40, go_sem]) rfl ⟨rfl, rfl⟩
      · have h0 : True := trivial
        have k0 : ((s[0].toNat : Int) == 40) = false := by rw [hm]; rfl
        have k1 : ((s[0].toNat : Int) == 41) = false := by rw [hm]; rfl
        have k2 : ((s[0].toNat : Int) == 91) = true := by rw [hm]; rfl
        clear hm
        go_enter Tryd.func40, Tryd.ntmps40
        go_wp2
        exact bodyPost_ret (v := .tuple #[.int .i64 4, .int .i64 1]) (by simp [results, Tryd.results40, go_sem]) rfl ⟨rfl, rfl⟩
      · have h0 : True := trivial
        have k0 : ((s[0].toNat : Int) == 40) = false := by rw [hm]; rfl
        have k1 : ((s[0].toNat : Int) == 41) = false := by rw [hm]; rfl
        have k2 : ((s[0].toNat : Int) == 91) = false := by rw [hm]; rfl
        have k3 : ((s[0].toNat : Int) == 93) = true := by rw [hm]; rfl
        clear hm
        go_enter Tryd.func40, Tryd.ntmps40
        go_wp2
        exact bodyPost_ret (v := .tuple #[.int .i64 4, .int .i64 1]) (by simp [results, Tryd.results40, go_sem]) rfl ⟨rfl, rfl⟩
      · have h0 : True := trivial
        have k0 : ((s[0].toNat : Int) == 40) = false := by rw [hm]; rfl
        have k1 : ((s[0].toNat : Int) == 41) = false := by rw [hm]; rfl
        have k2 : ((s[0].toNat : Int) == 91) = false := by rw [hm]; rfl
        have k3 : ((s[0].toNat : Int) == 93) = false := by rw [hm]; rfl
        have k4 : ((s[0].toNat : Int) == 123) = true := by rw [hm]; rfl
        clear hm
        go_enter Tryd.func40, Tryd.ntmps40
        go_wp2
        exact bodyPost_ret (v := .tuple #[.int .i64 4, .int .i64 1]) (by simp [results, Tryd.results40, go_sem]) rfl ⟨rfl, rfl⟩
      · have h0 : True := trivial
        have k0 : ((s[0].toNat : Int) == 40) = false := by rw [hm]; rfl
        have k1 : ((s[0].toNat : Int) == 41) = false := by rw [hm]; rfl
        have k2 : ((s[0].toNat : Int) == 91) = false := by rw [hm]; rfl
        have k3 : ((s[0].toNat : Int) == 93) = false := by rw [hm]; rfl
        have k4 : ((s[0].toNat : Int) == 123) = false := by rw [hm]; rfl
        have k5 : ((s[0].toNat : Int) == 125) = true := by rw [hm]; rfl
        clear hm
        go_enter Tryd.func40, Tryd.ntmps40
        go_wp2
        exact bodyPost_ret (v := .tuple #[.int .i64 4, .int .i64 1]) (by simp [results, Tryd.results40, go_sem]) rfl ⟨rfl, rfl⟩
      · have h0 : True := trivial
        have k0 : ((s[0].toNat : Int) == 40) = false := by rw [hm]; rfl
        have k1 : ((s[0].toNat : Int) == 41) = false := by rw [hm]; rfl
        have k2 : ((s[0].toNat : Int) == 91) = false := by rw [hm]; rfl
        have k3 : ((s[0].toNat : Int) == 93) = false := by rw [hm]; rfl
        have k4 : ((s[0].toNat : Int) == 123) = false := by rw [hm]; rfl
        have k5 : ((s[0].toNat : Int) == 125) = false := by rw [hm]; rfl
        have k6 : ((s[0].toNat : Int) == 46) = true := by rw [hm]; rfl
        clear hm
        go_enter Tryd.func40, Tryd.ntmps40
        go_wp2
        exact bodyPost_ret (v := .tuple #[.int .i64 4, .int .i64 1]) (by simp [results, Tryd.results40, go_sem]) rfl ⟨rfl, rfl⟩
      · have h0 : True := trivial
        have k0 : ((s[0].toNat : Int) == 40) = false := by rw [hm]; rfl
        have k1 : ((s[0].toNat : Int) == 41) = false := by rw [hm]; rfl
        have k2 : ((s[0].toNat : Int) == 91) = false := by rw [hm]; rfl
        have k3 : ((s[0].toNat : Int) == 93) = false := by rw [hm]; rfl
        have k4 : ((s[0].toNat : Int) == 123) = false := by rw [hm]; rfl
        have k5 : ((s[0].toNat : Int) == 125) = false := by rw [hm]; rfl
        have k6 : ((s[0].toNat : Int) == 46) = false := by rw [hm]; rfl
        have k7 : ((s[0].toNat : Int) == 44) = true := by rw [hm]; rfl
        clear hm
        go_enter Tryd.func40, Tryd.ntmps40
        go_wp2
        exact bodyPost_ret (v := .tuple #[.int .i64 4, .int .i64 1]) (by simp [results, Tryd.results40, go_sem]) rfl ⟨rfl, rfl⟩
      · have h0 : True := trivial
        have k0 : ((s[0].toNat : Int) == 40) = false := by rw [hm]; rfl
        have k1 : ((s[0].toNat : Int) == 41) = false := by rw [hm]; rfl
        have k2 : ((s[0].toNat : Int) == 91) = false := by rw [hm]; rfl
        have k3 : ((s[0].toNat : Int) == 93) = false := by rw [hm]; rfl
        have k4 : ((s[0].toNat : Int) == 123) = false := by rw [hm]; rfl
        have k5 : ((s[0].toNat : Int) == 125) = false := by rw [hm]; rfl
        have k6 : ((s[0].toNat : Int) == 46) = false := by rw [hm]; rfl
        have k7 : ((s[0].toNat : Int) == 44) = false := by rw [hm]; rfl
        have k8 : ((s[0].toNat : Int) == 59) = true := by rw [hm]; rfl
        clear hm
        go_enter Tryd.func40, Tryd.ntmps40
        go_wp2
        exact bodyPost_ret (v := .tuple #[.int .i64 4, .int .i64 1]) (by simp [results, Tryd.results40, go_sem]) rfl ⟨rfl, rfl⟩
      · have h0 : True := trivial
        have k0 : ((s[0].toNat : Int) == 40) = false := by rw [hm]; rfl
        have k1 : ((s[0].toNat : Int) == 41) = false := by rw [hm]; rfl
        have k2 : ((s[0].toNat : Int) == 91) = false := by rw [hm]; rfl
        have k3 : ((s[0].toNat : Int) == 93) = false := by rw [hm]; rfl
        have k4 : ((s[0].toNat : Int) == 123) = false := by rw [hm]; rfl
        have k5 : ((s[0].toNat : Int) == 125) = false := by rw [hm]; rfl
        have k6 : ((s[0].toNat : Int) == 46) = false := by rw [hm]; rfl
        have k7 : ((s[0].toNat : Int) == 44) = false := by rw [hm]; rfl
        have k8 : ((s[0].toNat : Int) == 59) = false := by rw [hm]; rfl
        have k9 : ((s[0].toNat : Int) == 58) = true := by rw [hm]; rfl
        clear hm
        go_enter Tryd.func40, Tryd.ntmps40
        go_wp2
        exact bodyPost_ret (v := .tuple #[.int .i64 4, .int .i64 1]) (by simp [results, Tryd.results40, go_sem]) rfl ⟨rfl, rfl⟩
      · have h0 : True := trivial
        have k0 : ((s[0].toNat : Int) == 40) = false := by rw [hm]; rfl
        have k1 : ((s[0].toNat : Int) == 41) = false := by rw [hm]; rfl
        have k2 : ((s[0].toNat : Int) == 91) = false := by rw [hm]; rfl
        have k3 : ((s[0].toNat : Int) == 93) = false := by rw [hm]; rfl
        have k4 : ((s[0].toNat : Int) == 123) = false := by rw [hm]; rfl
        have k5 : ((s[0].toNat : Int) == 125) = false := by rw [hm]; rfl
        have k6 : ((s[0].toNat : Int) == 46) = false := by rw [hm]; rfl
        have k7 : ((s[0].toNat : Int) == 44) = false := by rw [hm]; rfl
        have k8 : ((s[0].toNat : Int) == 59) = false := by rw [hm]; rfl
        have k9 : ((s[0].toNat : Int) == 58) = false := by rw [hm]; rfl
        have k10 : ((s[0].toNat : Int) == 63) = true := by rw [hm]; rfl
        clear hm
        go_enter Tryd.func40, Tryd.ntmps40
        go_wp2
        exact bodyPost_ret (v := .tuple #[.int .i64 4, .int .i64 1]) (by simp [results, Tryd.results40, go_sem]) rfl ⟨rfl, rfl⟩
      · have h0 : True := trivial
        have k0 : ((s[0].toNat : Int) == 40) = false := by rw [hm]; rfl
        have k1 : ((s[0].toNat : Int) == 41) = false := by rw [hm]; rfl
        have k2 : ((s[0].toNat : Int) == 91) = false := by rw [hm]; rfl
        have k3 : ((s[0].toNat : Int) == 93) = false := by rw [hm]; rfl
        have k4 : ((s[0].toNat : Int) == 123) = false := by rw [hm]; rfl
        have k5 : ((s[0].toNat : Int) == 125) = false := by rw [hm]; rfl
        have k6 : ((s[0].toNat : Int) == 46) = false := by rw [hm]; rfl
        have k7 : ((s[0].toNat : Int) == 44) = false := by rw [hm]; rfl
        have k8 : ((s[0].toNat : Int) == 59) = false := by rw [hm]; rfl
        have k9 : ((s[0].toNat : Int) == 58) = false := by rw [hm]; rfl
        have k10 : ((s[0].toNat : Int) == 63) = false := by rw [hm]; rfl
        have k11 : ((s[0].toNat : Int) == 43) = true := by rw [hm]; rfl
        clear hm
        go_enter Tryd.func40, Tryd.ntmps40
        go_wp2
        exact bodyPost_ret (v := .tuple #[.int .i64 4, .int .i64 1]) (by simp [results, Tryd.results40, go_sem]) rfl ⟨rfl, rfl⟩
      · have h0 : True := trivial
        have k0 : ((s[0].toNat : Int) == 40) = false := by rw [hm]; rfl
        have k1 : ((s[0].toNat : Int) == 41) = false := by rw [hm]; rfl
        have k2 : ((s[0].toNat : Int) == 91) = false := by rw [hm]; rfl
        have k3 : ((s[0].toNat : Int) == 93) = false := by rw [hm]; rfl
        have k4 : ((s[0].toNat : Int) == 123) = false := by rw [hm]; rfl
        have k5 : ((s[0].toNat : Int) == 125) = false := by rw [hm]; rfl
        have k6 : ((s[0].toNat : Int) == 46) = false := by rw [hm]; rfl
        have k7 : ((s[0].toNat : Int) == 44) = false := by rw [hm]; rfl
        have k8 : ((s[0].toNat : Int) == 59) = false := by rw [hm]; rfl
        have k9 : ((s[0].toNat : Int) == 58) = false := by rw [hm]; rfl
        have k10 : ((s[0].toNat : Int) == 63) = false := by rw [hm]; rfl
        have k11 : ((s[0].toNat : Int) == 43) = false := by rw [hm]; rfl
        have k12 : ((s[0].toNat : Int) == 45) = true := by rw [hm]; rfl
        clear hm
        go_enter Tryd.func40, Tryd.ntmps40
        go_wp2
        exact bodyPost_ret (v := .tuple #[.int .i64 4, .int .i64 1]) (by simp [results, Tryd.results40, go_sem]) rfl ⟨rfl, rfl⟩
      · have h0 : True := trivial
        have k0 : ((s[0].toNat : Int) == 40) = false := by rw [hm]; rfl
        have k1 : ((s[0].toNat : Int) == 41) = false := by rw [hm]; rfl
        have k2 : ((s[0].toNat : Int) == 91) = false := by rw [hm]; rfl
        have k3 : ((s[0].toNat : Int) == 93) = false := by rw [hm]; rfl
        have k4 : ((s[0].toNat : Int) == 123) = false := by rw [hm]; rfl
        have k5 : ((s[0].toNat : Int) == 125) = false := by rw [hm]; rfl
        have k6 : ((s[0].toNat : Int) == 46) = false := by rw [hm]; rfl
        have k7 : ((s[0].toNat : Int) == 44) = false := by rw [hm]; rfl
        have k8 : ((s[0].toNat : Int) == 59) = false := by rw [hm]; rfl
        have k9 : ((s[0].toNat : Int) == 58) = false := by rw [hm]; rfl
        have k10 : ((s[0].toNat : Int) == 63) = false := by rw [hm]; rfl
        have k11 : ((s[0].toNat : Int) == 43) = false := by rw [hm]; rfl
        have k12 : ((s[0].toNat : Int) == 45) = false := by rw [hm]; rfl
        have k13 : ((s[0].toNat : Int) == 42) = true := by rw [hm]; rfl
        clear hm
        go_enter Tryd.func40, Tryd.ntmps40
        go_wp2
        exact bodyPost_ret (v := .tuple #[.int .i64 4, .int .i64 1]) (by simp [results, Tryd.results40, go_sem]) rfl ⟨rfl, rfl⟩
      · have h0 : True := trivial
        have k0 : ((s[0].toNat : Int) == 40) = false := by rw [hm]; rfl
        have k1 : ((s[0].toNat : Int) == 41) = false := by rw [hm]; rfl
        have k2 : ((s[0].toNat : Int) == 91) = false := by rw [hm]; rfl
        have k3 : ((s[0].toNat : Int) == 93) = false := by rw [hm]; rfl
        have k4 : ((s[0].toNat : Int) == 123) = false := by rw [hm]; rfl
        have k5 : ((s[0].toNat : Int) == 125) = false := by rw [hm]; rfl
        have k6 : ((s[0].toNat : Int) == 46) = false := by rw [hm]; rfl
        have k7 : ((s[0].toNat : Int) == 44) = false := by rw [hm]; rfl
        have k8 : ((s[0].toNat : Int) == 59) = false := by rw [hm]; rfl
        have k9 : ((s[0].toNat : Int) == 58) = false := by rw [hm]; rfl
        have k10 : ((s[0].toNat : Int) == 63) = false := by rw [hm]; rfl
        have k11 : ((s[0].toNat : Int) == 43) = false := by rw [hm]; rfl
        have k12 : ((s[0].toNat : Int) == 45) = false := by rw [hm]; rfl
        have k13 : ((s[0].toNat : Int) == 42) = false := by rw [hm]; rfl
        have k14 : ((s[0].toNat : Int) == 47) = true := by rw [hm]; rfl
        clear hm
        go_enter Tryd.func40, Tryd.ntmps40
        go_wp2
        exact bodyPost_ret (v := .tuple #[.int .i64 4, .int .i64 1]) (by simp [results, Tryd.results40, go_sem]) rfl ⟨rfl, rfl⟩
      · have h0 : True := trivial
        have k0 : ((s[0].toNat : Int) == 40) = false := by rw [hm]; rfl
        have k1 : ((s[0].toNat : Int) == 41) = false := by rw [hm]; rfl
        have k2 : ((s[0].toNat : Int) == 91) = false := by rw [hm]; rfl
        have k3 : ((s[0].toNat : Int) == 93) = false := by rw [hm]; rfl
        have k4 : ((s[0].toNat : Int) == 123) = false := by rw [hm]; rfl
        have k5 : ((s[0].toNat : Int) == 125) = false := by rw [hm]; rfl
        have k6 : ((s[0].toNat : Int) == 46) = false := by rw [hm]; rfl
        have k7 : ((s[0].toNat : Int) == 44) = false := by rw [hm]; rfl
        have k8 : ((s[0].toNat : Int) == 59) = false := by rw [hm]; rfl
        have k9 : ((s[0].toNat : Int) == 58) = false := by rw [hm]; rfl
        have k10 : ((s[0].toNat : Int) == 63) = false := by rw [hm]; rfl
        have k11 : ((s[0].toNat : Int) == 43) = false := by rw [hm]; rfl
        have k12 : ((s[0].toNat : Int) == 45) = false := by rw [hm]; rfl
        have k13 : ((s[0].toNat : Int) == 42) = false := by rw [hm]; rfl
        have k14 : ((s[0].toNat : Int) == 47) = false := by rw [hm]; rfl
        have k15 : ((s[0].toNat : Int) == 60) = true := by rw [hm]; rfl
        clear hm
        go_enter Tryd.func40, Tryd.ntmps40
        go_wp2
        exact bodyPost_ret (v := .tuple #[.int .i64 4, .int .i64 1]) (by simp [results, Tryd.results40, go_sem]) rfl ⟨rfl, rfl⟩
      · have h0 : True := trivial
        have k0 : ((s[0].toNat : Int) == 40) = false := by rw [hm]; rfl
        have k1 : ((s[0].toNat : Int) == 41) = false := by rw [hm]; rfl
        have k2 : ((s[0].toNat : Int) == 91) = false := by rw [hm]; rfl
        have k3 : ((s[0].toNat : Int) == 93) = false := by rw [hm]; rfl
        have k4 : ((s[0].toNat : Int) == 123) = false := by rw [hm]; rfl
        have k5 : ((s[0].toNat : Int) == 125) = false := by rw [hm]; rfl
        have k6 : ((s[0].toNat : Int) == 46) = false := by rw [hm]; rfl
        have k7 : ((s[0].toNat : Int) == 44) = false := by rw [hm]; rfl
        have k8 : ((s[0].toNat : Int) == 59) = false := by rw [hm]; rfl
        have k9 : ((s[0].toNat : Int) == 58) = false := by rw [hm]; rfl
        have k10 : ((s[0].toNat : Int) == 63) = false := by rw [hm]; rfl
        have k11 : ((s[0].toNat : Int) == 43) = false := by rw [hm]; rfl
        have k12 : ((s[0].toNat : Int) == 45) = false := by rw [hm]; rfl
        have k13 : ((s[0].toNat : Int) == 42) = false := by rw [hm]; rfl
        have k14 : ((s[0].toNat : Int) == 47) = false := by rw [hm]; rfl
        have k15 : ((s[0].toNat : Int) == 60) = false := by rw [hm]; rfl
        have k16 : ((s[0].toNat : Int) == 62) = true := by rw [hm]; rfl
        clear hm
        go_enter Tryd.func40, Tryd.ntmps40
        go_wp2
        exact bodyPost_ret (v := .tuple #[.int .i64 4, .int .i64 1]) (by simp [results, Tryd.results40, go_sem]) rfl ⟨rfl, rfl⟩
      · have h0 : True := trivial
        have k0 : ((s[0].toNat : Int) == 40) = false := by rw [hm]; rfl
        have k1 : ((s[0].toNat : Int) == 41) = false := by rw [hm]; rfl
        have k2 : ((s[0].toNat : Int) == 91) = false := by rw [hm]; rfl
        have k3 : ((s[0].toNat : Int) == 93) = false := by rw [hm]; rfl
        have k4 : ((s[0].toNat : Int) == 123) = false := by rw [hm]; rfl
        have k5 : ((s[0].toNat : Int) == 125) = false := by rw [hm]; rfl
        have k6 : ((s[0].toNat : Int) == 46) = false := by rw [hm]; rfl
        have k7 : ((s[0].toNat : Int) == 44) = false := by rw [hm]; rfl
        have k8 : ((s[0].toNat : Int) == 59) = false := by rw [hm]; rfl
        have k9 : ((s[0].toNat : Int) == 58) = false := by rw [hm]; rfl
        have k10 : ((s[0].toNat : Int) == 63) = false := by rw [hm]; rfl
        have k11 : ((s[0].toNat : Int) == 43) = false := by rw [hm]; rfl
        have k12 : ((s[0].toNat : Int) == 45) = false := by rw [hm]; rfl
        have k13 : ((s[0].toNat : Int) == 42) = false := by rw [hm]; rfl
        have k14 : ((s[0].toNat : Int) == 47) = false := by rw [hm]; rfl
        have k15 : ((s[0].toNat : Int) == 60) = false := by rw [hm]; rfl
        have k16 : ((s[0].toNat : Int) == 62) = false := by rw [hm]; rfl
        have k17 : ((s[0].toNat : Int) == 61) = true := by rw [hm]; rfl
        clear hm
        go_enter Tryd.func40, Tryd.ntmps40
        go_wp2
        exact bodyPost_ret (v := .tuple #[.int .i64 4, .int .i64 1]) (by simp [results, Tryd.results40, go_sem]) rfl ⟨rfl, rfl⟩
      · have h0 : True := trivial
        have k0 : ((s[0].toNat : Int) == 40) = false := by rw [hm]; rfl
        have k1 : ((s[0].toNat : Int) == 41) = false := by rw [hm]; rfl
        have k2 : ((s[0].toNat : Int) == 91) = false := by rw [hm]; rfl
        have k3 : ((s[0].toNat : Int) == 93) = false := by rw [hm]; rfl
        have k4 : ((s[0].toNat : Int) == 123) = false := by rw [hm]; rfl
        have k5 : ((s[0].toNat : Int) == 125) = false := by rw [hm]; rfl
        have k6 : ((s[0].toNat : Int) == 46) = false := by rw [hm]; rfl
        have k7 : ((s[0].toNat : Int) == 44) = false := by rw [hm]; rfl
        have k8 : ((s[0].toNat : Int) == 59) = false := by rw [hm]; rfl
        have k9 : ((s[0].toNat : Int) == 58) = false := by rw [hm]; rfl
        have k10 : ((s[0].toNat : Int) == 63) = false := by rw [hm]; rfl
        have k11 : ((s[0].toNat : Int) == 43) = false := by rw [hm]; rfl
        have k12 : ((s[0].toNat : Int) == 45) = false := by rw [hm]; rfl
        have k13 : ((s[0].toNat : Int) == 42) = false := by rw [hm]; rfl
        have k14 : ((s[0].toNat : Int) == 47) = false := by rw [hm]; rfl
        have k15 : ((s[0].toNat : Int) == 60) = false := by rw [hm]; rfl
        have k16 : ((s[0].toNat : Int) == 62) = false := by rw [hm]; rfl
        have k17 : ((s[0].toNat : Int) == 61) = false := by rw [hm]; rfl
        have k18 : ((s[0].toNat : Int) == 33) = true := by rw [hm]; rfl
        clear hm
        go_enter Tryd.func40, Tryd.ntmps40
        go_wp2
        exact bodyPost_ret (v := .tuple #[.int .i64 4, .int .i64 1]) (by simp [results, Tryd.results40, go_sem]) rfl ⟨rfl, rfl⟩
      · have h0 : True := trivial
        have k0 : ((s[0].toNat : Int) == 40) = false := by rw [hm]; rfl
        have k1 : ((s[0].toNat : Int) == 41) = false := by rw [hm]; rfl
        have k2 : ((s[0].toNat : Int) == 91) = false := by rw [hm]; rfl
        have k3 : ((s[0].toNat : Int) == 93) = false := by rw [hm]; rfl
        have k4 : ((s[0].toNat : Int) == 123) = false := by rw [hm]; rfl
        have k5 : ((s[0].toNat : Int) == 125) = false := by rw [hm]; rfl
        have k6 : ((s[0].toNat : Int) == 46) = false := by rw [hm]; rfl
        have k7 : ((s[0].toNat : Int) == 44) = false := by rw [hm]; rfl
        have k8 : ((s[0].toNat : Int) == 59) = false := by rw [hm]; rfl
        have k9 : ((s[0].toNat : Int) == 58) = false := by rw [hm]; rfl
        have k10 : ((s[0].toNat : Int) == 63) = false := by rw [hm]; rfl
        have k11 : ((s[0].toNat : Int) == 43) = false := by rw [hm]; rfl
        have k12 : ((s[0].toNat : Int) == 45) = false := by rw [hm]; rfl
        have k13 : ((s[0].toNat : Int) == 42) = false := by rw [hm]; rfl
        have k14 : ((s[0].toNat : Int) == 47) = false := by rw [hm]; rfl
        have k15 : ((s[0].toNat : Int) == 60) = false := by rw [hm]; rfl
        have k16 : ((s[0].toNat : Int) == 62) = false := by rw [hm]; rfl
        have k17 : ((s[0].toNat : Int) == 61) = false := by rw [hm]; rfl
        have k18 : ((s[0].toNat : Int) == 33) = false := by rw [hm]; rfl
        have k19 : ((s[0].toNat : Int) == 35) = true := by rw [hm]; rfl
        clear hm
        go_enter Tryd.func40, Tryd.ntmps40
        go_wp2
        exact bodyPost_ret (v := .tuple #[.int .i64 4, .int .i64 1]) (by simp [results, Tryd.results40, go_sem]) rfl ⟨rfl, rfl⟩
    · rw [if_neg ho]
      have hm : ¬ s[0] ∈ ones := by simpa [isOne] using ho
      have hk : ∀ (c : UInt8), c ∈ ones → ((s[0].toNat : Int) == (c.toNat : Int)) = false := fun c hc => by
        rw [beq_eq_false_iff_ne]
        intro e
        refine hm ?_
        have : s[0] = c := UInt8.toNat_inj.1 (by exact_mod_cast e)
        rw [this]
        exact hc
      clear hm ho
      have k0 : ((s[0].toNat : Int) == 40) = false := hk 40 (by decide)
      have k1 : ((s[0].toNat : Int) == 41) = false := hk 41 (by decide)
      have k2 : ((s[0].toNat : Int) == 91) = false := hk 91 (by decide)
      have k3 : ((s[0].toNat : Int) == 93) = false := hk 93 (by decide)
      have k4 : ((s[0].toNat : Int) == 123) = false := hk 123 (by decide)
      have k5 : ((s[0].toNat : Int) == 125) = false := hk 125 (by decide)
      have k6 : ((s[0].toNat : Int) == 46) = false := hk 46 (by decide)
      have k7 : ((s[0].toNat : Int) == 44) = false := hk 44 (by decide)
      have k8 : ((s[0].toNat : Int) == 59) = false := hk 59 (by decide)
      have k9 : ((s[0].toNat : Int) == 58) = false := hk 58 (by decide)
      have k10 : ((s[0].toNat : Int) == 63) = false := hk 63 (by decide)
      have k11 : ((s[0].toNat : Int) == 43) = false := hk 43 (by decide)
      have k12 : ((s[0].toNat : Int) == 45) = false := hk 45 (by decide)
      have k13 : ((s[0].toNat : Int) == 42) = false := hk 42 (by decide)
      have k14 : ((s[0].toNat : Int) == 47) = false := hk 47 (by decide)
      have k15 : ((s[0].toNat : Int) == 60) = false := hk 60 (by decide)
      have k16 : ((s[0].toNat : Int) == 62) = false := hk 62 (by decide)
      have k17 : ((s[0].toNat : Int) == 61) = false := hk 61 (by decide)
      have k18 : ((s[0].toNat : Int) == 33) = false := hk 33 (by decide)
      have k19 : ((s[0].toNat : Int) == 35) = false := hk 35 (by decide)
      clear hk
      go_enter Tryd.func40, Tryd.ntmps40
      go_wp2
      exact bodyPost_ret (v := .tuple #[.int .i64 (-2), .int .i64 1]) (by simp [results, Tryd.results40, go_sem]) rfl ⟨rfl, rfl⟩
end Go.Proofs.YtdcamcpffiilbaaDoor
