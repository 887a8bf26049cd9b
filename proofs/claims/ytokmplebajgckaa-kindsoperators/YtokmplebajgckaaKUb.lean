/-
  The document's operators between two types.
-/
import Derived.Test.YtokmplebajgckaaKR
import Derived.Test.YtokmplebajgckaaKE
namespace Go.Proofs.Ytokmplebajgckaa
open Go.RowKit
set_option linter.unusedVariables false
set_option linter.unusedSimpArgs false

theorem num_size {t : Ty} (h : mayP t = true) (hv : numP t = true) : 1 ≤ t.2 := by
  unfold mayP at h
  unfold numP at hv
  simp only [Bool.or_eq_true, Bool.and_eq_true, beq_iff_eq, decide_eq_true_eq] at h hv
  omega

set_option maxHeartbeats 4000000 in
set_option maxRecDepth 100000 in
theorem refBinary_any (o : Byts8) (a c : Ty) (w : World) :
    Calls Try.prog 16 #[.string ⟨o.toArray⟩, .agg #[.int .i64 (a).1, .int .i64 (a).2], .agg #[.int .i64 (c).1, .int .i64 (c).2]] w fun e w' => e = .returned (.tuple #[.agg #[.int .i64 ((binP o a c).1).1, .int .i64 ((binP o a c).1).2], .int .i64 (binP o a c).2]) ∧ Ext w w' := by
  have H0 := hide (reg2 w a c)
  have HM := hide refMay_any
  have HNU := hide refNumber_any
  have HVA := hide refValue_any
  have HTR := hide refTruth_any
  obtain ⟨U, hU⟩ : ∃ U, binP o a c = U := ⟨_, rfl⟩
  rw [hU]
  unfold binP at hU
  go_enter Try.func16, Try.ntmps16
  have HMx := hide (unhide HM a)
  cases hm0 : mayP a with
  | false =>
    rw [hm0] at HMx
    rw [if_pos (by simp [hm0])] at hU
    subst hU
    go_wp2_with fail
    refine (unhide HMx _).mono ?_
    rintro e wm ⟨rfl, hxm⟩
    have HS := Reg.ext hxm (unhide H0)
    clear hxm HMx 
    obtain ⟨c0, k0⟩ := HS.at (w.heap.size) (a) (by simp)
    obtain ⟨c1, k1⟩ := HS.at (w.heap.size + 1) (c) (by simp)
    obtain ⟨x, y, r0, r1, z0, z1⟩ := HS.res
    have HF := hide (HS.fin (.int .i64 0) (.int .i64 0))
    clear HS
    go_wp2
    obtain ⟨s0, s1⟩ := (unhide HF).1.two
    exact bodyPost_ret (v := .tuple #[.agg #[.int .i64 (noT).1, .int .i64 (noT).2], .int .i64 2]) (by simp [results, Try.results16, go_sem, s0, s1, noT]) rfl ⟨rfl, (unhide HF).2⟩
  | true =>
    rw [hm0] at HMx
    go_wp2_with fail
    refine (unhide HMx _).mono ?_
    rintro e wm0 ⟨rfl, hxm⟩
    have H1 := hide (Reg.ext hxm (unhide H0))
    clear hxm HMx H0
    obtain ⟨c0, k0⟩ := (unhide H1).at (w.heap.size) (a) (by simp)
    obtain ⟨c1, k1⟩ := (unhide H1).at (w.heap.size + 1) (c) (by simp)
    have HMx := hide (unhide HM c)
    cases hm1 : mayP c with
    | false =>
      rw [hm1] at HMx
      rw [if_pos (by simp [hm0, hm1])] at hU
      subst hU
      go_wp2_with fail
      refine (unhide HMx _).mono ?_
      rintro e wm ⟨rfl, hxm⟩
      have HS := Reg.ext hxm (unhide H1)
      clear hxm HMx c0 k0 c1 k1
      obtain ⟨c0, k0⟩ := HS.at (w.heap.size) (a) (by simp)
      obtain ⟨c1, k1⟩ := HS.at (w.heap.size + 1) (c) (by simp)
      obtain ⟨x, y, r0, r1, z0, z1⟩ := HS.res
      have HF := hide (HS.fin (.int .i64 0) (.int .i64 0))
      clear HS
      go_wp2
      obtain ⟨s0, s1⟩ := (unhide HF).1.two
      exact bodyPost_ret (v := .tuple #[.agg #[.int .i64 (noT).1, .int .i64 (noT).2], .int .i64 2]) (by simp [results, Try.results16, go_sem, s0, s1, noT]) rfl ⟨rfl, (unhide HF).2⟩
    | true =>
      rw [hm1] at HMx
      go_wp2_with fail
      refine (unhide HMx _).mono ?_
      rintro e wm1 ⟨rfl, hxm⟩
      have H2 := hide (Reg.ext hxm (unhide H1))
      clear hxm HMx H1
      clear c0 k0 c1 k1
      rw [if_neg (by simp [hm0, hm1])] at hU
      obtain ⟨c0, k0⟩ := (unhide H2).at (w.heap.size) (a) (by simp)
      obtain ⟨c1, k1⟩ := (unhide H2).at (w.heap.size + 1) (c) (by simp)
      by_cases h1 : o ∈ op1
      · rw [if_pos (by simpa using h1)] at hU
        unfold op1 at h1
        simp only [List.mem_cons, List.not_mem_nil, or_false] at h1
        rcases h1 with rfl | rfl | rfl | rfl <;>
        · have HN1 := hide (unhide HNU a)
          have HN2 := hide (unhide HNU c)
          cases hn : numP a with
          | false =>
            have ht : togB a c = false := by unfold togB; rw [hn]; rfl
            rw [ht] at hU
            subst hU
            rw [hn] at HN1
            go_wp2_with fail
            refine (unhide HN1 _).mono ?_
            rintro e w5 ⟨rfl, hxs⟩
            have H5 := hide (Reg.ext hxs (unhide H2))
            clear hxs c0 k0 c1 k1
            obtain ⟨c0, k0⟩ := (unhide H5).at (w.heap.size) (a) (by simp)
            obtain ⟨c1, k1⟩ := (unhide H5).at (w.heap.size + 1) (c) (by simp)
            have HS := unhide H5
            clear c0 k0 c1 k1 H5
            obtain ⟨c0, k0⟩ := HS.at (w.heap.size) (a) (by simp)
            obtain ⟨c1, k1⟩ := HS.at (w.heap.size + 1) (c) (by simp)
            obtain ⟨x, y, r0, r1, z0, z1⟩ := HS.res
            have HF := hide (HS.fin (.int .i64 0) (.int .i64 0))
            clear HS
            go_wp2
            obtain ⟨s0, s1⟩ := (unhide HF).1.two
            exact bodyPost_ret (v := .tuple #[.agg #[.int .i64 (noT).1, .int .i64 (noT).2], .int .i64 230]) (by simp [results, Try.results16, go_sem, s0, s1, noT]) rfl ⟨rfl, (unhide HF).2⟩
          | true =>
            rw [hn] at HN1
            cases hn2 : numP c with
            | false =>
              have ht : togB a c = false := by
                unfold togB
                cases hbb : (a.1 == c.1) with
                | false => simp
                | true =>
                  have hb2 : a.1 = c.1 := by simpa using hbb
                  unfold numP at hn hn2
                  rw [hb2, hn2] at hn
                  cases hn
              rw [ht] at hU
              subst hU
              rw [hn2] at HN2
              go_wp2_with fail
              refine (unhide HN1 _).mono ?_
              rintro e w5 ⟨rfl, hxs⟩
              have H5 := hide (Reg.ext hxs (unhide H2))
              clear hxs c0 k0 c1 k1
              obtain ⟨c0, k0⟩ := (unhide H5).at (w.heap.size) (a) (by simp)
              obtain ⟨c1, k1⟩ := (unhide H5).at (w.heap.size + 1) (c) (by simp)
              go_wp2_with fail
              refine (unhide HN2 _).mono ?_
              rintro e w6 ⟨rfl, hxs⟩
              have H6 := hide (Reg.ext hxs (unhide H5))
              clear hxs c0 k0 c1 k1
              obtain ⟨c0, k0⟩ := (unhide H6).at (w.heap.size) (a) (by simp)
              obtain ⟨c1, k1⟩ := (unhide H6).at (w.heap.size + 1) (c) (by simp)
              have HS := unhide H6
              clear c0 k0 c1 k1 H6
              obtain ⟨c0, k0⟩ := HS.at (w.heap.size) (a) (by simp)
              obtain ⟨c1, k1⟩ := HS.at (w.heap.size + 1) (c) (by simp)
              obtain ⟨x, y, r0, r1, z0, z1⟩ := HS.res
              have HF := hide (HS.fin (.int .i64 0) (.int .i64 0))
              clear HS
              go_wp2
              obtain ⟨s0, s1⟩ := (unhide HF).1.two
              exact bodyPost_ret (v := .tuple #[.agg #[.int .i64 (noT).1, .int .i64 (noT).2], .int .i64 230]) (by simp [results, Try.results16, go_sem, s0, s1, noT]) rfl ⟨rfl, (unhide HF).2⟩
            | true =>
              rw [hn2] at HN2
              have hsa := num_size hm0 hn
              have hsc := num_size hm1 hn2
              go_wp2_with fail
              refine (unhide HN1 _).mono ?_
              rintro e w5 ⟨rfl, hxs⟩
              have H5 := hide (Reg.ext hxs (unhide H2))
              clear hxs c0 k0 c1 k1
              obtain ⟨c0, k0⟩ := (unhide H5).at (w.heap.size) (a) (by simp)
              obtain ⟨c1, k1⟩ := (unhide H5).at (w.heap.size + 1) (c) (by simp)
              go_wp2_with fail
              refine (unhide HN2 _).mono ?_
              rintro e w6 ⟨rfl, hxs⟩
              have H6 := hide (Reg.ext hxs (unhide H5))
              clear hxs c0 k0 c1 k1
              obtain ⟨c0, k0⟩ := (unhide H6).at (w.heap.size) (a) (by simp)
              obtain ⟨c1, k1⟩ := (unhide H6).at (w.heap.size + 1) (c) (by simp)
              cases hbb : (a.1 == c.1) with
              | false =>
                have ht : togB a c = false := by unfold togB; rw [hbb]; simp
                rw [ht] at hU
                subst hU
                have HS := unhide H6
                clear c0 k0 c1 k1 H6
                obtain ⟨c0, k0⟩ := HS.at (w.heap.size) (a) (by simp)
                obtain ⟨c1, k1⟩ := HS.at (w.heap.size + 1) (c) (by simp)
                obtain ⟨x, y, r0, r1, z0, z1⟩ := HS.res
                have HF := hide (HS.fin (.int .i64 0) (.int .i64 0))
                clear HS
                go_wp2
                obtain ⟨s0, s1⟩ := (unhide HF).1.two
                exact bodyPost_ret (v := .tuple #[.agg #[.int .i64 (noT).1, .int .i64 (noT).2], .int .i64 230]) (by simp [results, Try.results16, go_sem, s0, s1, noT]) rfl ⟨rfl, (unhide HF).2⟩
              | true =>
                have hb2 : a.1 = c.1 := by simpa using hbb
                cases hss : (a.2 == c.2) with
                | true =>
                  have hs2 : a.2 = c.2 := by simpa using hss
                  have ht : comP (sumT a c) (togB a c) = (a, 0) := by
                    have g1 : togB a c = true := by unfold togB; rw [hn, hbb, hss]; rfl
                    have g2 : sumT a c = a := by unfold sumT; rw [← hs2, Int.max_self]
                    rw [g1, g2]
                    rfl
                  rw [ht] at hU
                  subst hU
                  clear hb2 hs2
                  have HS := unhide H6
                  clear c0 k0 c1 k1 H6
                  obtain ⟨c0, k0⟩ := HS.at (w.heap.size) (a) (by simp)
                  obtain ⟨c1, k1⟩ := HS.at (w.heap.size + 1) (c) (by simp)
                  obtain ⟨x, y, r0, r1, z0, z1⟩ := HS.res
                  have HF := hide (HS.fin (.int .i64 (a).1) (.int .i64 (a).2))
                  clear HS
                  go_wp2
                  obtain ⟨s0, s1⟩ := (unhide HF).1.two
                  exact bodyPost_ret (v := .tuple #[.agg #[.int .i64 (a).1, .int .i64 (a).2], .int .i64 0]) (by simp [results, Try.results16, go_sem, s0, s1, noT]) rfl ⟨rfl, (unhide HF).2⟩
                | false =>
                  cases hs1 : (c.2 == 1) with
                  | true =>
                    have hs2 : c.2 = 1 := by simpa using hs1
                    have ht : comP (sumT a c) (togB a c) = (a, 0) := by
                      have g1 : togB a c = true := by unfold togB; rw [hn, hbb, hs1]; simp
                      have g2 : sumT a c = a := by unfold sumT; rw [hs2, Int.max_eq_left (by omega)]
                      rw [g1, g2]
                      rfl
                    rw [ht] at hU
                    subst hU
                    clear hb2 hs2
                    have HS := unhide H6
                    clear c0 k0 c1 k1 H6
                    obtain ⟨c0, k0⟩ := HS.at (w.heap.size) (a) (by simp)
                    obtain ⟨c1, k1⟩ := HS.at (w.heap.size + 1) (c) (by simp)
                    obtain ⟨x, y, r0, r1, z0, z1⟩ := HS.res
                    have HF := hide (HS.fin (.int .i64 (a).1) (.int .i64 (a).2))
                    clear HS
                    go_wp2
                    obtain ⟨s0, s1⟩ := (unhide HF).1.two
                    exact bodyPost_ret (v := .tuple #[.agg #[.int .i64 (a).1, .int .i64 (a).2], .int .i64 0]) (by simp [results, Try.results16, go_sem, s0, s1, noT]) rfl ⟨rfl, (unhide HF).2⟩
                  | false =>
                    cases hs3 : (a.2 == 1) with
                    | true =>
                      have hs2 : a.2 = 1 := by simpa using hs3
                      have ht : comP (sumT a c) (togB a c) = (c, 0) := by
                        have g1 : togB a c = true := by unfold togB; rw [hn, hbb, hs3]; simp
                        have g2 : sumT a c = c := by unfold sumT; rw [hb2, hs2, Int.max_eq_right (by omega)]
                        rw [g1, g2]
                        rfl
                      rw [ht] at hU
                      subst hU
                      clear hb2 hs2
                      have HS := unhide H6
                      clear c0 k0 c1 k1 H6
                      obtain ⟨c0, k0⟩ := HS.at (w.heap.size) (a) (by simp)
                      obtain ⟨c1, k1⟩ := HS.at (w.heap.size + 1) (c) (by simp)
                      obtain ⟨x, y, r0, r1, z0, z1⟩ := HS.res
                      have HF := hide (HS.fin (.int .i64 (c).1) (.int .i64 (c).2))
                      clear HS
                      go_wp2
                      obtain ⟨s0, s1⟩ := (unhide HF).1.two
                      exact bodyPost_ret (v := .tuple #[.agg #[.int .i64 (c).1, .int .i64 (c).2], .int .i64 0]) (by simp [results, Try.results16, go_sem, s0, s1, noT]) rfl ⟨rfl, (unhide HF).2⟩
                    | false =>
                      have ht : togB a c = false := by unfold togB; rw [hss, hs1, hs3]; simp
                      rw [ht] at hU
                      subst hU
                      clear hb2
                      have HS := unhide H6
                      clear c0 k0 c1 k1 H6
                      obtain ⟨c0, k0⟩ := HS.at (w.heap.size) (a) (by simp)
                      obtain ⟨c1, k1⟩ := HS.at (w.heap.size + 1) (c) (by simp)
                      obtain ⟨x, y, r0, r1, z0, z1⟩ := HS.res
                      have HF := hide (HS.fin (.int .i64 0) (.int .i64 0))
                      clear HS
                      go_wp2
                      obtain ⟨s0, s1⟩ := (unhide HF).1.two
                      exact bodyPost_ret (v := .tuple #[.agg #[.int .i64 (noT).1, .int .i64 (noT).2], .int .i64 230]) (by simp [results, Try.results16, go_sem, s0, s1, noT]) rfl ⟨rfl, (unhide HF).2⟩
      · rw [if_neg (by simpa using h1)] at hU
        by_cases h2 : o ∈ op2
        · rw [if_pos (by simpa using h2)] at hU
          unfold op2 at h2
          simp only [List.mem_cons, List.not_mem_nil, or_false] at h2
          rcases h2 with rfl | rfl | rfl | rfl <;>
          · have HN1 := hide (unhide HNU a)
            cases hn : numP a with
            | false =>
              rw [hn, Bool.and_false, Bool.false_and] at hU
              subst hU
              rw [hn] at HN1
              go_wp2_with fail
              refine (unhide HN1 _).mono ?_
              rintro e w5 ⟨rfl, hxs⟩
              have H5 := hide (Reg.ext hxs (unhide H2))
              clear hxs c0 k0 c1 k1
              obtain ⟨c0, k0⟩ := (unhide H5).at (w.heap.size) (a) (by simp)
              obtain ⟨c1, k1⟩ := (unhide H5).at (w.heap.size + 1) (c) (by simp)
              have HS := unhide H5
              clear c0 k0 c1 k1 H5
              obtain ⟨c0, k0⟩ := HS.at (w.heap.size) (a) (by simp)
              obtain ⟨c1, k1⟩ := HS.at (w.heap.size + 1) (c) (by simp)
              obtain ⟨x, y, r0, r1, z0, z1⟩ := HS.res
              have HF := hide (HS.fin (.int .i64 0) (.int .i64 0))
              clear HS
              go_wp2
              obtain ⟨s0, s1⟩ := (unhide HF).1.two
              exact bodyPost_ret (v := .tuple #[.agg #[.int .i64 (noT).1, .int .i64 (noT).2], .int .i64 230]) (by simp [results, Try.results16, go_sem, s0, s1, noT]) rfl ⟨rfl, (unhide HF).2⟩
            | true =>
              rw [hn, Bool.and_true] at hU
              rw [hn] at HN1
              cases hq : eqT a c with
              | true =>
                rw [hq] at hU
                have eq := eqT_iff.1 hq
                subst eq
                have q1 : ((a).1 == (a).1) = true := by simp
                have q2 : ((a).2 == (a).2) = true := by simp
                rw [Bool.true_and] at hU
                unfold plnP at hU
                go_wp2_with fail
                refine (unhide HN1 _).mono ?_
                rintro e w5 ⟨rfl, hxs⟩
                have H5 := hide (Reg.ext hxs (unhide H2))
                clear hxs c0 k0 c1 k1
                obtain ⟨c0, k0⟩ := (unhide H5).at (w.heap.size) (a) (by simp)
                obtain ⟨c1, k1⟩ := (unhide H5).at (w.heap.size + 1) (a) (by simp)
                cases hs : (a.2 == 1) with
                | true =>
                  rw [hs] at hU
                  subst hU
                  go_wp2_with fail
                  refine (unhide HTR _).mono ?_
                  rintro e w9 ⟨rfl, hxs⟩
                  have HS := Reg.ext hxs (unhide H5)
                  clear hxs c0 k0 c1 k1 H5
                  obtain ⟨c0, k0⟩ := HS.at (w.heap.size) (a) (by simp)
                  obtain ⟨c1, k1⟩ := HS.at (w.heap.size + 1) (a) (by simp)
                  obtain ⟨x, y, r0, r1, z0, z1⟩ := HS.res
                  have HF := hide (HS.fin (.int .i64 (truT).1) (.int .i64 (truT).2))
                  clear HS
                  go_wp2
                  obtain ⟨s0, s1⟩ := (unhide HF).1.two
                  exact bodyPost_ret (v := .tuple #[.agg #[.int .i64 (truT).1, .int .i64 (truT).2], .int .i64 0]) (by simp [results, Try.results16, go_sem, s0, s1, noT]) rfl ⟨rfl, (unhide HF).2⟩
                | false =>
                  rw [hs] at hU
                  subst hU
                  have HS := unhide H5
                  clear c0 k0 c1 k1 H5
                  obtain ⟨c0, k0⟩ := HS.at (w.heap.size) (a) (by simp)
                  obtain ⟨c1, k1⟩ := HS.at (w.heap.size + 1) (a) (by simp)
                  obtain ⟨x, y, r0, r1, z0, z1⟩ := HS.res
                  have HF := hide (HS.fin (.int .i64 0) (.int .i64 0))
                  clear HS
                  go_wp2
                  obtain ⟨s0, s1⟩ := (unhide HF).1.two
                  exact bodyPost_ret (v := .tuple #[.agg #[.int .i64 (noT).1, .int .i64 (noT).2], .int .i64 230]) (by simp [results, Try.results16, go_sem, s0, s1, noT]) rfl ⟨rfl, (unhide HF).2⟩
              | false =>
                rw [hq] at hU
                rcases eqT_cases hq with q1 | ⟨q1, q2⟩ <;>
                · clear hq
                  rw [Bool.false_and] at hU
                  subst hU
                  go_wp2_with fail
                  refine (unhide HN1 _).mono ?_
                  rintro e w5 ⟨rfl, hxs⟩
                  have H5 := hide (Reg.ext hxs (unhide H2))
                  clear hxs c0 k0 c1 k1
                  obtain ⟨c0, k0⟩ := (unhide H5).at (w.heap.size) (a) (by simp)
                  obtain ⟨c1, k1⟩ := (unhide H5).at (w.heap.size + 1) (c) (by simp)
                  have HS := unhide H5
                  clear c0 k0 c1 k1 H5
                  obtain ⟨c0, k0⟩ := HS.at (w.heap.size) (a) (by simp)
                  obtain ⟨c1, k1⟩ := HS.at (w.heap.size + 1) (c) (by simp)
                  obtain ⟨x, y, r0, r1, z0, z1⟩ := HS.res
                  have HF := hide (HS.fin (.int .i64 0) (.int .i64 0))
                  clear HS
                  go_wp2
                  obtain ⟨s0, s1⟩ := (unhide HF).1.two
                  exact bodyPost_ret (v := .tuple #[.agg #[.int .i64 (noT).1, .int .i64 (noT).2], .int .i64 230]) (by simp [results, Try.results16, go_sem, s0, s1, noT]) rfl ⟨rfl, (unhide HF).2⟩
        · rw [if_neg (by simpa using h2)] at hU
          by_cases h3 : o ∈ op3
          · rw [if_pos (by simpa using h3)] at hU
            unfold op3 at h3
            simp only [List.mem_cons, List.not_mem_nil, or_false] at h3
            rcases h3 with rfl | rfl <;>
            · have HV1 := hide (unhide HVA a)
              cases hn : valuP a with
              | false =>
                rw [hn, Bool.and_false] at hU
                subst hU
                rw [hn] at HV1
                go_wp2_with fail
                refine (unhide HV1 _).mono ?_
                rintro e w5 ⟨rfl, hxs⟩
                have H5 := hide (Reg.ext hxs (unhide H2))
                clear hxs c0 k0 c1 k1
                obtain ⟨c0, k0⟩ := (unhide H5).at (w.heap.size) (a) (by simp)
                obtain ⟨c1, k1⟩ := (unhide H5).at (w.heap.size + 1) (c) (by simp)
                have HS := unhide H5
                clear c0 k0 c1 k1 H5
                obtain ⟨c0, k0⟩ := HS.at (w.heap.size) (a) (by simp)
                obtain ⟨c1, k1⟩ := HS.at (w.heap.size + 1) (c) (by simp)
                obtain ⟨x, y, r0, r1, z0, z1⟩ := HS.res
                have HF := hide (HS.fin (.int .i64 0) (.int .i64 0))
                clear HS
                go_wp2
                obtain ⟨s0, s1⟩ := (unhide HF).1.two
                exact bodyPost_ret (v := .tuple #[.agg #[.int .i64 (noT).1, .int .i64 (noT).2], .int .i64 230]) (by simp [results, Try.results16, go_sem, s0, s1, noT]) rfl ⟨rfl, (unhide HF).2⟩
              | true =>
                rw [hn, Bool.and_true] at hU
                rw [hn] at HV1
                cases hq : eqT a c with
                | true =>
                  rw [hq] at hU
                  have eq := eqT_iff.1 hq
                  subst eq
                  have q1 : ((a).1 == (a).1) = true := by simp
                  have q2 : ((a).2 == (a).2) = true := by simp
                  subst hU
                  go_wp2_with fail
                  refine (unhide HV1 _).mono ?_
                  rintro e w5 ⟨rfl, hxs⟩
                  have H5 := hide (Reg.ext hxs (unhide H2))
                  clear hxs c0 k0 c1 k1
                  obtain ⟨c0, k0⟩ := (unhide H5).at (w.heap.size) (a) (by simp)
                  obtain ⟨c1, k1⟩ := (unhide H5).at (w.heap.size + 1) (a) (by simp)
                  go_wp2_with fail
                  refine (unhide HTR _).mono ?_
                  rintro e w9 ⟨rfl, hxs⟩
                  have HS := Reg.ext hxs (unhide H5)
                  clear hxs c0 k0 c1 k1 H5
                  obtain ⟨c0, k0⟩ := HS.at (w.heap.size) (a) (by simp)
                  obtain ⟨c1, k1⟩ := HS.at (w.heap.size + 1) (a) (by simp)
                  obtain ⟨x, y, r0, r1, z0, z1⟩ := HS.res
                  have HF := hide (HS.fin (.int .i64 (truT).1) (.int .i64 (truT).2))
                  clear HS
                  go_wp2
                  obtain ⟨s0, s1⟩ := (unhide HF).1.two
                  exact bodyPost_ret (v := .tuple #[.agg #[.int .i64 (truT).1, .int .i64 (truT).2], .int .i64 0]) (by simp [results, Try.results16, go_sem, s0, s1, noT]) rfl ⟨rfl, (unhide HF).2⟩
                | false =>
                  rw [hq] at hU
                  rcases eqT_cases hq with q1 | ⟨q1, q2⟩ <;>
                  · clear hq
                    subst hU
                    go_wp2_with fail
                    refine (unhide HV1 _).mono ?_
                    rintro e w5 ⟨rfl, hxs⟩
                    have H5 := hide (Reg.ext hxs (unhide H2))
                    clear hxs c0 k0 c1 k1
                    obtain ⟨c0, k0⟩ := (unhide H5).at (w.heap.size) (a) (by simp)
                    obtain ⟨c1, k1⟩ := (unhide H5).at (w.heap.size + 1) (c) (by simp)
                    have HS := unhide H5
                    clear c0 k0 c1 k1 H5
                    obtain ⟨c0, k0⟩ := HS.at (w.heap.size) (a) (by simp)
                    obtain ⟨c1, k1⟩ := HS.at (w.heap.size + 1) (c) (by simp)
                    obtain ⟨x, y, r0, r1, z0, z1⟩ := HS.res
                    have HF := hide (HS.fin (.int .i64 0) (.int .i64 0))
                    clear HS
                    go_wp2
                    obtain ⟨s0, s1⟩ := (unhide HF).1.two
                    exact bodyPost_ret (v := .tuple #[.agg #[.int .i64 (noT).1, .int .i64 (noT).2], .int .i64 230]) (by simp [results, Try.results16, go_sem, s0, s1, noT]) rfl ⟨rfl, (unhide HF).2⟩
          · rw [if_neg (by simpa using h3)] at hU
            by_cases h4 : o ∈ op4
            · rw [if_pos (by simpa using h4)] at hU
              unfold op4 at h4
              simp only [List.mem_cons, List.not_mem_nil, or_false] at h4
              rcases h4 with rfl | rfl <;>
              · clear c0 k0 c1 k1
                cases hq : eqT a truT with
                | true =>
                  rw [hq] at hU
                  have eq := eqT_iff.1 hq
                  subst eq
                  have q1 : ((truT).1 == (truT).1) = true := by simp
                  have q2 : ((truT).2 == (truT).2) = true := by simp
                  rw [Bool.true_and] at hU
                  cases hp : eqT c truT with
                  | true =>
                    rw [hp] at hU
                    have ep := eqT_iff.1 hp
                    subst ep
                    have p1 : ((truT).1 == (truT).1) = true := by simp
                    have p2 : ((truT).2 == (truT).2) = true := by simp
                    subst hU
                    go_upto_region 16 with fail
                    refine wp_region_noPanic ?_
                    refine wp_region_held_drew (S := fun wx => Reg w [(w.heap.size, truT), (w.heap.size + 1, truT)] (w.heap.size + 1 + 1) wx) (by kernel_rfl) ((unhide H2).drew) (fun HS => ?_)
                    refine wpAnyH_take (i := 0) (oi := { dst := some 106, op := Op.load _ (Operand.tmp 4), type := _, pos := _, after := _, guard := none }) (v := .agg #[.int .i64 (truT).1, .int .i64 (truT).2]) rfl (by kernel_rfl) (by kernel_rfl) (by kernel_rfl) (fun _ _ _ h => h) (Or.inl ⟨by rfl, fun wx hx => by obtain ⟨c0, c1⟩ := hx.at (w.heap.size) (truT) (by simp); go_simp⟩) HS ?_
                    simp only [Act.put, List.setIfInBounds_toArray, List.set_cons_zero, List.set_cons_succ]
                    refine wpAnyH_ready (rs := [1]) (by kernel_rfl) (by simp) (AllReadyH.cons (o := { dst := some 107, op := Op.call { callee := Callee.value (Operand.func _), args := #[], argTypes := _ }, type := _, pos := _, after := _, guard := none }) rfl (fun KK hK => ?_) AllReadyH.nil)
                    go_simp
                    refine (unhide HTR _).mono ?_
                    rintro e ws ⟨rfl, hxs⟩
                    have HS2 := Reg.ext hxs HS
                    clear hxs HS
                    have HS := HS2
                    clear HS2
                    refine hK.out _ _ HS (fun _ => ?_)
                    clear hK KK
                    try simp only [Act.put, List.setIfInBounds_toArray, List.set_cons_zero, List.set_cons_succ]
                    refine wpAnyH_take (i := 2) (oi := { dst := some 108, op := Op.binOp BinOp.eql _ (Operand.tmp 106) (Operand.tmp 107) _, type := _, pos := _, after := _, guard := none }) (v := .bool (true)) rfl (by kernel_rfl) (by kernel_rfl) (by kernel_rfl) (fun _ _ _ h => h) (Or.inl ⟨by rfl, fun wx hx => by go_simp⟩) HS ?_
                    simp only [Act.put, List.setIfInBounds_toArray, List.set_cons_zero, List.set_cons_succ]
                    refine wpAnyH_take (i := 3) (oi := { dst := some 109, op := Op.move (Operand.tmp 108), type := _, pos := _, after := _, guard := none }) (v := .bool (true)) rfl (by kernel_rfl) (by kernel_rfl) (by kernel_rfl) (fun _ _ _ h => h) (Or.inl ⟨by rfl, fun wx hx => by go_simp⟩) HS ?_
                    simp only [Act.put, List.setIfInBounds_toArray, List.set_cons_zero, List.set_cons_succ]
                    refine wpAnyH_take (i := 4) (oi := { dst := some 110, op := Op.load _ (Operand.tmp 5), type := _, pos := _, after := _, guard := some (3, true) }) (v := .agg #[.int .i64 (truT).1, .int .i64 (truT).2]) rfl (by kernel_rfl) (by kernel_rfl) (by kernel_rfl) (fun _ _ _ h => h) (Or.inl ⟨by rfl, fun wx hx => by obtain ⟨c0, c1⟩ := hx.at (w.heap.size + 1) (truT) (by simp); go_simp⟩) HS ?_
                    simp only [Act.put, List.setIfInBounds_toArray, List.set_cons_zero, List.set_cons_succ]
                    refine wpAnyH_ready (rs := [5]) (by kernel_rfl) (by simp) (AllReadyH.cons (o := { dst := some 111, op := Op.call { callee := Callee.value (Operand.func _), args := #[], argTypes := _ }, type := _, pos := _, after := _, guard := some (3, true) }) rfl (fun KK hK => ?_) AllReadyH.nil)
                    go_simp
                    refine (unhide HTR _).mono ?_
                    rintro e ws ⟨rfl, hxs⟩
                    have HS2 := Reg.ext hxs HS
                    clear hxs HS
                    have HS := HS2
                    clear HS2
                    refine hK.out _ _ HS (fun _ => ?_)
                    clear hK KK
                    try simp only [Act.put, List.setIfInBounds_toArray, List.set_cons_zero, List.set_cons_succ]
                    refine wpAnyH_take (i := 6) (oi := { dst := some 112, op := Op.binOp BinOp.eql _ (Operand.tmp 110) (Operand.tmp 111) _, type := _, pos := _, after := _, guard := some (3, true) }) (v := .bool (true)) rfl (by kernel_rfl) (by kernel_rfl) (by kernel_rfl) (fun _ _ _ h => h) (Or.inl ⟨by rfl, fun wx hx => by go_simp⟩) HS ?_
                    simp only [Act.put, List.setIfInBounds_toArray, List.set_cons_zero, List.set_cons_succ]
                    refine wpAnyH_take (i := 7) (oi := { dst := some 113, op := Op.pick (Operand.tmp 109) (Operand.tmp 112) (Operand.const (Value.bool false)), type := _, pos := _, after := _, guard := none }) (v := .bool (true)) rfl (by kernel_rfl) (by kernel_rfl) (by kernel_rfl) (fun _ _ _ h => h) (Or.inl ⟨by rfl, fun wx hx => by go_simp⟩) HS ?_
                    simp only [Act.put, List.setIfInBounds_toArray, List.set_cons_zero, List.set_cons_succ]
                    refine wpAnyH_take (i := 8) (oi := { dst := some 8, op := Op.assign (Operand.tmp 113), type := _, pos := _, after := _, guard := none }) (v := .bool (true)) rfl (by kernel_rfl) (by kernel_rfl) (by kernel_rfl) (fun _ _ _ h => h) (Or.inl ⟨by rfl, fun wx hx => by go_simp⟩) HS ?_
                    simp only [Act.put, List.setIfInBounds_toArray, List.set_cons_zero, List.set_cons_succ]
                    refine wpAnyH_done (by kernel_rfl) ?_ _
                    refine NoPanic.normal ?_
                    obtain ⟨c0, k0⟩ := HS.at (w.heap.size) (truT) (by simp)
                    obtain ⟨c1, k1⟩ := HS.at (w.heap.size + 1) (truT) (by simp)
                    have H5 := hide HS
                    clear HS
                    go_wp2_with fail
                    refine (unhide HTR _).mono ?_
                    rintro e w9 ⟨rfl, hxs⟩
                    have HS := Reg.ext hxs (unhide H5)
                    clear hxs c0 k0 c1 k1 H5
                    obtain ⟨c0, k0⟩ := HS.at (w.heap.size) (truT) (by simp)
                    obtain ⟨c1, k1⟩ := HS.at (w.heap.size + 1) (truT) (by simp)
                    obtain ⟨x, y, r0, r1, z0, z1⟩ := HS.res
                    have HF := hide (HS.fin (.int .i64 (truT).1) (.int .i64 (truT).2))
                    clear HS
                    go_wp2
                    obtain ⟨s0, s1⟩ := (unhide HF).1.two
                    exact bodyPost_ret (v := .tuple #[.agg #[.int .i64 (truT).1, .int .i64 (truT).2], .int .i64 0]) (by simp [results, Try.results16, go_sem, s0, s1, noT]) rfl ⟨rfl, (unhide HF).2⟩
                  | false =>
                    rw [hp] at hU
                    rcases eqT_cases hp with p1 | ⟨p1, p2⟩ <;>
                    · clear hp
                      subst hU
                      go_upto_region 16 with fail
                      refine wp_region_noPanic ?_
                      refine wp_region_held_drew (S := fun wx => Reg w [(w.heap.size, truT), (w.heap.size + 1, c)] (w.heap.size + 1 + 1) wx) (by kernel_rfl) ((unhide H2).drew) (fun HS => ?_)
                      refine wpAnyH_take (i := 0) (oi := { dst := some 106, op := Op.load _ (Operand.tmp 4), type := _, pos := _, after := _, guard := none }) (v := .agg #[.int .i64 (truT).1, .int .i64 (truT).2]) rfl (by kernel_rfl) (by kernel_rfl) (by kernel_rfl) (fun _ _ _ h => h) (Or.inl ⟨by rfl, fun wx hx => by obtain ⟨c0, c1⟩ := hx.at (w.heap.size) (truT) (by simp); go_simp⟩) HS ?_
                      simp only [Act.put, List.setIfInBounds_toArray, List.set_cons_zero, List.set_cons_succ]
                      refine wpAnyH_ready (rs := [1]) (by kernel_rfl) (by simp) (AllReadyH.cons (o := { dst := some 107, op := Op.call { callee := Callee.value (Operand.func _), args := #[], argTypes := _ }, type := _, pos := _, after := _, guard := none }) rfl (fun KK hK => ?_) AllReadyH.nil)
                      go_simp
                      refine (unhide HTR _).mono ?_
                      rintro e ws ⟨rfl, hxs⟩
                      have HS2 := Reg.ext hxs HS
                      clear hxs HS
                      have HS := HS2
                      clear HS2
                      refine hK.out _ _ HS (fun _ => ?_)
                      clear hK KK
                      try simp only [Act.put, List.setIfInBounds_toArray, List.set_cons_zero, List.set_cons_succ]
                      refine wpAnyH_take (i := 2) (oi := { dst := some 108, op := Op.binOp BinOp.eql _ (Operand.tmp 106) (Operand.tmp 107) _, type := _, pos := _, after := _, guard := none }) (v := .bool (true)) rfl (by kernel_rfl) (by kernel_rfl) (by kernel_rfl) (fun _ _ _ h => h) (Or.inl ⟨by rfl, fun wx hx => by go_simp⟩) HS ?_
                      simp only [Act.put, List.setIfInBounds_toArray, List.set_cons_zero, List.set_cons_succ]
                      refine wpAnyH_take (i := 3) (oi := { dst := some 109, op := Op.move (Operand.tmp 108), type := _, pos := _, after := _, guard := none }) (v := .bool (true)) rfl (by kernel_rfl) (by kernel_rfl) (by kernel_rfl) (fun _ _ _ h => h) (Or.inl ⟨by rfl, fun wx hx => by go_simp⟩) HS ?_
                      simp only [Act.put, List.setIfInBounds_toArray, List.set_cons_zero, List.set_cons_succ]
                      refine wpAnyH_take (i := 4) (oi := { dst := some 110, op := Op.load _ (Operand.tmp 5), type := _, pos := _, after := _, guard := some (3, true) }) (v := .agg #[.int .i64 (c).1, .int .i64 (c).2]) rfl (by kernel_rfl) (by kernel_rfl) (by kernel_rfl) (fun _ _ _ h => h) (Or.inl ⟨by rfl, fun wx hx => by obtain ⟨c0, c1⟩ := hx.at (w.heap.size + 1) (c) (by simp); go_simp⟩) HS ?_
                      simp only [Act.put, List.setIfInBounds_toArray, List.set_cons_zero, List.set_cons_succ]
                      refine wpAnyH_ready (rs := [5]) (by kernel_rfl) (by simp) (AllReadyH.cons (o := { dst := some 111, op := Op.call { callee := Callee.value (Operand.func _), args := #[], argTypes := _ }, type := _, pos := _, after := _, guard := some (3, true) }) rfl (fun KK hK => ?_) AllReadyH.nil)
                      go_simp
                      refine (unhide HTR _).mono ?_
                      rintro e ws ⟨rfl, hxs⟩
                      have HS2 := Reg.ext hxs HS
                      clear hxs HS
                      have HS := HS2
                      clear HS2
                      refine hK.out _ _ HS (fun _ => ?_)
                      clear hK KK
                      try simp only [Act.put, List.setIfInBounds_toArray, List.set_cons_zero, List.set_cons_succ]
                      refine wpAnyH_take (i := 6) (oi := { dst := some 112, op := Op.binOp BinOp.eql _ (Operand.tmp 110) (Operand.tmp 111) _, type := _, pos := _, after := _, guard := some (3, true) }) (v := .bool (false)) rfl (by kernel_rfl) (by kernel_rfl) (by kernel_rfl) (fun _ _ _ h => h) (Or.inl ⟨by rfl, fun wx hx => by go_simp⟩) HS ?_
                      simp only [Act.put, List.setIfInBounds_toArray, List.set_cons_zero, List.set_cons_succ]
                      refine wpAnyH_take (i := 7) (oi := { dst := some 113, op := Op.pick (Operand.tmp 109) (Operand.tmp 112) (Operand.const (Value.bool false)), type := _, pos := _, after := _, guard := none }) (v := .bool (false)) rfl (by kernel_rfl) (by kernel_rfl) (by kernel_rfl) (fun _ _ _ h => h) (Or.inl ⟨by rfl, fun wx hx => by go_simp⟩) HS ?_
                      simp only [Act.put, List.setIfInBounds_toArray, List.set_cons_zero, List.set_cons_succ]
                      refine wpAnyH_take (i := 8) (oi := { dst := some 8, op := Op.assign (Operand.tmp 113), type := _, pos := _, after := _, guard := none }) (v := .bool (false)) rfl (by kernel_rfl) (by kernel_rfl) (by kernel_rfl) (fun _ _ _ h => h) (Or.inl ⟨by rfl, fun wx hx => by go_simp⟩) HS ?_
                      simp only [Act.put, List.setIfInBounds_toArray, List.set_cons_zero, List.set_cons_succ]
                      refine wpAnyH_done (by kernel_rfl) ?_ _
                      refine NoPanic.normal ?_
                      obtain ⟨c0, k0⟩ := HS.at (w.heap.size) (truT) (by simp)
                      obtain ⟨c1, k1⟩ := HS.at (w.heap.size + 1) (c) (by simp)
                      obtain ⟨x, y, r0, r1, z0, z1⟩ := HS.res
                      have HF := hide (HS.fin (.int .i64 0) (.int .i64 0))
                      clear HS
                      go_wp2
                      obtain ⟨s0, s1⟩ := (unhide HF).1.two
                      exact bodyPost_ret (v := .tuple #[.agg #[.int .i64 (noT).1, .int .i64 (noT).2], .int .i64 230]) (by simp [results, Try.results16, go_sem, s0, s1, noT]) rfl ⟨rfl, (unhide HF).2⟩
                | false =>
                  rw [hq] at hU
                  rcases eqT_cases hq with q1 | ⟨q1, q2⟩ <;>
                  · clear hq
                    rw [Bool.false_and] at hU
                    subst hU
                    go_upto_region 16 with fail
                    refine wp_region_noPanic ?_
                    refine wp_region_held_drew (S := fun wx => Reg w [(w.heap.size, a), (w.heap.size + 1, c)] (w.heap.size + 1 + 1) wx) (by kernel_rfl) ((unhide H2).drew) (fun HS => ?_)
                    refine wpAnyH_take (i := 0) (oi := { dst := some 106, op := Op.load _ (Operand.tmp 4), type := _, pos := _, after := _, guard := none }) (v := .agg #[.int .i64 (a).1, .int .i64 (a).2]) rfl (by kernel_rfl) (by kernel_rfl) (by kernel_rfl) (fun _ _ _ h => h) (Or.inl ⟨by rfl, fun wx hx => by obtain ⟨c0, c1⟩ := hx.at (w.heap.size) (a) (by simp); go_simp⟩) HS ?_
                    simp only [Act.put, List.setIfInBounds_toArray, List.set_cons_zero, List.set_cons_succ]
                    refine wpAnyH_ready (rs := [1]) (by kernel_rfl) (by simp) (AllReadyH.cons (o := { dst := some 107, op := Op.call { callee := Callee.value (Operand.func _), args := #[], argTypes := _ }, type := _, pos := _, after := _, guard := none }) rfl (fun KK hK => ?_) AllReadyH.nil)
                    go_simp
                    refine (unhide HTR _).mono ?_
                    rintro e ws ⟨rfl, hxs⟩
                    have HS2 := Reg.ext hxs HS
                    clear hxs HS
                    have HS := HS2
                    clear HS2
                    refine hK.out _ _ HS (fun _ => ?_)
                    clear hK KK
                    try simp only [Act.put, List.setIfInBounds_toArray, List.set_cons_zero, List.set_cons_succ]
                    refine wpAnyH_take (i := 2) (oi := { dst := some 108, op := Op.binOp BinOp.eql _ (Operand.tmp 106) (Operand.tmp 107) _, type := _, pos := _, after := _, guard := none }) (v := .bool (false)) rfl (by kernel_rfl) (by kernel_rfl) (by kernel_rfl) (fun _ _ _ h => h) (Or.inl ⟨by rfl, fun wx hx => by go_simp⟩) HS ?_
                    simp only [Act.put, List.setIfInBounds_toArray, List.set_cons_zero, List.set_cons_succ]
                    refine wpAnyH_take (i := 3) (oi := { dst := some 109, op := Op.move (Operand.tmp 108), type := _, pos := _, after := _, guard := none }) (v := .bool (false)) rfl (by kernel_rfl) (by kernel_rfl) (by kernel_rfl) (fun _ _ _ h => h) (Or.inl ⟨by rfl, fun wx hx => by go_simp⟩) HS ?_
                    simp only [Act.put, List.setIfInBounds_toArray, List.set_cons_zero, List.set_cons_succ]
                    refine wpAnyH_take (i := 4) (oi := { dst := some 110, op := Op.load _ (Operand.tmp 5), type := _, pos := _, after := _, guard := some (3, true) }) (v := undef) rfl (by kernel_rfl) (by kernel_rfl) (by kernel_rfl) (fun _ _ _ h => h) (Or.inr ⟨by rfl, rfl⟩) HS ?_
                    simp only [Act.put, List.setIfInBounds_toArray, List.set_cons_zero, List.set_cons_succ]
                    refine wpAnyH_take (i := 5) (oi := { dst := some 111, op := Op.call { callee := Callee.value (Operand.func _), args := #[], argTypes := _ }, type := _, pos := _, after := _, guard := some (3, true) }) (v := undef) rfl (by kernel_rfl) (by kernel_rfl) (by kernel_rfl) (fun _ _ _ h => h) (Or.inr ⟨by rfl, rfl⟩) HS ?_
                    simp only [Act.put, List.setIfInBounds_toArray, List.set_cons_zero, List.set_cons_succ]
                    refine wpAnyH_take (i := 6) (oi := { dst := some 112, op := Op.binOp BinOp.eql _ (Operand.tmp 110) (Operand.tmp 111) _, type := _, pos := _, after := _, guard := some (3, true) }) (v := undef) rfl (by kernel_rfl) (by kernel_rfl) (by kernel_rfl) (fun _ _ _ h => h) (Or.inr ⟨by rfl, rfl⟩) HS ?_
                    simp only [Act.put, List.setIfInBounds_toArray, List.set_cons_zero, List.set_cons_succ]
                    refine wpAnyH_take (i := 7) (oi := { dst := some 113, op := Op.pick (Operand.tmp 109) (Operand.tmp 112) (Operand.const (Value.bool false)), type := _, pos := _, after := _, guard := none }) (v := .bool (false)) rfl (by kernel_rfl) (by kernel_rfl) (by kernel_rfl) (fun _ _ _ h => h) (Or.inl ⟨by rfl, fun wx hx => by go_simp⟩) HS ?_
                    simp only [Act.put, List.setIfInBounds_toArray, List.set_cons_zero, List.set_cons_succ]
                    refine wpAnyH_take (i := 8) (oi := { dst := some 8, op := Op.assign (Operand.tmp 113), type := _, pos := _, after := _, guard := none }) (v := .bool (false)) rfl (by kernel_rfl) (by kernel_rfl) (by kernel_rfl) (fun _ _ _ h => h) (Or.inl ⟨by rfl, fun wx hx => by go_simp⟩) HS ?_
                    simp only [Act.put, List.setIfInBounds_toArray, List.set_cons_zero, List.set_cons_succ]
                    refine wpAnyH_done (by kernel_rfl) ?_ _
                    refine NoPanic.normal ?_
                    obtain ⟨c0, k0⟩ := HS.at (w.heap.size) (a) (by simp)
                    obtain ⟨c1, k1⟩ := HS.at (w.heap.size + 1) (c) (by simp)
                    obtain ⟨x, y, r0, r1, z0, z1⟩ := HS.res
                    have HF := hide (HS.fin (.int .i64 0) (.int .i64 0))
                    clear HS
                    go_wp2
                    obtain ⟨s0, s1⟩ := (unhide HF).1.two
                    exact bodyPost_ret (v := .tuple #[.agg #[.int .i64 (noT).1, .int .i64 (noT).2], .int .i64 230]) (by simp [results, Try.results16, go_sem, s0, s1, noT]) rfl ⟨rfl, (unhide HF).2⟩
            · rw [if_neg (by simpa using h4)] at hU
              subst hU
              have f1 : ∀ x ∈ op1, (o == x) = false := fun x hx => beq_eq_false_iff_ne.2 (fun e => h1 (by subst e; exact hx))
              have g0 := f1 [43] (by decide)
              have g1 := f1 [45] (by decide)
              have g2 := f1 [42] (by decide)
              have g3 := f1 [47] (by decide)
              clear f1 h1
              have f2 : ∀ x ∈ op2, (o == x) = false := fun x hx => beq_eq_false_iff_ne.2 (fun e => h2 (by subst e; exact hx))
              have g4 := f2 [60] (by decide)
              have g5 := f2 [62] (by decide)
              have g6 := f2 [60, 61] (by decide)
              have g7 := f2 [62, 61] (by decide)
              clear f2 h2
              have f3 : ∀ x ∈ op3, (o == x) = false := fun x hx => beq_eq_false_iff_ne.2 (fun e => h3 (by subst e; exact hx))
              have g8 := f3 [61, 61] (by decide)
              have g9 := f3 [33, 61] (by decide)
              clear f3 h3
              have f4 : ∀ x ∈ op4, (o == x) = false := fun x hx => beq_eq_false_iff_ne.2 (fun e => h4 (by subst e; exact hx))
              have g10 := f4 [38, 38] (by decide)
              have g11 := f4 [124, 124] (by decide)
              clear f4 h4
              have HS := unhide H2
              clear c0 k0 c1 k1 H2
              obtain ⟨c0, k0⟩ := HS.at (w.heap.size) (a) (by simp)
              obtain ⟨c1, k1⟩ := HS.at (w.heap.size + 1) (c) (by simp)
              obtain ⟨x, y, r0, r1, z0, z1⟩ := HS.res
              have HF := hide (HS.fin (.int .i64 0) (.int .i64 0))
              clear HS
              go_wp2
              obtain ⟨s0, s1⟩ := (unhide HF).1.two
              exact bodyPost_ret (v := .tuple #[.agg #[.int .i64 (noT).1, .int .i64 (noT).2], .int .i64 4]) (by simp [results, Try.results16, go_sem, s0, s1, noT]) rfl ⟨rfl, (unhide HF).2⟩
end Go.Proofs.Ytokmplebajgckaa
