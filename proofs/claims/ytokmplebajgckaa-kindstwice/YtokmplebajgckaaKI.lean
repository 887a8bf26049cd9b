/-
  What comes of a field.
-/
import Derived.Test.YtokmplebajgckaaKH
import Derived.Test.YtokmplebajgckaaKQ
namespace Go.Proofs.Ytokmplebajgckaa
open Go.RowKit
set_option linter.unusedVariables false
set_option linter.unusedSimpArgs false

def fieldP (t : Ty) (nm : Byts8) : Ty × List Int × Int :=
  if mayP t = false then (noT, [], 2)
  else if plnP t = true ∨ valuP t = false then (noT, [], 231)
  else if placesP nm t.2.toNat = [] then (noT, [], 231)
  else (⟨t.1, ((placesP nm t.2.toNat).length : Int)⟩, placesP nm t.2.toNat, 0)

set_option maxHeartbeats 4000000 in
theorem field_any (t : Ty) (s : ByteArray) (w : World) :
    Calls Try.prog 23 #[.agg #[.int .i64 (t).1, .int .i64 (t).2], .string s] w fun e w' => ∃ v, e = .returned (.tuple #[.agg #[.int .i64 ((fieldP t s.data.toList).1).1, .int .i64 ((fieldP t s.data.toList).1).2], v, .int .i64 (fieldP t s.data.toList).2.2]) ∧ Own .i64 w' w.heap.size 3 v (fieldP t s.data.toList).2.1 ∧ Ext w w' := by
  have H0 := hide (reg1 w t)
  have HM := hide (mayBe_any _ [t] _ (TyR.one (w := (w.alloc (.cells #[.int .i64 (t).1, .int .i64 (t).2] 23)).alloc (.cells #[.int .i64 0, .int .i64 0] 23)) (b := w.heap.size + 1 + 1) (by simp) t 23))
  have HPL := hide (isPlain_any t)
  have HVA := hide (isValue_any t)
  obtain ⟨U, hU⟩ : ∃ U, fieldP t s.data.toList = U := ⟨_, rfl⟩
  rw [hU]
  unfold fieldP at hU
  go_enter Try.func23, Try.ntmps23
  go_wp2_with fail
  refine (unhide HM).mono ?_
  rintro e w1 ⟨rfl, hx1⟩
  have H1 := hide (Reg.ext hx1 (Reg.ext ((Ext.refl _).alloc _) (unhide H0)))
  clear hx1 H0 HM
  rw [show [t].all mayP = mayP t by simp]
  cases hm : mayP t with
  | false =>
    rw [if_pos hm] at hU
    subst hU
    obtain ⟨x, y, r0, r1, z0, z1⟩ := (unhide H1).res
    have HF := hide ((unhide H1).fin (.int .i64 0) (.int .i64 0))
    go_wp2
    obtain ⟨s0, s1⟩ := (unhide HF).1.two
    exact bodyPost_ret (v := .tuple #[.agg #[.int .i64 (noT).1, .int .i64 (noT).2], .slice none 0 0, .int .i64 2]) (by simp [results, Try.results23, go_sem, s0, s1, noT]) rfl ⟨_, rfl, Own.nil _ _ _ _, (unhide HF).2⟩
  | true =>
    rw [if_neg (by rw [hm]; decide)] at hU
    obtain ⟨c0, c1⟩ := (unhide H1).at (w.heap.size) t (by simp)
    cases hp : plnP t with
    | true =>
      rw [if_pos (.inl hp)] at hU
      subst hU
      rw [hp] at HPL
      go_wp2_with fail
      refine (unhide HPL _).mono ?_
      rintro e w2 ⟨rfl, hx2⟩
      have H2 := hide (Reg.ext hx2 (unhide H1))
      clear hx2 c0 c1
      obtain ⟨x, y, r0, r1, z0, z1⟩ := (unhide H2).res
      have HF := hide ((unhide H2).fin (.int .i64 0) (.int .i64 0))
      go_wp2
      obtain ⟨s0, s1⟩ := (unhide HF).1.two
      exact bodyPost_ret (v := .tuple #[.agg #[.int .i64 (noT).1, .int .i64 (noT).2], .slice none 0 0, .int .i64 231]) (by simp [results, Try.results23, go_sem, s0, s1, noT]) rfl ⟨_, rfl, Own.nil _ _ _ _, (unhide HF).2⟩
    | false =>
      rw [hp] at HPL
      go_wp2_with fail
      refine (unhide HPL _).mono ?_
      rintro e w2 ⟨rfl, hx2⟩
      have H2 := hide (Reg.ext hx2 (unhide H1))
      clear hx2 c0 c1
      obtain ⟨c0, c1⟩ := (unhide H2).at (w.heap.size) t (by simp)
      cases hv : valuP t with
      | false =>
        rw [if_pos (.inr hv)] at hU
        subst hU
        rw [hv] at HVA
        go_wp2_with fail
        refine (unhide HVA _).mono ?_
        rintro e w3 ⟨rfl, hx3⟩
        have H3 := hide (Reg.ext hx3 (unhide H2))
        clear hx3 c0 c1
        obtain ⟨x, y, r0, r1, z0, z1⟩ := (unhide H3).res
        have HF := hide ((unhide H3).fin (.int .i64 0) (.int .i64 0))
        go_wp2
        obtain ⟨s0, s1⟩ := (unhide HF).1.two
        exact bodyPost_ret (v := .tuple #[.agg #[.int .i64 (noT).1, .int .i64 (noT).2], .slice none 0 0, .int .i64 231]) (by simp [results, Try.results23, go_sem, s0, s1, noT]) rfl ⟨_, rfl, Own.nil _ _ _ _, (unhide HF).2⟩
      | true =>
        rw [if_neg (by rw [hp, hv]; simp)] at hU
        rw [hv] at HVA
        have hsz := valu_size hm hv
        have hne1 : t.2 ≠ 1 := by
          unfold plnP at hp
          simpa using hp
        obtain ⟨n, hn⟩ : ∃ n : Nat, t.2 = (n : Int) := ⟨t.2.toNat, by omega⟩
        have HPC := hide (places_any s n (by omega) (by omega))
        rw [show t.2.toNat = n by omega] at hU
        generalize placesP s.data.toList n = XS at *
        have HN := hide hn
        clear hm hp hv hsz hne1 hn
        go_wp2_with fail
        refine (unhide HVA _).mono ?_
        rintro e w3 ⟨rfl, hx3⟩
        have H3 := hide (Reg.ext hx3 (unhide H2))
        clear hx3 c0 c1
        obtain ⟨c0, c1⟩ := (unhide H3).at (w.heap.size) t (by simp)
        rw [unhide HN] at c1
        go_wp2_with fail
        refine (unhide HPC _).mono ?_
        have hRlt : w.heap.size + 1 < w3.heap.size := by
          obtain ⟨_, _, ⟨_, _, hq⟩, _, _⟩ := unhide H3
          exact hq.lt
        rintro e w4 ⟨v, rfl, hrow, hx4⟩
        have H4 := hide (Reg.ext hx4 (unhide H3))
        have HRW := hide hrow
        obtain ⟨ao, cap, rfl⟩ := hrow.shape
        clear hx4 c0 c1 hrow
        obtain ⟨c0, c1⟩ := (unhide H4).at (w.heap.size) t (by simp)
        obtain ⟨x, y, r0, r1, z0, z1⟩ := (unhide H4).res
        by_cases hxs : XS = []
        · rw [if_pos hxs] at hU
          subst hU
          have q0 : ((XS.length : Int) == 0) = true := by simp [hxs]
          have HF := hide ((unhide H4).fin (.int .i64 0) (.int .i64 0))
          clear hxs
          go_wp2
          obtain ⟨s0, s1⟩ := (unhide HF).1.two
          exact bodyPost_ret (v := .tuple #[.agg #[.int .i64 (noT).1, .int .i64 (noT).2], .slice none 0 0, .int .i64 231]) (by simp [results, Try.results23, go_sem, s0, s1, noT]) rfl ⟨_, rfl, Own.nil _ _ _ _, (unhide HF).2⟩
        · rw [if_neg hxs] at hU
          subst hU
          have q0 : ((XS.length : Int) == 0) = false := by
            rw [beq_eq_false_iff_ne]
            intro e
            exact hxs (List.length_eq_zero_iff.1 (by omega))
          have HF := hide ((unhide H4).fin (.int .i64 t.1) (.int .i64 (XS.length : Int)))
          have HR5 := hide (own_low (own_set (i := 1) (u := .int .i64 (XS.length : Int)) (own_set (i := 0) (u := .int .i64 t.1) (unhide HRW) hRlt) hRlt) (show w.heap.size ≤ _ by omega))
          clear hxs
          go_wp2
          obtain ⟨s0, s1⟩ := (unhide HF).1.two
          exact bodyPost_ret (v := .tuple #[.agg #[.int .i64 t.1, .int .i64 (XS.length : Int)], .slice ao XS.length cap, .int .i64 0]) (by simp [results, Try.results23, go_sem, s0, s1]) rfl ⟨_, rfl, unhide HR5, (unhide HF).2⟩
end Go.Proofs.Ytokmplebajgckaa
