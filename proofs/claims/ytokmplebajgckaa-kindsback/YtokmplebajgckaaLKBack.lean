/-
  KindsBack: a type has its word, and a word its type, there and back, and a type's word takes its own type; for every word and type.
-/
import Derived.Test.YtokmplebajgckaaKV
import Derived.Test.YtokmplebajgckaaFrK
namespace Go.Proofs.Ytokmplebajgckaa
open Go.ChangeShapes Go.WideShapes Go.ChangeAt Go.RowKit
open Go.ChangeMaps (open_string)
set_option linter.unusedSimpArgs false
set_option linter.unusedVariables false

theorem wordIn_no : ∀ (l : List (Ty × Byts8)) (t : Ty), l.any (fun p => eqT p.1 t) = false → wordIn l t = ([], 2)
  | [], t, _ => rfl
  | p :: l, t, h => by
    simp only [List.any_cons, Bool.or_eq_false_iff] at h
    unfold wordIn
    rw [h.1]
    exact wordIn_no l t h.2
theorem word_no {t : Ty} (h : mayP t = false) : wordP t = ([], 2) := wordIn_no tys t (by rw [may_any]; exact h)
theorem ofIn_one : ∀ (l : List (Ty × Byts8)) (t : Byts8), ofIn l t = (noT, 4) ∨ ∃ p ∈ l, p.2 = t ∧ ofIn l t = (p.1, 0)
  | [], t => .inl rfl
  | p :: l, t => by
    unfold ofIn
    by_cases h : (p.2 == t) = true
    · rw [if_pos h]
      exact .inr ⟨p, by simp, by simpa using h, rfl⟩
    · rw [if_neg h]
      rcases ofIn_one l t with h2 | ⟨q, hq, h3⟩
      · exact .inl h2
      · exact .inr ⟨q, by simp [hq], h3⟩
theorem of_back (n : Byts8) : ofP n = (noT, 4) ∨ ∃ u, ofP n = (u, 0) ∧ wordP u = (n, 0) := by
  rcases ofIn_one tys n with h | ⟨p, hp, rfl, h⟩
  · exact .inl h
  · have hall : ∀ p ∈ tys, wordP p.1 = (p.2, 0) := by decide
    exact .inr ⟨p.1, h, hall p hp⟩
set_option maxRecDepth 10000 in
theorem word_back {t : Ty} (h : mayP t = true) : ∃ x, x.length ≤ 20 ∧ wordP t = (x, 0) ∧ ofP x = (t, 0) ∧ callT x [t] = (if (t.1 == 0 || t.1 == 4) = true then (noT, 0, 4) else (t, 23, 0)) := by
  rw [← may_any] at h
  obtain ⟨p, hp, he⟩ := List.any_eq_true.1 h
  rw [eqT_iff] at he
  subst he
  have hall : ∀ p ∈ tys, p.2.length ≤ 20 ∧ wordP p.1 = (p.2, 0) ∧ ofP p.2 = (p.1, 0) ∧ callT p.2 [p.1] = (if (p.1.1 == 0 || p.1.1 == 4) = true then (noT, 0, 4) else (p.1, 23, 0)) := by decide
  exact ⟨p.2, hall p hp⟩

set_option maxHeartbeats 4000000 in
theorem kindsBack_any (n : Byts8) (t : Ty) (w : World) :
    Calls Try.prog 6 #[.string ⟨n.toArray⟩, .agg #[.int .i64 (t).1, .int .i64 (t).2]] w fun e w' => e = .returned (.bool true) ∧ Ext w w' := by
  have HW := hide wakes13_any
  have HO := hide (of_any n)
  have HE := hide (of_back n)
  have HWD := hide word_any
  have B0 := hide (Blk.new w #[.int .i64 (t).1, .int .i64 (t).2] 23)
  have X0 := hide ((Ext.refl w).alloc (.cells #[.int .i64 (t).1, .int .i64 (t).2] 23))
  generalize ofP n = Q at *
  obtain ⟨u, er⟩ := Q
  dsimp only at HO HE
  go_enter Try.func6, Try.ntmps6
  go_wp2_with fail
  refine (unhide HW _).mono ?_
  rintro e w1 ⟨rfl, hx1⟩
  have B1 := hide ((unhide B0).ext hx1)
  have X1 := hide ((unhide X0).trans hx1)
  clear hx1 B0 X0 HW
  go_wp2_with fail
  refine (unhide HO _).mono ?_
  rintro e w2 ⟨rfl, hx2⟩
  have B2 := hide (((unhide B1).ext hx2).alloc (.cells #[.int .i64 (u).1, .int .i64 (u).2] 23))
  have X2 := hide (((unhide X1).trans hx2).alloc (.cells #[.int .i64 (u).1, .int .i64 (u).2] 23))
  have U2 := hide (Blk.new w2 #[.int .i64 (u).1, .int .i64 (u).2] 23)
  clear hx2 B1 X1 HO
  go_upto_region 4 with fail
  generalize w2.alloc (.cells #[.int .i64 (u).1, .int .i64 (u).2] 23) = w3 at B2 X2 U2 ⊢
  generalize w2.heap.size = r1 at *
  obtain ⟨a0, a1⟩ := (unhide U2).two
  obtain ⟨c0, c1⟩ := (unhide B2).two
  rcases unhide HE with he | ⟨u2, he, hw⟩
  · obtain ⟨rfl, rfl⟩ := Prod.mk.inj he
    clear he HE
    cases hm : mayP t with
    | false =>
      have HD := hide (unhide HWD t)
      rw [word_no hm] at HD
      dsimp only at HD
      go_wp2_with fail
      refine (unhide HD _).mono ?_
      rintro e w4 ⟨rfl, hx4⟩
      have X4 := hide ((unhide X2).trans hx4)
      clear hx4
      go_wp2
      go_ret
      exact ⟨rfl, unhide X4⟩
    | true =>
      obtain ⟨x, hxl, hwx, hox, hcx⟩ := word_back hm
      have HD := hide (unhide HWD t)
      rw [hwx] at HD
      have HO := hide (of_any x)
      rw [hox] at HO
      have HC := hide (fun wx v h => callT_any x [t] v wx (by unfold maxLen; omega) h)
      rw [hcx] at HC
      dsimp only at HD HO HC
      clear hm hwx hox hcx hxl
      go_wp2_with fail
      refine (unhide HD _).mono ?_
      rintro e w4 ⟨rfl, hx4⟩
      have X4 := hide ((unhide X2).trans hx4)
      have B4 := hide ((unhide B2).ext hx4)
      clear hx4 c0 c1 B2 X2
      go_wp2_with fail
      refine (unhide HO _).mono ?_
      rintro e w5 ⟨rfl, hx5⟩
      have X5 := hide (((unhide X4).trans hx5).alloc (.cells #[.int .i64 (t).1, .int .i64 (t).2] 23))
      have B5 := hide (((unhide B4).ext hx5).alloc (.cells #[.int .i64 (t).1, .int .i64 (t).2] 23))
      have U5 := hide (Blk.new w5 #[.int .i64 (t).1, .int .i64 (t).2] 23)
      clear hx5 B4 X4
      go_upto_region 12 with fail
      generalize w5.alloc (.cells #[.int .i64 (t).1, .int .i64 (t).2] 23) = w6 at X5 B5 U5 ⊢
      generalize w5.heap.size = r2 at *
      obtain ⟨c0, c1⟩ := (unhide B5).two
      obtain ⟨d0, d1⟩ := (unhide U5).two
      have HT := hide (TyR.one (w := w6) (b := w6.heap.size) rfl t 23)
      have HC2 := hide (unhide HC _ _ (unhide HT))
      clear HC HT
      cases hv : (t.1 == 0 || t.1 == 4) with
      | true =>
        rw [hv, if_pos rfl] at HC2
        dsimp only at HC2
        go_wp2_with fail
        refine (unhide HC2).mono ?_
        rintro e w7 ⟨rfl, hx7⟩
        have B7 := hide ((((unhide B5).alloc (.cells #[.int .i64 (t).1, .int .i64 (t).2] 23)).ext hx7).alloc (.cells #[.int .i64 (noT).1, .int .i64 (noT).2] 23))
        have X7 := hide ((((unhide X5).alloc (.cells #[.int .i64 (t).1, .int .i64 (t).2] 23)).trans hx7).alloc (.cells #[.int .i64 (noT).1, .int .i64 (noT).2] 23))
        clear hx7 c0 c1 d0 d1
        go_upto_region 15 with fail
        generalize w7.alloc (.cells #[.int .i64 (noT).1, .int .i64 (noT).2] 23) = w8 at X7 B7 ⊢
        obtain ⟨c0, c1⟩ := (unhide B7).two
        cases h0 : (t.1 == 0) with
        | true =>
          go_wp2
          go_ret
          exact ⟨rfl, unhide X7⟩
        | false =>
          rw [h0, Bool.false_or] at hv
          go_wp2
          go_ret
          exact ⟨rfl, unhide X7⟩
      | false =>
        rw [hv, if_neg (by decide)] at HC2
        dsimp only at HC2
        obtain ⟨h0, h4⟩ := Bool.or_eq_false_iff.1 hv
        clear hv
        go_wp2_with fail
        refine (unhide HC2).mono ?_
        rintro e w7 ⟨rfl, hx7⟩
        have B7 := hide ((((unhide B5).alloc (.cells #[.int .i64 (t).1, .int .i64 (t).2] 23)).ext hx7).alloc (.cells #[.int .i64 (t).1, .int .i64 (t).2] 23))
        have X7 := hide ((((unhide X5).alloc (.cells #[.int .i64 (t).1, .int .i64 (t).2] 23)).trans hx7).alloc (.cells #[.int .i64 (t).1, .int .i64 (t).2] 23))
        have U7 := hide (Blk.new w7 #[.int .i64 (t).1, .int .i64 (t).2] 23)
        clear hx7 c0 c1 d0 d1
        go_upto_region 15 with fail
        generalize w7.alloc (.cells #[.int .i64 (t).1, .int .i64 (t).2] 23) = w8 at X7 B7 U7 ⊢
        generalize w7.heap.size = r3 at *
        obtain ⟨c0, c1⟩ := (unhide B7).two
        obtain ⟨d0, d1⟩ := (unhide U7).two
        have q1 : (t.1 == t.1) = true := by simp
        have q2 : (t.2 == t.2) = true := by simp
        go_wp2
        go_ret
        exact ⟨rfl, unhide X7⟩
  · obtain ⟨rfl, rfl⟩ := Prod.mk.inj he
    clear he HE
    have HD1 := hide (unhide HWD u)
    rw [hw] at HD1
    dsimp only at HD1
    clear hw
    go_wp2_with fail
    refine (unhide HD1 _).mono ?_
    rintro e w9 ⟨rfl, hx9⟩
    have B9 := hide ((unhide B2).ext hx9)
    have X9 := hide ((unhide X2).trans hx9)
    clear hx9 a0 a1 c0 c1 B2 X2 U2 HD1
    have B2 := B9
    have X2 := X9
    obtain ⟨c0, c1⟩ := (unhide B2).two
    have q9 : (n == n) = true := by simp
    cases hm : mayP t with
    | false =>
      have HD := hide (unhide HWD t)
      rw [word_no hm] at HD
      dsimp only at HD
      go_wp2_with fail
      refine (unhide HD _).mono ?_
      rintro e w4 ⟨rfl, hx4⟩
      have X4 := hide ((unhide X2).trans hx4)
      clear hx4
      go_wp2
      go_ret
      exact ⟨rfl, unhide X4⟩
    | true =>
      obtain ⟨x, hxl, hwx, hox, hcx⟩ := word_back hm
      have HD := hide (unhide HWD t)
      rw [hwx] at HD
      have HO := hide (of_any x)
      rw [hox] at HO
      have HC := hide (fun wx v h => callT_any x [t] v wx (by unfold maxLen; omega) h)
      rw [hcx] at HC
      dsimp only at HD HO HC
      clear hm hwx hox hcx hxl
      go_wp2_with fail
      refine (unhide HD _).mono ?_
      rintro e w4 ⟨rfl, hx4⟩
      have X4 := hide ((unhide X2).trans hx4)
      have B4 := hide ((unhide B2).ext hx4)
      clear hx4 c0 c1 B2 X2
      go_wp2_with fail
      refine (unhide HO _).mono ?_
      rintro e w5 ⟨rfl, hx5⟩
      have X5 := hide (((unhide X4).trans hx5).alloc (.cells #[.int .i64 (t).1, .int .i64 (t).2] 23))
      have B5 := hide (((unhide B4).ext hx5).alloc (.cells #[.int .i64 (t).1, .int .i64 (t).2] 23))
      have U5 := hide (Blk.new w5 #[.int .i64 (t).1, .int .i64 (t).2] 23)
      clear hx5 B4 X4
      go_upto_region 12 with fail
      generalize w5.alloc (.cells #[.int .i64 (t).1, .int .i64 (t).2] 23) = w6 at X5 B5 U5 ⊢
      generalize w5.heap.size = r2 at *
      obtain ⟨c0, c1⟩ := (unhide B5).two
      obtain ⟨d0, d1⟩ := (unhide U5).two
      have HT := hide (TyR.one (w := w6) (b := w6.heap.size) rfl t 23)
      have HC2 := hide (unhide HC _ _ (unhide HT))
      clear HC HT
      cases hv : (t.1 == 0 || t.1 == 4) with
      | true =>
        rw [hv, if_pos rfl] at HC2
        dsimp only at HC2
        go_wp2_with fail
        refine (unhide HC2).mono ?_
        rintro e w7 ⟨rfl, hx7⟩
        have B7 := hide ((((unhide B5).alloc (.cells #[.int .i64 (t).1, .int .i64 (t).2] 23)).ext hx7).alloc (.cells #[.int .i64 (noT).1, .int .i64 (noT).2] 23))
        have X7 := hide ((((unhide X5).alloc (.cells #[.int .i64 (t).1, .int .i64 (t).2] 23)).trans hx7).alloc (.cells #[.int .i64 (noT).1, .int .i64 (noT).2] 23))
        clear hx7 c0 c1 d0 d1
        go_upto_region 15 with fail
        generalize w7.alloc (.cells #[.int .i64 (noT).1, .int .i64 (noT).2] 23) = w8 at X7 B7 ⊢
        obtain ⟨c0, c1⟩ := (unhide B7).two
        cases h0 : (t.1 == 0) with
        | true =>
          go_wp2
          go_ret
          exact ⟨rfl, unhide X7⟩
        | false =>
          rw [h0, Bool.false_or] at hv
          go_wp2
          go_ret
          exact ⟨rfl, unhide X7⟩
      | false =>
        rw [hv, if_neg (by decide)] at HC2
        dsimp only at HC2
        obtain ⟨h0, h4⟩ := Bool.or_eq_false_iff.1 hv
        clear hv
        go_wp2_with fail
        refine (unhide HC2).mono ?_
        rintro e w7 ⟨rfl, hx7⟩
        have B7 := hide ((((unhide B5).alloc (.cells #[.int .i64 (t).1, .int .i64 (t).2] 23)).ext hx7).alloc (.cells #[.int .i64 (t).1, .int .i64 (t).2] 23))
        have X7 := hide ((((unhide X5).alloc (.cells #[.int .i64 (t).1, .int .i64 (t).2] 23)).trans hx7).alloc (.cells #[.int .i64 (t).1, .int .i64 (t).2] 23))
        have U7 := hide (Blk.new w7 #[.int .i64 (t).1, .int .i64 (t).2] 23)
        clear hx7 c0 c1 d0 d1
        go_upto_region 15 with fail
        generalize w7.alloc (.cells #[.int .i64 (t).1, .int .i64 (t).2] 23) = w8 at X7 B7 U7 ⊢
        generalize w7.heap.size = r3 at *
        obtain ⟨c0, c1⟩ := (unhide B7).two
        obtain ⟨d0, d1⟩ := (unhide U7).two
        have q1 : (t.1 == t.1) = true := by simp
        have q2 : (t.2 == t.2) = true := by simp
        go_wp2
        go_ret
        exact ⟨rfl, unhide X7⟩

set_option maxRecDepth 100000 in
theorem kindsBack_owes (H : Type) (enc : TypeId × Value → H) (W : World) (base : Nat) (args : Array Value) (ds : List (DataW H)) (p : List MemPlace) : Owes H enc Try.prog 6 Try.f6 Rows.kindsBackSpec W base args ds p := by
  intro hval hA hsz
  rw [Try.params6] at hA hval hsz
  obtain ⟨v0, vs0, d0, ds0, p0, q0, hargs, rfl, rfl, h0, r0⟩ := trodAll_cons hA
  obtain ⟨v1, vs1, d1, ds1, p1, q1, rfl, rfl, rfl, h1, r1⟩ := trodAll_cons r0
  obtain ⟨rfl, rfl, rfl⟩ := trodAll_nil r1
  obtain rfl : args = #[v0, v1] := by cases args; simp_all
  obtain ⟨s, rfl, rfl, rfl, ws⟩ := open_string Try.underlying9 (hval 0 9 v0 rfl rfl) h0
  obtain ⟨t, rfl⟩ := open_ty (hval 1 23 v1 rfl rfl) h1
  have hpw := kindsBack_any s.data.toList t W
  rw [ba_back] at hpw
  exact ⟨⟨rfl, rfl, rfl⟩, hpw⟩

set_option maxRecDepth 100000 in
theorem kindsBack_lifted (os : Os) (started : os.Started) (H : Type) (enc : TypeId × Value → H) :
    ReturnsInHanded {} Try.checked os 6 .any (Rows.kindsBackSpec.pre6 enc Try.prog Try.f6 [] false) (Rows.kindsBackSpec.post enc Try.prog Try.f6 false true false false) :=
  lift_law (C := Try.checked) own laidOut started (by kernel_rfl) Try.func6 (T := 4) rfl Try.underlying4 rfl (by kernel_rfl)
    (ChangeSpec.witness6 (enc := enc) (C := Try.checked) false ⟨#[], #[.string ⟨#[]⟩, .agg #[.int .i64 0, .int .i64 0]], []⟩ 8 (by kernel_rfl) (by kernel_rfl) (by kernel_rfl) (by kernel_rfl)) (kindsBack_owes H enc)

theorem kindsBack_holds : Rows.KindsBackSaid :=
  OpenClaim.holds_of_wide 6 Try.f6 rfl rfl rfl rfl rfl rfl rfl ⟨rfl, rfl, rfl, rfl, rfl⟩ rfl rfl rfl rfl rfl (by kernel_rfl) Try.func6 (by kernel_rfl)
    (of_decide_eq_true (by kernel_rfl)) (by unfold Func.isWrapper; rw [if_neg (of_decide_eq_false (by kernel_rfl))]; exact ⟨rfl, rfl⟩)
    (fun os started H enc _ => kindsBack_lifted os started H enc)
#print axioms kindsBack_holds
end Go.Proofs.Ytokmplebajgckaa
