/-
  KindsWords: whatever word is a type's as the document says, and whatever type has its word; for every word and type.
-/
import Derived.Test.YtokmplebajgckaaKV
import Derived.Test.YtokmplebajgckaaKT
import Derived.Test.YtokmplebajgckaaFrK
namespace Go.Proofs.Ytokmplebajgckaa
open Go.ChangeShapes Go.WideShapes Go.ChangeAt Go.RowKit
open Go.ChangeMaps (open_string)
set_option linter.unusedSimpArgs false
set_option linter.unusedVariables false

theorem word_in {t : Ty} (h : mayP t = true) : (t, (wordP t).1) ∈ tys ∧ (wordP t).2 = 0 := by
  rw [← may_any] at h
  obtain ⟨p, hp, he⟩ := List.any_eq_true.1 h
  rw [eqT_iff] at he
  subst he
  have hall : ∀ p ∈ tys, (p.1, (wordP p.1).1) ∈ tys ∧ (wordP p.1).2 = 0 := by decide
  exact hall p hp
theorem wordIn_off : ∀ (l : List (Ty × Byts8)) (t : Ty), l.any (fun p => eqT p.1 t) = false → wordIn l t = ([], 2)
  | [], t, _ => rfl
  | p :: l, t, h => by
    simp only [List.any_cons, Bool.or_eq_false_iff] at h
    unfold wordIn
    rw [h.1]
    exact wordIn_off l t h.2
theorem word_off {t : Ty} (h : mayP t = false) : wordP t = ([], 2) := wordIn_off tys t (by rw [may_any]; exact h)
theorem of_err (t : Byts8) : ofP t = (noT, 4) ∨ (ofP t).2 = 0 := ofIn_err tys t

set_option maxHeartbeats 4000000 in
theorem kindsWords_any (n : Byts8) (t : Ty) (w : World) :
    Calls Try.prog 3 #[.string ⟨n.toArray⟩, .agg #[.int .i64 (t).1, .int .i64 (t).2]] w fun e w' => e = .returned (.bool true) ∧ Ext w w' := by
  have HW := hide wakes13_any
  have HO := hide (of_any n)
  have HR := hide (refOf_any n)
  have HE := hide (of_err n)
  have HD := hide (word_any t)
  have HM := hide (refMay_any t)
  have B0 := hide (Blk.new w #[.int .i64 (t).1, .int .i64 (t).2] 23)
  have X0 := hide ((Ext.refl w).alloc (.cells #[.int .i64 (t).1, .int .i64 (t).2] 23))
  generalize ofP n = Q at *
  obtain ⟨u, er⟩ := Q
  dsimp only at HO HR HE
  go_enter Try.func3, Try.ntmps3
  go_wp2_with fail
  refine (unhide HW _).mono ?_
  rintro e w1 ⟨rfl, hx1⟩
  have B1 := hide ((unhide B0).ext hx1)
  have X1 := hide ((unhide X0).trans hx1)
  clear hx1 B0 X0 HW
  go_wp2_with fail
  refine (unhide HO _).mono ?_
  rintro e w2 ⟨rfl, hx2⟩
  have B2 := hide (((unhide B1).ext hx2).alloc (.cells #[.int .i64 (u).1, .int .i64 (u).2] 23))
  have X2 := hide (((unhide X1).trans hx2).alloc (.cells #[.int .i64 (u).1, .int .i64 (u).2] 23))
  have U2 := hide (Blk.new w2 #[.int .i64 (u).1, .int .i64 (u).2] 23)
  clear hx2 B1 X1 HO
  go_upto_region 4 with fail
  generalize w2.alloc (.cells #[.int .i64 (u).1, .int .i64 (u).2] 23) = w3 at B2 X2 U2 ⊢
  generalize w2.heap.size = r1 at *
  go_wp2_with fail
  refine (unhide HR _).mono ?_
  rintro e w4 ⟨rfl, hx4⟩
  have B4 := hide (((unhide B2).ext hx4).alloc (.cells #[.int .i64 (u).1, .int .i64 (u).2] 23))
  have X4 := hide (((unhide X2).trans hx4).alloc (.cells #[.int .i64 (u).1, .int .i64 (u).2] 23))
  have U4 := hide (((unhide U2).ext hx4).alloc (.cells #[.int .i64 (u).1, .int .i64 (u).2] 23))
  have V4 := hide (Blk.new w4 #[.int .i64 (u).1, .int .i64 (u).2] 23)
  clear hx4 B2 X2 U2 HR
  go_upto_region 5 with fail
  generalize w4.alloc (.cells #[.int .i64 (u).1, .int .i64 (u).2] 23) = w5 at B4 X4 U4 V4 ⊢
  generalize w4.heap.size = r2 at *
  obtain ⟨a0, a1⟩ := (unhide U4).two
  obtain ⟨b0, b1⟩ := (unhide V4).two
  obtain ⟨c0, c1⟩ := (unhide B4).two
  go_cut [39] (fun v wc => v = .bool false ∧ w5 = wc)
  case first =>
    rcases unhide HE with he | he
    · obtain ⟨rfl, rfl⟩ := Prod.mk.inj he
      clear he
      go_wp2
      all_goals go_meet
      all_goals exact ⟨rfl, rfl⟩
    · subst he
      go_wp2
      all_goals go_meet
      all_goals exact ⟨rfl, rfl⟩
  case rest =>
  obtain ⟨rfl, rfl⟩ := hcut
  cases hm : mayP t with
  | false =>
    rw [hm] at HM
    rw [word_off hm] at HD
    go_wp2_with fail
    refine (unhide HD _).mono ?_
    rintro e w6 ⟨rfl, hx6⟩
    have X6 := hide ((unhide X4).trans hx6)
    have B6 := hide ((unhide B4).ext hx6)
    clear hx6 c0 c1 a0 a1 b0 b1
    obtain ⟨c0, c1⟩ := (unhide B6).two
    go_wp2_with fail
    refine (unhide HM _).mono ?_
    rintro e w7 ⟨rfl, hx7⟩
    have X7 := hide ((unhide X6).trans hx7)
    clear hx7
    go_wp2
    go_ret
    exact ⟨rfl, unhide X7⟩
  | true =>
    rw [hm] at HM
    obtain ⟨hin, he0⟩ := word_in hm
    have HRW := hide (refWord_in _ hin)
    dsimp only at HRW
    clear hin
    generalize wordP t = WW at *
    obtain ⟨x, er2⟩ := WW
    dsimp only at he0 HRW HD
    subst he0
    go_wp2_with fail
    refine (unhide HD _).mono ?_
    rintro e w6 ⟨rfl, hx6⟩
    have X6 := hide ((unhide X4).trans hx6)
    have B6 := hide ((unhide B4).ext hx6)
    clear hx6 c0 c1 a0 a1 b0 b1
    obtain ⟨c0, c1⟩ := (unhide B6).two
    go_wp2_with fail
    refine (unhide HM _).mono ?_
    rintro e w7 ⟨rfl, hx7⟩
    have X7 := hide ((unhide X6).trans hx7)
    have B7 := hide ((unhide B6).ext hx7)
    clear hx7 c0 c1
    obtain ⟨c0, c1⟩ := (unhide B7).two
    go_wp2_with fail
    refine (unhide HRW _).mono ?_
    rintro e w8 ⟨rfl, hx8⟩
    have X8 := hide ((unhide X7).trans hx8)
    clear hx8
    have q : (x == x) = true := by simp
    go_wp2
    go_ret
    exact ⟨rfl, unhide X8⟩

set_option maxRecDepth 100000 in
theorem kindsWords_owes (H : Type) (enc : TypeId × Value → H) (W : World) (base : Nat) (args : Array Value) (ds : List (DataW H)) (p : List MemPlace) : Owes H enc Try.prog 3 Try.f3 Rows.kindsWordsSpec W base args ds p := by
  intro hval hA hsz
  rw [Try.params3] at hA hval hsz
  obtain ⟨v0, vs0, d0, ds0, p0, q0, hargs, rfl, rfl, h0, r0⟩ := trodAll_cons hA
  obtain ⟨v1, vs1, d1, ds1, p1, q1, rfl, rfl, rfl, h1, r1⟩ := trodAll_cons r0
  obtain ⟨rfl, rfl, rfl⟩ := trodAll_nil r1
  obtain rfl : args = #[v0, v1] := by cases args; simp_all
  obtain ⟨s, rfl, rfl, rfl, ws⟩ := open_string Try.underlying9 (hval 0 9 v0 rfl rfl) h0
  obtain ⟨t, rfl⟩ := open_ty (hval 1 23 v1 rfl rfl) h1
  have hpw := kindsWords_any s.data.toList t W
  rw [ba_back] at hpw
  exact ⟨⟨rfl, rfl, rfl⟩, hpw⟩

set_option maxRecDepth 100000 in
theorem kindsWords_lifted (os : Os) (started : os.Started) (H : Type) (enc : TypeId × Value → H) :
    ReturnsInHanded {} Try.checked os 3 .any (Rows.kindsWordsSpec.pre6 enc Try.prog Try.f3 [] false) (Rows.kindsWordsSpec.post enc Try.prog Try.f3 false true false false) :=
  lift_law (C := Try.checked) own laidOut started (by kernel_rfl) Try.func3 (T := 4) rfl Try.underlying4 rfl (by kernel_rfl)
    (ChangeSpec.witness6 (enc := enc) (C := Try.checked) false ⟨#[], #[.string ⟨#[]⟩, .agg #[.int .i64 0, .int .i64 0]], []⟩ 8 (by kernel_rfl) (by kernel_rfl) (by kernel_rfl) (by kernel_rfl)) (kindsWords_owes H enc)

theorem kindsWords_holds : Rows.KindsWordsSaid :=
  OpenClaim.holds_of_wide 3 Try.f3 rfl rfl rfl rfl rfl rfl rfl ⟨rfl, rfl, rfl, rfl, rfl⟩ rfl rfl rfl rfl rfl (by kernel_rfl) Try.func3 (by kernel_rfl)
    (of_decide_eq_true (by kernel_rfl)) (by unfold Func.isWrapper; rw [if_neg (of_decide_eq_false (by kernel_rfl))]; exact ⟨rfl, rfl⟩)
    (fun os started H enc _ => kindsWords_lifted os started H enc)
#print axioms kindsWords_holds
end Go.Proofs.Ytokmplebajgckaa
