/-
  LexReads: which tokens any text has, where, or where it is wrong; for every text.
-/
import Derived.Test.YtgoldmohmjjngaaYB
import Derived.Test.YtgoldmohmjjngaaYD
import Derived.Test.YtgoldmohmjjngaaXW
import Derived.Test.YtgoldmohmjjngaaFrH
import Derived.Test.YtgoldmohmjjngaaShelfB
import Derived.ChangeMaps5
namespace Go.Proofs.Ytgoldmohmjjngaa
open Go.ChangeShapes Go.WideShapes Go.ChangeAt Go.RowKit
open Go.ChangeMaps (open_string)
set_option linter.unusedSimpArgs false
set_option linter.unusedVariables false

theorem shortR_any (s : ByteArray) (w : World) : Calls Try.prog 10 #[.string s] w fun e w' => e = .returned (.string (s.extract 0 (min s.size 8193))) ∧ w' = w := by
  have hmn : (min (s.size : Int) 8193).toNat = min s.size 8193 := by omega
  go_enter Try.func10, Try.ntmps10
  go_wp2
  go_ret
  exact ⟨rfl, rfl⟩
/-- The block of tokens that are the call's own. -/
theorem TO.blk {w : World} {base : Nat} {ao : Option Addr} {n cap : Nat} {L : List Tok} (h : TO w base (.slice ao n cap) L) (hn : 0 < L.length) : ∃ g cs, ao = some ⟨g, 0, none⟩ ∧ base ≤ g ∧ cs.size = cap * 5 ∧ L.length ≤ cap ∧ Blk w g cs 33 := by
  rcases h.2 with ⟨e, h0⟩ | ⟨g, c, cur, e, hb, hg, hnc, hcm, hcs, htake⟩
  · omega
  · cases e
    exact ⟨g, cur, rfl, hb, hcs, hnc, hg⟩
theorem Blk.at {w : World} {g : Nat} {cs : Array Value} {t : TypeId} (h : Blk w g cs t) (i : Nat) (hi : i < cs.size) : ∃ v, w.cell? ⟨g, i, none⟩ = some v := ⟨cs[i], h.cell (Array.getElem?_eq_getElem hi)⟩

set_option maxHeartbeats 4000000 in
set_option maxRecDepth 100000 in
theorem lexReads_any (s0 : ByteArray) (W : World) (m : Int) (hm : W.cell? ⟨0, 0, none⟩ = some (.int .i64 m)) :
    Calls Try.prog 3 #[.string s0] W fun e w' => e = .returned (.bool true) ∧ Ext W w' := by
  have HM := hide hm
  clear hm
  go_enter Try.func3, Try.ntmps3
  go_wp2_with fail
  refine (lexWakes_any W m (unhide HM)).mono ?_
  rintro e w1 ⟨rfl, hx1⟩
  have X1 := hide hx1
  clear hx1
  go_wp2_with fail
  refine (shortR_any s0 w1).mono ?_
  rintro e w2 ⟨rfl, rfl⟩
  generalize s0.extract 0 (min s0.size 8193) = s at *
  go_wp2_with fail
  refine (refLex_any s w2).mono ?_
  rintro e w3 ⟨ao, cap, rfl, hO, hx3⟩
  obtain ⟨R, hR⟩ : ∃ R, lexP s.data.toList = R := ⟨_, rfl⟩
  rw [hR] at hO ⊢
  have HLX := hide (fun (W : World) (m : Int) hm => lex_any s W m hm)
  rw [hR] at HLX
  clear hR
  have HB4 := hide (Blk.new w3 #[.int .i64 R.2.1, .int .i64 R.2.2] 27)
  have X4 : Hid (Ext W (w3.alloc (.cells #[.int .i64 R.2.1, .int .i64 R.2.2] 27))) := ((unhide X1).trans hx3).alloc _
  have HT4 := hide ((TO.tr hO).ext ((Ext.refl w3).alloc (.cells #[.int .i64 R.2.1, .int .i64 R.2.2] 27)))
  obtain ⟨w4, hw4⟩ : ∃ w4, w4 = w3.alloc (.cells #[.int .i64 R.2.1, .int .i64 R.2.2] 27) := ⟨_, rfl⟩
  obtain ⟨g4, hg4⟩ : ∃ g4, g4 = w3.heap.size := ⟨_, rfl⟩
  rw [← hw4] at HB4 X4 HT4
  rw [← hg4] at HB4
  clear hO hx3 X1
  go_wp2
  rw [← hw4, ← hg4]
  clear hw4 hg4
  go_loopw [5] (fun iv wr => ∃ k : Nat, k ≤ 2 ∧ iv = .int .i64 (k : Int) ∧ Ext w4 wr) (fun iv _ => 2 - (intOf iv).toNat)
  case atStart => exact ⟨0, by omega, rfl, Ext.refl _⟩
  case round =>
    obtain ⟨k, hk, rfl, hx⟩ := hrel
    have X := hide hx
    clear hx
    by_cases hlt : k < 2
    · go_wp2_with fail
      refine (unhide HLX wr m (keepM (unhide HM) ((unhide X4).trans (unhide X)))).mono ?_
      rintro e w5 ⟨ao5, cap5, rfl, hO5, hx5⟩
      have HB6 := hide (((unhide HB4).ext ((unhide X).trans hx5)).alloc (.cells #[.int .i64 R.2.1, .int .i64 R.2.2] 27))
      have HB7 := hide (Blk.new w5 #[.int .i64 R.2.1, .int .i64 R.2.2] 27)
      have HT6 := hide (((unhide HT4).ext ((unhide X).trans hx5)).ext ((Ext.refl _).alloc (.cells #[.int .i64 R.2.1, .int .i64 R.2.2] 27)))
      have HO6 := hide (hO5.ext ((Ext.refl _).alloc (.cells #[.int .i64 R.2.1, .int .i64 R.2.2] 27)))
      have X6 : Hid (Ext wr (w5.alloc (.cells #[.int .i64 R.2.1, .int .i64 R.2.2] 27))) := hx5.alloc _
      obtain ⟨w6, hw6⟩ : ∃ w6, w6 = w5.alloc (.cells #[.int .i64 R.2.1, .int .i64 R.2.2] 27) := ⟨_, rfl⟩
      obtain ⟨g7, hg7⟩ : ∃ g7, g7 = w5.heap.size := ⟨_, rfl⟩
      rw [← hw6] at HB6 HB7 HT6 HO6 X6
      rw [← hg7] at HB7
      clear hO5 hx5
      have c0 := (unhide HB6).cell (i := 0) (v := .int .i64 R.2.1) rfl
      have c1 := (unhide HB6).cell (i := 1) (v := .int .i64 R.2.2) rfl
      have d0 := (unhide HB7).cell (i := 0) (v := .int .i64 R.2.1) rfl
      have d1 := (unhide HB7).cell (i := 1) (v := .int .i64 R.2.2) rfl
      rw [hw6] at c0 c1 d0 d1
      rw [hg7] at d0 d1
      go_wp2_with fail
      rw [← hw6]
      clear hw6 hg7 c0 c1 d0 d1 HB6 HB7
      refine (all_same R.1 ao5 ao cap5 cap w6 (unhide HO6).tr (unhide HT6)).mono ?_
      rintro e w8 ⟨rfl, hx8⟩
      have HO8 := hide ((unhide HO6).ext hx8)
      have X8 := hide ((unhide X6).trans hx8)
      have hbig : R.1.length ≤ 9223372036854775807 := by
        obtain ⟨_, _, _, _, h1, h2⟩ := (unhide HO8).shape
        unfold maxLen at h2
        omega
      clear hx8 HO6 X6 HT6
      go_wp2
      go_loopw [38] (fun jv wq => ∃ j : Nat, j ≤ R.1.length ∧ jv = .int .i64 (j : Int) ∧ Ext wr wq ∧ (0 < R.1.length → ∃ g cs, ao5 = some ⟨g, 0, none⟩ ∧ wr.heap.size ≤ g ∧ cs.size = cap5 * 5 ∧ R.1.length ≤ cap5 ∧ Blk wq g cs 33)) (fun jv _ => R.1.length - (intOf jv).toNat)
      case atStart =>
        refine ⟨0, by omega, rfl, unhide X8, fun h => ?_⟩
        obtain ⟨g, cs, e1, e2, e3, e4, e5⟩ := (unhide HO8).blk h
        exact ⟨g, cs, e1, by omega, e3, e4, e5⟩
      case round =>
        obtain ⟨j, hj, rfl, hxq, hbk⟩ := hrel
        rename_i wq
        have XQ := hide hxq
        clear hxq
        by_cases hjl : j < R.1.length
        · obtain ⟨g, cs, rfl, hg, hcs, hcap, hB⟩ := hbk (by omega)
          obtain ⟨v0, p0⟩ := hB.at (j * 5) (by omega)
          obtain ⟨v1, p1⟩ := hB.at (j * 5 + 1) (by omega)
          obtain ⟨v2, p2⟩ := hB.at (j * 5 + 2) (by omega)
          obtain ⟨v3, p3⟩ := hB.at (j * 5 + 3) (by omega)
          obtain ⟨v4, p4⟩ := hB.at (j * 5 + 4) (by omega)
          have fy := fun i => hB.free i
          have HB := hide hB
          clear hB
          go_wp2
          refine ⟨⟨j + 1, by omega, by push_cast; rfl, extSet (extSet (extSet (extSet (extSet (unhide XQ) hg) hg) hg) hg) hg, fun _ => ⟨g, _, rfl, hg, ?_, hcap, ((((unhide HB).set _ _).set _ _).set _ _).set _ _ |>.set _ _⟩⟩, ?_⟩
          · simp [hcs]
          · simp [intOf]
            omega
        · go_wp2
          refine ⟨⟨k + 1, by omega, by push_cast; rfl, (unhide X).trans (unhide XQ)⟩, ?_⟩
          simp [intOf]
          omega
    · go_wp2
      go_ret
      exact ⟨rfl, (unhide X4).trans (unhide X)⟩

theorem lexReads_owes (H : Type) (enc : TypeId × Value → H) (W : World) (base : Nat) (args : Array Value) (ds : List (DataW H)) (p : List MemPlace) : OwesH H enc Try.prog 3 Try.f3 Rows.lexReadsSpec W base args ds p := by
  intro hval hA hsz hsh
  rw [Try.params3] at hA hval hsz
  obtain ⟨v0, vs0, d0, ds0, p0, q0, hargs, rfl, rfl, h0, r0⟩ := trodAll_cons hA
  obtain ⟨rfl, rfl, rfl⟩ := trodAll_nil r0
  obtain rfl : args = #[v0] := by cases args; simp_all
  obtain ⟨s, rfl, rfl, rfl, ws⟩ := open_string Try.underlying9 (hval 0 9 v0 rfl rfl) h0
  obtain ⟨m, hm⟩ := Try.laysM143.s1_3 W hsh
  exact ⟨⟨rfl, rfl, rfl⟩, lexReads_any s W m hm⟩

set_option maxRecDepth 100000 in
theorem lexReads_lifted (os : Os) (started : os.Started) (H : Type) (enc : TypeId × Value → H) :
    ReturnsInHanded {} Try.checked os 3 .any (Rows.lexReadsSpec.pre6 enc Try.prog Try.f3 [] false) (Rows.lexReadsSpec.post enc Try.prog Try.f3 false true false false) :=
  lift_law_shaped (C := Try.checked) own laidOut started (by kernel_rfl) Try.func3 (T := 4) rfl Try.underlying4 rfl (by kernel_rfl)
    (ChangeSpec.witness6 (enc := enc) (C := Try.checked) false ⟨#[], #[.string ⟨#[]⟩], []⟩ 8 (by kernel_rfl) (by kernel_rfl) (by kernel_rfl) (by kernel_rfl)) (lexReads_owes H enc)

theorem lexReads_holds : Rows.LexReadsSaid :=
  OpenClaim.holds_of_wide 3 Try.f3 rfl rfl rfl rfl rfl rfl rfl ⟨rfl, rfl, rfl, rfl, rfl⟩ rfl rfl rfl rfl rfl (by kernel_rfl) Try.func3 (by kernel_rfl)
    (of_decide_eq_true (by kernel_rfl)) (by unfold Func.isWrapper; rw [if_neg (of_decide_eq_false (by kernel_rfl))]; exact ⟨rfl, rfl⟩)
    (fun os started H enc _ => lexReads_lifted os started H enc)
#print axioms lexReads_holds
end Go.Proofs.Ytgoldmohmjjngaa
