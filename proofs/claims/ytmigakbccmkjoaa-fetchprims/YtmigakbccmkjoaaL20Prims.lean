/-
  Proved: FetchPrims answers true for every mode and list, and turns nothing that was there: which primitives a mode makes of vertices.
-/
import Derived.Test.YtmigakbccmkjoaaFr
import Derived.Test.YtmigakbccmkjoaaFFa
import Derived.Test.YtmigakbccmkjoaaFEr
import Derived.Test.YtmigakbccmkjoaaFEq
import Derived.Deep.DeepCutAuto
namespace Go.Proofs.Ytmigakbccmkjoaa
open Go.ChangeShapes Go.WideShapes Go.ChangeAt Go.RowKit
set_option linter.unusedVariables false
set_option linter.unusedSimpArgs false

theorem infoIntP : (Try.prog.info? 3).map (fun i => (i.zero, i.size, i.bytes)) = some (some (.int .i64 0), 1, 8) := by kernel_rfl

set_option maxRecDepth 10000 in
set_option maxHeartbeats 8000000 in
theorem fprims_walk (m : Int) (v : Value) (xs : List Int) (W : World) (hr : Row .i64 W v xs) :
    Calls Try.prog 6 #[.int .i64 m, v] W fun e w' => e = .returned (.bool true) ∧ Ext W w' := by
  obtain ⟨i0, hi, hz0, hz1, hz2⟩ : ∃ i, Try.prog.info? 3 = some i ∧ i.zero = some (.int .i64 0) ∧ i.size = 1 ∧ i.bytes = 8 := info_partsG infoIntP
  obtain ⟨ao, cap, rfl, hao, hlc, hcm⟩ := hr.shape
  unfold maxLen at hcm
  obtain ⟨n, hn⟩ : ∃ n, n = (xs.take 257).length := ⟨_, rfl⟩
  have hn1 : n = min 257 xs.length := by rw [hn]; simp
  have hrow : Row .i64 W (.slice ao n cap) (xs.take 257) := by
    have h := hr.takeN n (by omega)
    rw [show xs.take n = xs.take 257 by
      rcases Nat.le_total 257 xs.length with h3 | h3
      · rw [hn1, Nat.min_eq_left h3]
      · rw [hn1, Nat.min_eq_right h3, List.take_of_length_le (Nat.le_refl _), List.take_of_length_le h3]] at h
    exact h
  generalize xs.take 257 = ys at hn hrow
  have hn3 : n ≤ 257 := by omega
  have HN := hide hn
  have HR := hide hrow
  have hmin : ((xs.length : Int) ≤ 257 ∧ (n : Int) = (xs.length : Int)) ∨ (257 < (xs.length : Int) ∧ (n : Int) = 257) := by omega
  clear hr hao hrow hn
  generalize xs.length = N at *
  go_enter Try.func6, Try.ntmps6
  go_wp2_with fail
  refine (wakes20_any _).mono ?_
  rintro e w1 ⟨rfl, hx1⟩
  have X1 := hide hx1
  have HR1 := hide ((unhide HR).ext hx1)
  clear hx1 HR
  go_upto_region 3 with fail
  go_cut [1] (fun v wc => ∃ ao1 cap1, v = .slice ao1 n cap1 ∧ Own .i64 wc W.heap.size 3 v ys ∧ Ext W wc)
  case first =>
    have hmade := hide (And.intro (Own.made (k := .i64) (base := W.heap.size) (e := 3) w1 (unhide X1).size) (And.intro ((unhide HR1).ext ((Ext.refl w1).alloc (.cells #[] 3))) ((unhide X1).alloc (.cells #[] 3))))
    have HN2 := hide hn3
    rcases hmin with ⟨h1, h2⟩ | ⟨h1, h2⟩
    · obtain rfl : N = n := by omega
      clear h2 hn1
      go_wp2_with (at_builtin; refine wpList_append_Own rfl (.tmp 14) (.tmp 19) 51 rfl W.heap.size 3 i0 .i64 8 Try.underlying51 hi hz0 hz1 hz2 _ [] rfl (unhide hmade).1 _ ys rfl (unhide hmade).2.1 ?c1 ?c2 ?c3 ?_)
      case c1 => unfold maxLen; have := unhide HN; have := unhide HN2; simp; omega
      case c2 => have := unhide HN; have := unhide HN2; simp; omega
      case c3 => exact (unhide hmade).2.2.size
      intro v2 w2 hown2 hgrow2
      obtain ⟨ao2, cap2, rfl⟩ := hown2.shape
      have H2 := hide (And.intro hown2 ((unhide hmade).2.2.grown hgrow2 (unhide hmade).2.2.size (fun k h => ((unhide hmade).1.lt k h).1)))
      rw [← unhide HN] at H2 ⊢
      clear hown2 hgrow2 hmade
      go_wp2
      go_meet
      exact ⟨ao2, cap2, rfl, (unhide H2).1, (unhide H2).2⟩
    · clear hn1
      obtain rfl : n = 257 := by omega
      have hlc2 : 257 ≤ cap := by omega
      clear h2
      go_wp2_with (at_builtin; refine wpList_append_Own rfl (.tmp 14) (.tmp 19) 51 rfl W.heap.size 3 i0 .i64 8 Try.underlying51 hi hz0 hz1 hz2 _ [] rfl (unhide hmade).1 _ ys rfl (unhide hmade).2.1 ?c1x ?c2x ?c3x ?_)
      case c1x => unfold maxLen; have := unhide HN; simp; omega
      case c2x => have := unhide HN; simp; omega
      case c3x => exact (unhide hmade).2.2.size
      intro v2 w2 hown2 hgrow2
      obtain ⟨ao2, cap2, rfl⟩ := hown2.shape
      have H2 := hide (And.intro hown2 ((unhide hmade).2.2.grown hgrow2 (unhide hmade).2.2.size (fun k h => ((unhide hmade).1.lt k h).1)))
      rw [← unhide HN] at H2 ⊢
      clear hown2 hgrow2 hmade
      go_wp2
      go_meet
      exact ⟨ao2, cap2, rfl, (unhide H2).1, (unhide H2).2⟩
  case rest =>
  obtain ⟨a1, c1, rfl, hown, hXc⟩ := hcut
  obtain rfl := unhide HN
  have hc1 : ys.length ≤ c1 := by
    obtain ⟨_, _, e, _, h, _⟩ := hown.row.shape
    cases e
    exact h
  rename_i wc _
  have hxx := (Ext.refl wc).alloc (.cells #[] 3)
  have H4 := hide (And.intro (Own.made (k := .i64) (base := wc.heap.size) (e := 3) wc (Nat.le_refl _)) (And.intro (hown.row.ext hxx) hxx))
  have H40 := hide (And.intro hown.row hXc)
  clear hown hXc hxx HR1 X1 hmin hn1 hlc hcm
  go_wp2_with (at_builtin; refine wpList_append_Own rfl (.tmp 21) (.tmp 22) 51 rfl wc.heap.size 3 i0 .i64 8 Try.underlying51 hi hz0 hz1 hz2 _ [] rfl (unhide H4).1 _ ys rfl (unhide H4).2.1 ?e1 ?e2 ?e3 ?_)
  case e1 => unfold maxLen; first | omega | (simp; omega)
  case e2 => first | omega | (simp; omega)
  intro v2 w2 hown2 hgrow2
  have hx2 : Ext wc w2 := (unhide H4).2.2.grown hgrow2 (unhide H4).2.2.size (fun k h => ((unhide H4).1.lt k h).1)
  obtain ⟨a2, c2, rfl⟩ := hown2.shape
  have hc2 : ys.length ≤ c2 := by
    obtain ⟨_, _, e, _, h, _⟩ := hown2.row.shape
    cases e
    exact h
  have H5 := hide (And.intro ((unhide H40).1.ext hx2) (And.intro hown2.row ((unhide H40).2.trans hx2)))
  clear hown2 hgrow2 hx2 H4 H40
  have HP := hide (prims_all _ ys m w2 (unhide H5).1 hn3)
  go_wp2_with fail
  refine (unhide HP).mono ?_
  rintro e w3 ⟨gv, ev, rfl, hpp, hx3⟩
  have HPP := hide hpp
  have HX3 := hide hx3
  have HP := hide (rprims_all _ ys m w3 ((unhide H5).2.1.ext hx3) hn3)
  clear hpp hx3
  go_wp2_with fail
  refine (unhide HP).mono ?_
  rintro e w4 ⟨wv, ok, rfl, hrp, hx4⟩
  have hx34 := (unhide HX3).trans hx4
  have H6 := hide (And.intro ((unhide H5).1.ext hx34) (And.intro ((unhide H5).2.1.ext hx34) ((unhide H5).2.2.trans hx34)))
  have HRP := hide (And.intro hrp hx4)
  clear hrp hx4 hx34 HP H5 HX3
  go_wp2_with fail
  go_loopw [38] (fun iv wr => ∃ k : Nat, k ≤ ys.length ∧ iv = .int .i64 (k : Int) ∧ Ext w4 wr) (fun iv _ => ys.length - (intOf iv).toNat)
  case atStart => exact ⟨0, Nat.zero_le _, rfl, Ext.refl _⟩
  case round =>
    obtain ⟨k, hk, rfl, hX⟩ := hrel
    have HX := hide hX
    clear hX
    by_cases hlt : k < ys.length
    · have hlt2 : (k : Int) < (ys.length : Int) := by omega
      obtain ⟨b1, o1, ha1, hk1⟩ := row_ext (unhide H6).1 (by omega)
      obtain ⟨b2, o2, ha2, hk2⟩ := row_ext (unhide H6).2.1 (by omega)
      subst ha1
      subst ha2
      have q1 := hk1 wr (unhide HX) k hlt
      have q2 := hk2 wr (unhide HX) k hlt
      generalize ys[k] = y at q1 q2
      clear hk1 hk2
      go_upto_region 10 with fail
      go_quiet (fail)
      have HY := hide ((unhide HX).drewN nq)
      clear HX q1 q2
      go_wp2
      go_roundw
      case rel => exact ⟨k + 1, by omega, by push_cast; rfl, unhide HY⟩
      case measure => simp [intOf]; omega
    · have hlt2 : ¬ (k : Int) < (ys.length : Int) := by omega
      obtain rfl : k = ys.length := by omega
      have XF := hide ((unhide H6).2.2.trans (unhide HX))
      rcases unhide HPP with ⟨hm, rfl, rfl⟩ | ⟨hm, hl, rfl, rfl⟩ | ⟨hm, hl, rfl, ao3, cap3, rfl, hg3⟩
      · rcases (unhide HRP).1 with ⟨hm2, rfl, rfl⟩ | ⟨hm2, _⟩
        · clear HRP HPP hm hm2 H6
          go_wp2
          go_ret
          exact ⟨by simp, unhide XF⟩
        · rw [hm] at hm2
          cases hm2
      · rcases (unhide HRP).1 with ⟨hm2, _⟩ | ⟨hm2, rfl, ao4, cap4, rfl, hg4⟩
        · rw [hm] at hm2
          cases hm2
        · have g6 : (256 : Int) < (ys.length : Int) := by omega
          have hgl : (prmL m ys).length ≤ 1000 := by have := shpN_le m ys.length; simp [prmL]; omega
          clear HRP HPP hm hm2 H6 hg4
          go_wp2
          go_ret
          exact ⟨by simp, unhide XF⟩
      · rcases (unhide HRP).1 with ⟨hm2, _⟩ | ⟨hm2, rfl, ao4, cap4, rfl, hg4⟩
        · rw [hm] at hm2
          cases hm2
        · have g6 : ¬ (256 : Int) < (ys.length : Int) := by omega
          have HG := hide (And.intro (GO.ext hg3 ((unhide HRP).2.trans (unhide HX))) (GO.ext hg4 (unhide HX)))
          have hgl : (prmL m ys).length ≤ 1000 := by have := shpN_le m ys.length; simp [prmL]; omega
          clear hg3 hg4 hm hm2 HRP HPP H6 HX
          generalize prmL m ys = L at *
          have hc3 : L.length ≤ cap3 := by
            obtain ⟨_, _, e, _, h, _⟩ := GO.shape (unhide HG).1
            cases e
            exact h
          have hc4 : L.length ≤ cap4 := by
            obtain ⟨_, _, e, _, h, _⟩ := GO.shape (unhide HG).2
            cases e
            exact h
          have hE := eqPrm
          go_wp2_with fail
          go_loopw [83] (fun iv wq => ∃ k : Nat, k ≤ L.length ∧ iv = .int .i64 (k : Int) ∧ Ext wr wq) (fun iv _ => L.length - (intOf iv).toNat)
          case atStart => exact ⟨0, Nat.zero_le _, rfl, Ext.refl _⟩
          case round =>
            obtain ⟨k, hk, rfl, hX⟩ := hrel
            have HX := hide hX
            clear hX
            by_cases hlt : k < L.length
            · have hlt2 : (k : Int) < (L.length : Int) := by omega
              obtain ⟨b1, ha1, p0, p1, p2, p3⟩ := prm_at (GO.ext (unhide HG).1 (unhide HX)) k hlt
              obtain ⟨b2, ha2, q0, q1, q2, q3⟩ := prm_at (GO.ext (unhide HG).2 (unhide HX)) k hlt
              subst ha1
              subst ha2
              generalize L[k] = y at *
              go_upto_region 22 with fail
              go_quiet (fail)
              have HY := hide ((unhide HX).drewN nq)
              clear HX p0 p1 p2 p3 q0 q1 q2 q3
              go_wp2
              go_roundw
              case rel => exact ⟨k + 1, by omega, by push_cast; rfl, unhide HY⟩
              case measure => simp [intOf]; omega
            · have hlt2 : ¬ (k : Int) < (L.length : Int) := by omega
              have XG := hide ((unhide XF).trans (unhide HX))
              go_wp2
              go_ret
              exact ⟨by simp, unhide XG⟩

set_option maxRecDepth 10000
theorem fprims_owes (H : Type) (enc : TypeId × Value → H) (W : World) (base : Nat) (args : Array Value) (ds : List (DataW H)) (p : List MemPlace) : Owes H enc Try.prog 6 Try.f6 Rows.fetchPrimsSpec W base args ds p := by
  intro hval hA hsz
  rw [Try.params6] at hA hval hsz
  obtain ⟨v0, vs0, d0, ds0, p0, q0, hargs, rfl, rfl, h0, r0⟩ := trodAll_cons hA
  obtain ⟨v1, vs1, d1, ds1, p1, q1, rfl, rfl, rfl, h1, r1⟩ := trodAll_cons r0
  obtain ⟨rfl, rfl, rfl⟩ := trodAll_nil r1
  obtain rfl : args = #[v0, v1] := by cases args; simp_all
  obtain ⟨m, rfl, rfl, rfl, wm⟩ := open_int Try.underlying3 (hval 0 3 v0 rfl rfl) h0
  obtain ⟨xs, hrow, hwf, hlen⟩ := open_row (j := 1) Try.underlying51 Try.underlying3 (by kernel_rfl) (hval 1 51 v1 rfl rfl) h1 hsz rfl rfl
  exact ⟨⟨rfl, rfl, rfl⟩, fprims_walk m v1 xs W hrow⟩

set_option maxRecDepth 100000 in
theorem fprims_lifted (os : Os) (started : os.Started) (H : Type) (enc : TypeId × Value → H) :
    ReturnsInHanded {} Try.checked os 6 .any (Rows.fetchPrimsSpec.pre6 enc Try.prog Try.f6 [] false) (Rows.fetchPrimsSpec.post enc Try.prog Try.f6 false true false false) :=
  lift_law (C := Try.checked) own laidOut started (by kernel_rfl) Try.func6 (T := 4) rfl Try.underlying4 rfl (by kernel_rfl)
    (ChangeSpec.witness6 (enc := enc) (C := Try.checked) false ⟨#[], #[.int .i64 0, .slice none 0 0], []⟩ 8 (by kernel_rfl) (by kernel_rfl) (by kernel_rfl) (by kernel_rfl)) (fprims_owes H enc)

theorem fetchPrims_holds : Rows.FetchPrimsSaid :=
  OpenClaim.holds_of_wide 6 Try.f6 rfl rfl rfl rfl rfl rfl rfl ⟨rfl, rfl, rfl, rfl, rfl⟩ rfl rfl rfl rfl rfl (by kernel_rfl) Try.func6 (by kernel_rfl)
    (of_decide_eq_true (by kernel_rfl)) (by unfold Func.isWrapper; rw [if_neg (of_decide_eq_false (by kernel_rfl))]; exact ⟨rfl, rfl⟩)
    (fun os started H enc _ => fprims_lifted os started H enc)
#print axioms fetchPrims_holds
end Go.Proofs.Ytmigakbccmkjoaa
