/-
  Proved: FetchRows answers true for all bytes and all that vertices are taken from, and turns nothing that was there: which vertices stand in bytes, and which arrays may be, is as the rule computes it.
-/
import Derived.Test.YtmigakbccmkjoaaFrF
import Derived.Test.YtmigakbccmkjoaaFEs
import Derived.Test.YtmigakbccmkjoaaFEq
import Derived.Test.YtmigakbccmkjoaaFEl
import Derived.Test.YtmigakbccmkjoaaRSa
import Derived.Deep.Cut
namespace Go.Proofs.Ytmigakbccmkjoaa
open Go.ChangeShapes Go.WideShapes Go.ChangeAt Go.RowKit
set_option linter.unusedVariables false
set_option linter.unusedSimpArgs false

def nine : Nat → Int := fun j => if j = 0 then 9 else 0
theorem getD_set_gt {L : List (Nat → Int)} {k i : Nat} {x : Nat → Int} (h : i ≠ k) : (L.set k x).getD i nul = L.getD i nul := by
  simp [List.getD, List.getElem?_set, Ne.symm h]

set_option maxRecDepth 10000 in
set_option maxHeartbeats 8000000 in
theorem frows_walk (v : Value) (xs : List Int) (A : Arr) (fi co : Int) (W : World) (hr : Row .u8 W v xs) (hB : Byt xs) (hm : xs.length ≤ 140737488351232) :
    Calls Try.prog 3 #[v, .agg (frC A fi co)] W fun e w' => e = .returned (.bool true) ∧ Ext W w' := by
  obtain ⟨i0, hi, hz0, hz1, hz2⟩ := info_parts info5
  have hE := eqVf
  have HA := hide (Blk.new W (frC A fi co) 26)
  have HX := hide ((Ext.refl W).alloc (.cells (frC A fi co) 26))
  have HS := hide (fun wx (hx : Ext W wx) => shortQ_any v xs wx (hr.ext hx) hB hm)
  have HCK := hide (fun wx => fcheck_any A wx)
  have HRG := hide (fun wx => rright_any A wx)
  have HCL := hide (fun (wx : World) (hb : Blk wx W.heap.size (frC A fi co) 26) => show wx.cell? ⟨W.heap.size, 0, none⟩ = some (.int .i64 A.size) ∧ wx.cell? ⟨W.heap.size, 1, none⟩ = some (.int .i64 A.kind) ∧ wx.cell? ⟨W.heap.size, 2, none⟩ = some (.bool A.nz) ∧ wx.cell? ⟨W.heap.size, 3, none⟩ = some (.int .i64 A.stride) ∧ wx.cell? ⟨W.heap.size, 4, none⟩ = some (.int .i64 A.off) ∧ wx.cell? ⟨W.heap.size, 5, none⟩ = some (.int .i64 fi) ∧ wx.cell? ⟨W.heap.size, 6, none⟩ = some (.int .i64 co) from ⟨hb.cell rfl, hb.cell rfl, hb.cell rfl, hb.cell rfl, hb.cell rfl, hb.cell rfl, hb.cell rfl⟩)
  clear hr hB hm
  go_enter Try.func3, Try.ntmps3
  unfold frC
  go_wp2_with fail
  refine (wakes20_any _).mono ?_
  rintro e w1 ⟨rfl, hx1⟩
  have H1 := hide (And.intro ((unhide HA).ext hx1) ((unhide HX).trans hx1))
  clear hx1 HA HX
  go_wp2_with fail
  refine (unhide HS _ (unhide H1).2).mono ?_
  rintro e w2 ⟨g, cap, ys, rfl, hown, hrow, hby, hl3, hlc, hcm, hgb, hx2⟩
  have H2 := hide (And.intro ((unhide H1).1.ext hx2) (And.intro ((unhide H1).2.trans hx2) (And.intro hown hrow)))
  have HBY := hide hby
  have HRO := hide (fun wx (hx : Ext w2 wx) => frow_any _ ys A fi co wx (hrow.ext hx) hby (by omega))
  clear hx2 H1 hown hrow hby HS
  go_wp2_with (at_builtin; refine wpList_append_Own rfl (.tmp 17) (.tmp 18) 22 rfl w2.heap.size 5 i0 .u8 1 Try.underlying22 hi hz0 hz1 hz2 _ [] rfl (Own.made w2 (Nat.le_refl _)) _ ys rfl ((unhide H2).2.2.2.below ((Below.refl _ _).alloc (Nat.le_refl _) _)) ?c1 ?c2 ?c3 ?_)
  case c1 => unfold maxLen; simp; omega
  case c2 => simp; omega
  case c3 => simp
  intro v3 w3 hown3 hgrow3
  have hx3 : Ext w2 w3 := ((Below.refl _ _).alloc (Nat.le_refl _) _).grown hgrow3 (by simp) (by simp [Value.ownBlock])
  obtain ⟨bo, bc, rfl⟩ := hown3.shape
  have H3 := hide (And.intro hx3 (And.intro hown3.row ((unhide H2).1.ext hx3)))
  have HRR := hide (rrow_any _ ys A fi co w3 hown3.row (unhide HBY) (by omega))
  obtain ⟨a0, a1, a2, a3, a4, a5, a6⟩ := unhide HCL w3 (unhide H3).2.2
  clear hx3 hown3 hgrow3
  go_wp2_with fail
  refine (unhide HRR).mono ?_
  rintro e w4 ⟨wo, wc, rfl, hov4, hx4⟩
  have H4 := hide (And.intro hx4 (And.intro hov4 ((unhide H3).2.2.ext hx4)))
  clear hx4 hov4 HRR a0 a1 a2 a3 a4 a5 a6
  have hln : (rowF ys A fi co).length ≤ 256 := by
    by_cases h0 : rowE ys A fi co = 0
    · obtain ⟨_, _, _, hc0, hc1, hF, _⟩ := row_ok h0
      rw [hF, fstL_len]
      omega
    · unfold rowF; rw [if_neg h0]; simp
  generalize rowF ys A fi co = L at *
  generalize rowE ys A fi co = er at *
  have hcw : (L.length : Int) ≤ (wc : Int) := by
    obtain ⟨_, _, e, _, h, _⟩ := GO.shape (unhide H4).2.1
    cases e
    omega
  go_wp2_with fail
  go_loopw [8] (fun iv wr => ∃ n : Nat, n ≤ 2 ∧ iv = .int .i64 (n : Int) ∧ Ext w4 wr) (fun iv _ => 2 - (intOf iv).toNat)
  case atStart => exact ⟨0, by omega, rfl, Ext.refl _⟩
  case round =>
    obtain ⟨n, hn, rfl, hX⟩ := hrel
    have HX4 := hide hX
    clear hX
    obtain ⟨a0, a1, a2, a3, a4, a5, a6⟩ := unhide HCL wr ((unhide H4).2.2.ext (unhide HX4))
    by_cases hlt : n < 2
    · have hlt2 : (n : Int) < 2 := by omega
      go_wp2_with fail
      refine (unhide HRO wr (((unhide H3).1.trans (unhide H4).1).trans (unhide HX4))).mono ?_
      rintro e w5 ⟨ao, lc, rfl, hov5, hx5⟩
      have hcl : (L.length : Int) ≤ (lc : Int) := by
        obtain ⟨_, _, e, _, h, _⟩ := GO.shape hov5
        cases e
        omega
      have H5 := hide (And.intro (GO.lower hov5 (unhide HX4).size) ((unhide HX4).trans hx5))
      clear hov5 hx5 HX4 a0 a1 a2 a3 a4 a5 a6
      go_wp2_with fail
      go_loopw [58] (fun iv wq => ∃ (k : Nat) (M : List (Nat → Int)), k ≤ L.length ∧ iv = .int .i64 (k : Int) ∧ M.length = L.length ∧ (∀ i, k ≤ i → M.getD i nul = L.getD i nul) ∧ OV wq w4.heap.size (.slice ao L.length lc) M ∧ Ext w4 wq) (fun iv _ => L.length - (intOf iv).toNat)
      case atStart => exact ⟨0, L, Nat.zero_le _, rfl, rfl, fun _ _ => rfl, (unhide H5).1, (unhide H5).2⟩
      case round =>
        clear H5
        obtain ⟨k, M, hk, rfl, hMl, hMe, hov, hX⟩ := hrel
        have D := hide (And.intro hov hX)
        have HML := hide hMl
        have HME := hide hMe
        by_cases hkl : k < L.length
        · have hkl2 : (k : Int) < (L.length : Int) := by omega
          obtain ⟨gl, hgl, hglb, hgll, q0, q1, q2, q3⟩ := OV.cells hov k (by omega)
          obtain ⟨gw, hgw, hgwb, hgwl, z0, z1, z2, z3⟩ := OV.cells (GO.ext (unhide H4).2.1 hX) k hkl
          rw [hMe k (Nat.le_refl _)] at q0 q1 q2 q3
          subst hgl
          subst hgw
          have f0 := OV.frozen hov (k * 4)
          have f1 := OV.frozen hov (k * 4 + 1)
          have f2 := OV.frozen hov (k * 4 + 2)
          have f3 := OV.frozen hov (k * 4 + 3)
          obtain ⟨y, hy⟩ : ∃ y, y = L.getD k nul := ⟨_, rfl⟩
          rw [← hy] at q0 q1 q2 q3 z0 z1 z2 z3
          clear hov hX hMl hMe hy
          go_upto_region 15 with fail
          go_quiet (fail)
          go_wp2_with fail
          go_roundw
          case rel =>
            refine ⟨k + 1, M.set k nine, by omega, by push_cast; rfl, by rw [List.length_set]; exact unhide HML, fun i hi => ?_, OV.store (GO.ext (unhide D).1 ((Ext.refl wr).drewN nq)) k (by have := unhide HML; omega) nine, ext_set (ext_set (ext_set (ext_set ((unhide D).2.drewN nq) hglb) hglb) hglb) hglb⟩
            rw [getD_set_gt (by omega)]
            exact unhide HME i (by omega)
          case measure => simp [intOf]; omega
        · have hkl2 : ¬ (k : Int) < (L.length : Int) := by omega
          clear hov hX hMl hMe
          go_wp2
          go_roundw
          case rel => exact ⟨n + 1, by omega, by push_cast; rfl, (unhide D).2⟩
          case measure => simp [intOf]; omega
    · have hlt2 : ¬ (n : Int) < 2 := by omega
      have hXX := hide (((unhide H3).1.trans (unhide H4).1).trans (unhide HX4))
      have hEQ := hide (fun wx (hx : Ext wr wx) => equal_any (some ⟨g, 0, none⟩) bo cap bc ys ys wx (((unhide H2).2.2.2.ext (unhide hXX)).ext hx) (((unhide H3).2.1.ext (unhide H4).1).ext ((unhide HX4).trans hx)) (unhide HBY) (unhide HBY))
      rw [show decide (ys = ys) = true by simp] at hEQ
      have hn1 : ((ys.length : Int) + 1) ≤ (cap : Int) := by omega
      have hown9 := hide (fun wx (hx : Ext wr wx) => ((unhide H2).2.2.1.kept ((unhide hXX).trans hx)).cellAt ys.length (by simp))
      go_wp2_with fail
      refine (unhide HCK _).mono ?_
      rintro e w6 ⟨rfl, hx6⟩
      have b := unhide HCL w6 (((unhide H4).2.2.ext (unhide HX4)).ext hx6)
      have c7 := unhide hown9 w6 hx6
      simp only [List.getElem_append_right (Nat.le_refl ys.length), Nat.sub_self, List.getElem_cons_zero] at c7
      have HX6 := hide hx6
      clear a0 a1 a2 a3 a4 a5 a6 hx6
      obtain ⟨a0, a1, a2, a3, a4, a5, a6⟩ := b
      have HFX := hide ((unhide H2).2.1.trans ((unhide hXX).trans (unhide HX6)))
      clear hown9
      have hck : (arrB A = true ∧ chkA A = 0) ∨ (arrB A = false ∧ chkA A = 2) := by
        cases h : arrB A with
        | true => exact .inl ⟨rfl, by unfold chkA; rw [if_pos h]⟩
        | false => exact .inr ⟨rfl, by unfold chkA; rw [if_neg (by rw [h]; decide)]⟩
      rcases hck with ⟨h1, h2⟩ | ⟨h1, h2⟩
      all_goals
        rw [h2]
        rw [h1] at HRG
        clear h1 h2 HCK
        go_wp2_with (first
          | (go_at_call 13; refine (unhide hEQ _ (unhide HX6)).mono ?_; rintro e w7 ⟨rfl, hw7⟩; obtain rfl := hw7.symm)
          | (go_at_call 14; refine (unhide HRG _).mono ?_; rintro e w8 ⟨rfl, hx8⟩; have HX8 := hide hx8; clear hx8))
        go_ret
        exact ⟨by simp, (unhide HFX).trans (unhide HX8)⟩

set_option maxRecDepth 10000
theorem frows_owes (H : Type) (enc : TypeId × Value → H) (W : World) (base : Nat) (args : Array Value) (ds : List (DataW H)) (p : List MemPlace) : Owes H enc Try.prog 3 Try.f3 Rows.fetchRowsSpec W base args ds p := by
  intro hval hA hsz
  rw [Try.params3] at hA hval hsz
  obtain ⟨v0, vs0, d0, ds0, p0, q0, hargs, rfl, rfl, h0, r0⟩ := trodAll_cons hA
  obtain ⟨v1, vs1, d1, ds1, p1, q1, rfl, rfl, rfl, h1, r1⟩ := trodAll_cons r0
  obtain ⟨rfl, rfl, rfl⟩ := trodAll_nil r1
  obtain rfl : args = #[v0, v1] := by cases args; simp_all
  obtain ⟨xs, hrow, hwf, hlen⟩ := open_row (j := 0) Try.underlying22 Try.underlying5 (by kernel_rfl) (hval 0 22 v0 rfl rfl) h0 hsz rfl rfl
  have hb : Try.prog.bytesOf 5 = 1 := by kernel_rfl
  rw [hb] at hlen
  have hB : Byt xs := fun x hx => bounds_u8 (hwf x hx)
  obtain ⟨A, fi, co, rfl⟩ := open_from (hval 1 26 v1 rfl rfl) h1
  exact ⟨⟨rfl, rfl, rfl⟩, frows_walk v0 xs A fi co W hrow hB (by omega)⟩

set_option maxRecDepth 100000 in
theorem frows_lifted (os : Os) (started : os.Started) (H : Type) (enc : TypeId × Value → H) :
    ReturnsInHanded {} Try.checked os 3 .any (Rows.fetchRowsSpec.pre6 enc Try.prog Try.f3 [] false) (Rows.fetchRowsSpec.post enc Try.prog Try.f3 false true false false) :=
  lift_law (C := Try.checked) own laidOut started (by kernel_rfl) Try.func3 (T := 4) rfl Try.underlying4 rfl (by kernel_rfl)
    (ChangeSpec.witness6 (enc := enc) (C := Try.checked) false ⟨#[], #[.slice none 0 0, .agg #[.int .i64 0, .int .i64 0, .bool false, .int .i64 0, .int .i64 0, .int .i64 0, .int .i64 0]], []⟩ 8 (by kernel_rfl) (by kernel_rfl) (by kernel_rfl) (by kernel_rfl)) (frows_owes H enc)

theorem fetchRows_holds : Rows.FetchRowsSaid :=
  OpenClaim.holds_of_wide 3 Try.f3 rfl rfl rfl rfl rfl rfl rfl ⟨rfl, rfl, rfl, rfl, rfl⟩ rfl rfl rfl rfl rfl (by kernel_rfl) Try.func3 (by kernel_rfl)
    (of_decide_eq_true (by kernel_rfl)) (by unfold Func.isWrapper; rw [if_neg (of_decide_eq_false (by kernel_rfl))]; exact ⟨rfl, rfl⟩)
    (fun os started H enc _ => frows_lifted os started H enc)
#print axioms fetchRows_holds
end Go.Proofs.Ytmigakbccmkjoaa
