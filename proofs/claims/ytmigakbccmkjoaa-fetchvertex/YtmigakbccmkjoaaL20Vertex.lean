/-
  Proved: FetchVertex answers true for all bytes, arrays and numbers, and turns nothing that was there: which vertex stands in bytes is as the rule computes it.
-/
import Derived.Test.YtmigakbccmkjoaaFrF
import Derived.Test.YtmigakbccmkjoaaFEk
import Derived.Test.YtmigakbccmkjoaaFEq
namespace Go.Proofs.Ytmigakbccmkjoaa
open Go.ChangeShapes Go.WideShapes Go.ChangeAt Go.RowKit
set_option linter.unusedVariables false
set_option linter.unusedSimpArgs false

set_option maxRecDepth 10000 in
set_option maxHeartbeats 4000000 in
theorem fvert_walk (v : Value) (xs : List Int) (A : Arr) (i : Int) (W : World) (hr : Row .u8 W v xs) (hB : Byt xs) (hm : xs.length ≤ 140737488351232) :
    Calls Try.prog 4 #[v, .agg (arC A), .int .i64 i] W fun e w' => e = .returned (.bool true) ∧ Ext W w' := by
  have hE := eqVf
  have HA := hide (Blk.new W (arC A) 24)
  have HX := hide ((Ext.refl W).alloc (.cells (arC A) 24))
  have HS := hide (fun wx (hx : Ext W wx) => shortQ_any v xs wx (hr.ext hx) hB hm)
  have HR := hide (fun wx => rright_any A wx)
  have HCL := hide (fun (wx : World) (hb : Blk wx W.heap.size (arC A) 24) => show wx.cell? ⟨W.heap.size, 0, none⟩ = some (.int .i64 A.size) ∧ wx.cell? ⟨W.heap.size, 1, none⟩ = some (.int .i64 A.kind) ∧ wx.cell? ⟨W.heap.size, 2, none⟩ = some (.bool A.nz) ∧ wx.cell? ⟨W.heap.size, 3, none⟩ = some (.int .i64 A.stride) ∧ wx.cell? ⟨W.heap.size, 4, none⟩ = some (.int .i64 A.off) from ⟨hb.cell rfl, hb.cell rfl, hb.cell rfl, hb.cell rfl, hb.cell rfl⟩)
  clear hr hB hm
  go_enter Try.func4, Try.ntmps4
  unfold arC
  go_wp2_with fail
  refine (wakes20_any _).mono ?_
  rintro e w1 ⟨rfl, hx1⟩
  have H1 := hide (And.intro ((unhide HA).ext hx1) ((unhide HX).trans hx1))
  clear hx1 HA HX
  go_wp2_with fail
  refine (unhide HS _ (unhide H1).2).mono ?_
  rintro e w2 ⟨g, cap, ys, rfl, hown, hrow, hby, hl3, hlc, hcm, hgb, hx2⟩
  have H2 := hide (And.intro ((unhide H1).1.ext hx2) ((unhide H1).2.trans hx2))
  have HRW := hide hrow
  have HBY := hide hby
  have HV := hide (fun wx (hx : Ext w2 wx) => fvertex_any _ ys A i wx (hrow.ext hx) hby (by omega))
  have HRV := hide (fun wx (hx : Ext w2 wx) (n : Nat) (hn : n ≤ 1000000) (hA : arrB A = true) => rvertex_any _ ys A n wx (hrow.ext hx) hby (by omega) hA hn)
  obtain ⟨a0, a1, a2, a3, a4⟩ := unhide HCL w2 (unhide H2).1
  clear hx2 H1 hown hrow hby
  go_wp2_with fail
  refine (unhide HV w2 (Ext.refl _)).mono ?_
  rintro e w3 ⟨rfl, hx3⟩
  have HE := hide (show vtxE ys A i = if arrB A = false ∨ i < 0 ∨ 65535 < i then 2 else if (vtxF ys A i.toNat).isSome = true then 0 else 7 from rfl)
  have HVV := hide (show vtxV ys A i = if vtxE ys A i = 0 then (vtxF ys A i.toNat).getD nul else nul from rfl)
  obtain ⟨er, her⟩ : ∃ er, er = vtxE ys A i := ⟨_, rfl⟩
  obtain ⟨y, hy⟩ : ∃ y, y = vtxV ys A i := ⟨_, rfl⟩
  rw [← her, ← hy] at HVV
  rw [← her] at HE
  rw [← her, ← hy]
  have hB3 := Blk.new w3 #[.int .i32 (y 0), .int .i32 (y 1), .int .i32 (y 2), .int .i32 (y 3)] 35
  have H3 := hide (And.intro (((unhide H2).1.ext hx3).alloc (.cells #[.int .i32 (y 0), .int .i32 (y 1), .int .i32 (y 2), .int .i32 (y 3)] 35)) (And.intro (((unhide H2).2.trans hx3).alloc (.cells #[.int .i32 (y 0), .int .i32 (y 1), .int .i32 (y 2), .int .i32 (y 3)] 35)) (And.intro hB3 (hx3.alloc (.cells #[.int .i32 (y 0), .int .i32 (y 1), .int .i32 (y 2), .int .i32 (y 3)] 35)))))
  clear hx3 hB3 H2 a0 a1 a2 a3 a4 her hy HV
  obtain ⟨a0, a1, a2, a3, a4⟩ := unhide HCL _ (unhide H3).1
  go_wp2_with fail
  refine (unhide HR _).mono ?_
  rintro e w4 ⟨rfl, hx4⟩
  have H4 := hide (And.intro ((unhide H3).1.ext hx4) (And.intro ((unhide H3).2.1.trans hx4) (And.intro ((unhide H3).2.2.1.ext hx4) ((unhide H3).2.2.2.trans hx4))))
  clear hx4 H3 a0 a1 a2 a3 a4
  obtain ⟨a0, a1, a2, a3, a4⟩ := unhide HCL _ (unhide H4).1
  obtain ⟨v0, v1, v2, v3⟩ := (unhide H4).2.2.1.vec4
  by_cases hA : arrB A = true
  · by_cases h0 : i < 0 ∨ 65535 < i
    · obtain rfl : er = 2 := by rw [unhide HE, if_pos (.inr h0)]
      have hyn : y = nul := by rw [unhide HVV]; rfl
      rw [hA]
      clear HVV HE HRV
      rcases (by omega : i < 0 ∨ (0 ≤ i ∧ 65535 < i)) with h1 | ⟨h1, h2⟩
      · have dd1 : decide (i < 0) = true := by simpa using h1
        have d0 : (y 0 == 0) = true := by rw [hyn]; rfl
        have d1 : (y 1 == 0) = true := by rw [hyn]; rfl
        have d2 : (y 2 == 0) = true := by rw [hyn]; rfl
        have d3 : (y 3 == 0) = true := by rw [hyn]; rfl
        clear hyn
        go_wp2
        go_ret
        exact ⟨by simp, (unhide H4).2.1⟩
      · have dd1 : decide (i < 0) = false := by simpa using h1
        have dd2 : decide (65535 < i) = true := by simpa using h2
        have d0 : (y 0 == 0) = true := by rw [hyn]; rfl
        have d1 : (y 1 == 0) = true := by rw [hyn]; rfl
        have d2 : (y 2 == 0) = true := by rw [hyn]; rfl
        have d3 : (y 3 == 0) = true := by rw [hyn]; rfl
        clear hyn
        go_wp2
        go_ret
        exact ⟨by simp, (unhide H4).2.1⟩
    · have hE2 : er = if (vtxF ys A i.toNat).isSome = true then 0 else 7 := by
        rw [unhide HE, if_neg]
        rintro (h | h)
        · rw [hA] at h; cases h
        · exact h0 h
      have dd1 : decide (i < 0) = false := by simp; omega
      have dd2 : decide (65535 < i) = false := by simp; omega
      have HRW2 := hide (unhide HRV w4 (unhide H4).2.2.2 i.toNat (by omega) hA)
      rw [Int.toNat_of_nonneg (show 0 ≤ i by omega)] at HRW2
      rw [hA]
      clear HRV HE
      cases hv : vtxF ys A i.toNat with
      | none =>
        rw [hv] at hE2 HRW2
        simp only [Option.getD_none, Option.isSome_none] at HRW2
        obtain rfl : er = 7 := hE2
        have hyn : y = nul := by rw [unhide HVV]; rfl
        clear HVV hv
        have d0 : (y 0 == 0) = true := by rw [hyn]; rfl
        have d1 : (y 1 == 0) = true := by rw [hyn]; rfl
        have d2 : (y 2 == 0) = true := by rw [hyn]; rfl
        have d3 : (y 3 == 0) = true := by rw [hyn]; rfl
        clear hyn
        go_wp2_with fail
        refine (unhide HRW2).mono ?_
        rintro e w5 ⟨rfl, hx5⟩
        have hxx : Ext w4 (w5.alloc (.cells #[.int .i32 (nul 0), .int .i32 (nul 1), .int .i32 (nul 2), .int .i32 (nul 3)] 35)) := hx5.alloc _
        have H5 := hide (And.intro ((unhide H4).2.1.trans hxx) ((unhide H4).2.2.1.ext hxx))
        clear v0 v1 v2 v3 hx5 hxx
        obtain ⟨v0, v1, v2, v3⟩ := (unhide H5).2.vec4
        go_wp2
        go_ret
        exact ⟨by simp, (unhide H5).1⟩
      | some z =>
        rw [hv] at hE2 HRW2
        simp only [Option.getD_some, Option.isSome_some] at HRW2
        obtain rfl : er = 0 := hE2
        obtain rfl : y = z := by rw [unhide HVV, if_pos rfl, hv]; rfl
        clear HVV hv
        go_wp2_with fail
        refine (unhide HRW2).mono ?_
        rintro e w5 ⟨rfl, hx5⟩
        have hxx : Ext w4 (w5.alloc (.cells #[.int .i32 (y 0), .int .i32 (y 1), .int .i32 (y 2), .int .i32 (y 3)] 35)) := hx5.alloc _
        have H5 := hide (And.intro ((unhide H4).2.1.trans hxx) (And.intro ((unhide H4).2.2.1.ext hxx) (Blk.new w5 #[.int .i32 (y 0), .int .i32 (y 1), .int .i32 (y 2), .int .i32 (y 3)] 35)))
        clear v0 v1 v2 v3 hx5 hxx
        obtain ⟨v0, v1, v2, v3⟩ := (unhide H5).2.1.vec4
        obtain ⟨z0, z1, z2, z3⟩ := (unhide H5).2.2.vec4
        go_wp2
        go_ret
        exact ⟨by simp, (unhide H5).1⟩
  · have hA' : arrB A = false := by simpa using hA
    obtain rfl : er = 2 := by rw [unhide HE, if_pos (.inl hA')]
    have hyn : y = nul := by rw [unhide HVV]; rfl
    rw [hA']
    clear HVV HE HRV hA
    have d0 : (y 0 == 0) = true := by rw [hyn]; rfl
    have d1 : (y 1 == 0) = true := by rw [hyn]; rfl
    have d2 : (y 2 == 0) = true := by rw [hyn]; rfl
    have d3 : (y 3 == 0) = true := by rw [hyn]; rfl
    clear hyn
    go_wp2
    go_ret
    exact ⟨by simp, (unhide H4).2.1⟩

set_option maxRecDepth 10000
theorem fvert_owes (H : Type) (enc : TypeId × Value → H) (W : World) (base : Nat) (args : Array Value) (ds : List (DataW H)) (p : List MemPlace) : Owes H enc Try.prog 4 Try.f4 Rows.fetchVertexSpec W base args ds p := by
  intro hval hA hsz
  rw [Try.params4] at hA hval hsz
  obtain ⟨v0, vs0, d0, ds0, p0, q0, hargs, rfl, rfl, h0, r0⟩ := trodAll_cons hA
  obtain ⟨v1, vs1, d1, ds1, p1, q1, rfl, rfl, rfl, h1, r1⟩ := trodAll_cons r0
  obtain ⟨v2, vs2, d2, ds2, p2, q2, rfl, rfl, rfl, h2, r2⟩ := trodAll_cons r1
  obtain ⟨rfl, rfl, rfl⟩ := trodAll_nil r2
  obtain rfl : args = #[v0, v1, v2] := by cases args; simp_all
  obtain ⟨xs, hrow, hwf, hlen⟩ := open_row (j := 0) Try.underlying22 Try.underlying5 (by kernel_rfl) (hval 0 22 v0 rfl rfl) h0 hsz rfl rfl
  have hb : Try.prog.bytesOf 5 = 1 := by kernel_rfl
  rw [hb] at hlen
  have hB : Byt xs := fun x hx => bounds_u8 (hwf x hx)
  obtain ⟨A, rfl⟩ := open_arr (hval 1 24 v1 rfl rfl) h1
  obtain ⟨i, rfl, rfl, rfl, wi⟩ := open_int Try.underlying3 (hval 2 3 v2 rfl rfl) h2
  exact ⟨⟨rfl, rfl, rfl⟩, fvert_walk v0 xs A i W hrow hB (by omega)⟩

set_option maxRecDepth 100000 in
theorem fvert_lifted (os : Os) (started : os.Started) (H : Type) (enc : TypeId × Value → H) :
    ReturnsInHanded {} Try.checked os 4 .any (Rows.fetchVertexSpec.pre6 enc Try.prog Try.f4 [] false) (Rows.fetchVertexSpec.post enc Try.prog Try.f4 false true false false) :=
  lift_law (C := Try.checked) own laidOut started (by kernel_rfl) Try.func4 (T := 4) rfl Try.underlying4 rfl (by kernel_rfl)
    (ChangeSpec.witness6 (enc := enc) (C := Try.checked) false ⟨#[], #[.slice none 0 0, .agg #[.int .i64 0, .int .i64 0, .bool false, .int .i64 0, .int .i64 0], .int .i64 0], []⟩ 8 (by kernel_rfl) (by kernel_rfl) (by kernel_rfl) (by kernel_rfl)) (fvert_owes H enc)

theorem fetchVertex_holds : Rows.FetchVertexSaid :=
  OpenClaim.holds_of_wide 4 Try.f4 rfl rfl rfl rfl rfl rfl rfl ⟨rfl, rfl, rfl, rfl, rfl⟩ rfl rfl rfl rfl rfl (by kernel_rfl) Try.func4 (by kernel_rfl)
    (of_decide_eq_true (by kernel_rfl)) (by unfold Func.isWrapper; rw [if_neg (of_decide_eq_false (by kernel_rfl))]; exact ⟨rfl, rfl⟩)
    (fun os started H enc _ => fvert_lifted os started H enc)
#print axioms fetchVertex_holds
end Go.Proofs.Ytmigakbccmkjoaa
