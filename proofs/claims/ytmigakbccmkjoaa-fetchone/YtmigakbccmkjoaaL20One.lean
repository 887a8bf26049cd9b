/-
  Proved: FetchOne answers true for all bytes and all that vertices are taken from, and turns nothing that was there: each vertex of a row is the one that stands there alone.
-/
import Derived.Test.YtmigakbccmkjoaaFrF
import Derived.Test.YtmigakbccmkjoaaFEs
import Derived.Test.YtmigakbccmkjoaaFEq
namespace Go.Proofs.Ytmigakbccmkjoaa
open Go.ChangeShapes Go.WideShapes Go.ChangeAt Go.RowKit
set_option linter.unusedVariables false
set_option linter.unusedSimpArgs false

set_option maxRecDepth 10000 in
set_option maxHeartbeats 4000000 in
theorem fone_walk (v : Value) (xs : List Int) (A : Arr) (fi co : Int) (W : World) (hr : Row .u8 W v xs) (hB : Byt xs) (hm : xs.length ≤ 140737488351232) :
    Calls Try.prog 7 #[v, .agg (frC A fi co)] W fun e w' => e = .returned (.bool true) ∧ Ext W w' := by
  have hE := eqVf
  have HA := hide (Blk.new W (frC A fi co) 26)
  have HX := hide ((Ext.refl W).alloc (.cells (frC A fi co) 26))
  have HS := hide (fun wx (hx : Ext W wx) => shortQ_any v xs wx (hr.ext hx) hB hm)
  have HCL := hide (fun (wx : World) (hb : Blk wx W.heap.size (frC A fi co) 26) => show wx.cell? ⟨W.heap.size, 0, none⟩ = some (.int .i64 A.size) ∧ wx.cell? ⟨W.heap.size, 1, none⟩ = some (.int .i64 A.kind) ∧ wx.cell? ⟨W.heap.size, 2, none⟩ = some (.bool A.nz) ∧ wx.cell? ⟨W.heap.size, 3, none⟩ = some (.int .i64 A.stride) ∧ wx.cell? ⟨W.heap.size, 4, none⟩ = some (.int .i64 A.off) ∧ wx.cell? ⟨W.heap.size, 5, none⟩ = some (.int .i64 fi) ∧ wx.cell? ⟨W.heap.size, 6, none⟩ = some (.int .i64 co) from ⟨hb.cell rfl, hb.cell rfl, hb.cell rfl, hb.cell rfl, hb.cell rfl, hb.cell rfl, hb.cell rfl⟩)
  clear hr hB hm
  go_enter Try.func7, Try.ntmps7
  unfold frC
  go_wp2_with fail
  refine (wakes20_any _).mono ?_
  rintro e w1 ⟨rfl, hx1⟩
  have H1 := hide (And.intro ((unhide HA).ext hx1) ((unhide HX).trans hx1))
  clear hx1 HA HX
  go_wp2_with fail
  refine (unhide HS _ (unhide H1).2).mono ?_
  rintro e w2 ⟨g, cap, ys, rfl, hown, hrow, hby, hl3, hlc, hcm, hgb, hx2⟩
  have H2 := hide (And.intro ((unhide H1).1.ext hx2) ((unhide H1).2.trans hx2))
  have HV := hide (fun wx (hx : Ext w2 wx) (i : Int) => fvertex_any _ ys A i wx (hrow.ext hx) hby (by omega))
  have HRO := hide (frow_any _ ys A fi co w2 hrow hby (by omega))
  obtain ⟨a0, a1, a2, a3, a4, a5, a6⟩ := unhide HCL w2 (unhide H2).1
  clear hx2 H1 hown hrow hby HS
  go_wp2_with fail
  refine (unhide HRO).mono ?_
  rintro e w3 ⟨ao, lc, rfl, hov, hx3⟩
  have H3 := hide (And.intro ((unhide H2).1.ext hx3) (And.intro ((unhide H2).2.trans hx3) (And.intro hx3 hov)))
  clear hx3 hov H2 a0 a1 a2 a3 a4 a5 a6 HRO
  obtain ⟨a0, a1, a2, a3, a4, a5, a6⟩ := unhide HCL _ (unhide H3).1
  by_cases h0 : rowE ys A fi co = 0
  · rw [h0]
    obtain ⟨hA, hf0, hf1, hc0, hc1, hF, hall⟩ := row_ok h0
    obtain ⟨fn, rfl⟩ := Int.eq_ofNat_of_zero_le hf0
    obtain ⟨cn, rfl⟩ := Int.eq_ofNat_of_zero_le hc0
    simp only [Int.toNat_natCast] at hF hall
    rw [hF] at H3 ⊢
    have hlen : (fstL (fun i => vtxF ys A (fn + i)) cn).length = cn := fstL_len _ _
    have HG := hide (fun k (hk : k < cn) => fstL_getD (fun i => vtxF ys A (fn + i)) cn k hk)
    have HAL := hide hall
    have hfn : fn ≤ 65535 := by omega
    have hcn : cn ≤ 256 := by omega
    have hvE : ∀ k : Nat, (fn : Int) + (k : Int) ≤ 65535 → k < cn → vtxE ys A ((fn : Int) + (k : Int)) = 0 ∧ vtxV ys A ((fn : Int) + (k : Int)) = (vtxF ys A (fn + k)).getD nul := by
      intro k h1 h2
      have e0 : ((fn : Int) + (k : Int)).toNat = fn + k := by omega
      have e1 : vtxE ys A ((fn : Int) + (k : Int)) = 0 := by
        unfold vtxE
        rw [if_neg (by rintro (h | h | h); (rw [hA] at h; cases h); omega; omega), e0, if_pos (unhide HAL k h2)]
      refine ⟨e1, ?_⟩
      unfold vtxV
      rw [if_pos e1, e0]
    have HVE := hide hvE
    clear h0 hA hf0 hf1 hc0 hc1 hF hall hvE
    generalize fstL (fun i => vtxF ys A (fn + i)) cn = L at *
    have HLN := hide hlen
    rw [hlen] at H3 ⊢
    clear hlen
    have hcap : (cn : Int) ≤ (lc : Int) := by
      obtain ⟨_, _, e, _, h, _⟩ := GO.shape (unhide H3).2.2.2
      have h2 := unhide HLN
      cases e
      omega
    go_wp2_with fail
    go_loopw [33] (fun iv wr => ∃ k : Nat, k ≤ cn ∧ iv = .int .i64 (k : Int) ∧ Ext w3 wr) (fun iv _ => cn - (intOf iv).toNat)
    case atStart => exact ⟨0, Nat.zero_le _, rfl, Ext.refl _⟩
    case round =>
      clear a0 a1 a2 a3 a4 a5 a6
      obtain ⟨k, hk, rfl, hX⟩ := hrel
      have HXR := hide hX
      obtain ⟨a0, a1, a2, a3, a4, a5, a6⟩ := unhide HCL wr ((unhide H3).1.ext hX)
      clear hX
      by_cases hlt : k < cn
      · have hlt2 : (k : Int) < (cn : Int) := by omega
        obtain ⟨q, hq, hqb, hql, q0, q1, q2, q3⟩ := OV.cells (GO.ext (unhide H3).2.2.2 (unhide HXR)) k (by have := unhide HLN; omega)
        subst hq
        have hgk := unhide HG k hlt
        have HGK := hide hgk
        obtain ⟨y, hy⟩ : ∃ y, y = L.getD k nul := ⟨_, rfl⟩
        rw [← hy] at q0 q1 q2 q3 HGK
        clear hgk hy
        have hB8 := Blk.new wr #[.int .i32 (y 0), .int .i32 (y 1), .int .i32 (y 2), .int .i32 (y 3)] 35
        have H5 := hide (And.intro hB8 (And.intro ((unhide HXR).alloc (.cells #[.int .i32 (y 0), .int .i32 (y 1), .int .i32 (y 2), .int .i32 (y 3)] 35)) ((Ext.refl wr).alloc (.cells #[.int .i32 (y 0), .int .i32 (y 1), .int .i32 (y 2), .int .i32 (y 3)] 35))))
        have b : ∀ o, (wr.alloc o).cell? ⟨W.heap.size, 0, none⟩ = some (.int .i64 A.size) ∧ (wr.alloc o).cell? ⟨W.heap.size, 1, none⟩ = some (.int .i64 A.kind) ∧ (wr.alloc o).cell? ⟨W.heap.size, 2, none⟩ = some (.bool A.nz) ∧ (wr.alloc o).cell? ⟨W.heap.size, 3, none⟩ = some (.int .i64 A.stride) ∧ (wr.alloc o).cell? ⟨W.heap.size, 4, none⟩ = some (.int .i64 A.off) ∧ (wr.alloc o).cell? ⟨W.heap.size, 5, none⟩ = some (.int .i64 (fn : Int)) ∧ (wr.alloc o).cell? ⟨W.heap.size, 6, none⟩ = some (.int .i64 (cn : Int)) := fun o => unhide HCL _ (((unhide H3).1.ext (unhide HXR)).alloc o)
        have b0 := fun o => (b o).1
        have b1 := fun o => (b o).2.1
        have b2 := fun o => (b o).2.2.1
        have b3 := fun o => (b o).2.2.2.1
        have b4 := fun o => (b o).2.2.2.2.1
        have b5 := fun o => (b o).2.2.2.2.2.1
        have b6 := fun o => (b o).2.2.2.2.2.2
        clear b hB8
        by_cases h6 : (fn : Int) + (k : Int) ≤ 65535
        · have d6 : ¬ (65535 : Int) < (fn : Int) + (k : Int) := by omega
          obtain ⟨e1, e2⟩ := unhide HVE k h6 hlt
          have HVX := hide (unhide HV (wr.alloc (.cells #[.int .i32 (y 0), .int .i32 (y 1), .int .i32 (y 2), .int .i32 (y 3)] 35)) ((unhide H3).2.2.1.trans (unhide H5).2.1) ((fn : Int) + (k : Int)))
          rw [e1, e2, ← unhide HGK] at HVX
          clear e1 e2
          go_wp2_with fail
          refine (unhide HVX).mono ?_
          rintro e w6 ⟨rfl, hx6⟩
          have hxx : Ext (wr.alloc (.cells #[.int .i32 (y 0), .int .i32 (y 1), .int .i32 (y 2), .int .i32 (y 3)] 35)) (w6.alloc (.cells #[.int .i32 (y 0), .int .i32 (y 1), .int .i32 (y 2), .int .i32 (y 3)] 35)) := hx6.alloc _
          have H6 := hide (And.intro ((unhide H5).1.ext hxx) (And.intro (Blk.new w6 #[.int .i32 (y 0), .int .i32 (y 1), .int .i32 (y 2), .int .i32 (y 3)] 35) ((unhide H5).2.1.trans hxx)))
          clear hx6 hxx b0 b1 b2 b3 b4 b5 b6 a0 a1 a2 a3 a4 a5 a6 q0 q1 q2 q3
          obtain ⟨v0, v1, v2, v3⟩ := (unhide H6).1.vec4
          obtain ⟨z0, z1, z2, z3⟩ := (unhide H6).2.1.vec4
          go_wp2
          go_roundw
          case rel => exact ⟨k + 1, by omega, by push_cast; rfl, (unhide H6).2.2⟩
          case measure => simp [intOf]; omega
        · have d6 : (65535 : Int) < (fn : Int) + (k : Int) := by omega
          go_wp2
          go_ret
          exact ⟨by simp, (unhide H3).2.1.trans (unhide H5).2.1⟩
      · have hlt2 : ¬ (k : Int) < (cn : Int) := by omega
        go_wp2
        go_ret
        exact ⟨by simp, (unhide H3).2.1.trans (unhide HXR)⟩
  · have hL : rowF ys A fi co = [] := by unfold rowF; rw [if_neg h0]
    rw [hL]
    have d0 : (rowE ys A fi co != 0) = true := by simpa using h0
    generalize rowE ys A fi co = er at *
    have X3 := hide (unhide H3).2.1
    clear h0 hL H3 HCL HV
    simp only [List.length_nil]
    go_wp2
    go_ret
    exact ⟨by simp, unhide X3⟩

set_option maxRecDepth 10000
theorem fone_owes (H : Type) (enc : TypeId × Value → H) (W : World) (base : Nat) (args : Array Value) (ds : List (DataW H)) (p : List MemPlace) : Owes H enc Try.prog 7 Try.f7 Rows.fetchOneSpec W base args ds p := by
  intro hval hA hsz
  rw [Try.params7] at hA hval hsz
  obtain ⟨v0, vs0, d0, ds0, p0, q0, hargs, rfl, rfl, h0, r0⟩ := trodAll_cons hA
  obtain ⟨v1, vs1, d1, ds1, p1, q1, rfl, rfl, rfl, h1, r1⟩ := trodAll_cons r0
  obtain ⟨rfl, rfl, rfl⟩ := trodAll_nil r1
  obtain rfl : args = #[v0, v1] := by cases args; simp_all
  obtain ⟨xs, hrow, hwf, hlen⟩ := open_row (j := 0) Try.underlying22 Try.underlying5 (by kernel_rfl) (hval 0 22 v0 rfl rfl) h0 hsz rfl rfl
  have hb : Try.prog.bytesOf 5 = 1 := by kernel_rfl
  rw [hb] at hlen
  have hB : Byt xs := fun x hx => bounds_u8 (hwf x hx)
  obtain ⟨A, fi, co, rfl⟩ := open_from (hval 1 26 v1 rfl rfl) h1
  exact ⟨⟨rfl, rfl, rfl⟩, fone_walk v0 xs A fi co W hrow hB (by omega)⟩

set_option maxRecDepth 100000 in
theorem fone_lifted (os : Os) (started : os.Started) (H : Type) (enc : TypeId × Value → H) :
    ReturnsInHanded {} Try.checked os 7 .any (Rows.fetchOneSpec.pre6 enc Try.prog Try.f7 [] false) (Rows.fetchOneSpec.post enc Try.prog Try.f7 false true false false) :=
  lift_law (C := Try.checked) own laidOut started (by kernel_rfl) Try.func7 (T := 4) rfl Try.underlying4 rfl (by kernel_rfl)
    (ChangeSpec.witness6 (enc := enc) (C := Try.checked) false ⟨#[], #[.slice none 0 0, .agg #[.int .i64 0, .int .i64 0, .bool false, .int .i64 0, .int .i64 0, .int .i64 0, .int .i64 0]], []⟩ 8 (by kernel_rfl) (by kernel_rfl) (by kernel_rfl) (by kernel_rfl)) (fone_owes H enc)

theorem fetchOne_holds : Rows.FetchOneSaid :=
  OpenClaim.holds_of_wide 7 Try.f7 rfl rfl rfl rfl rfl rfl rfl ⟨rfl, rfl, rfl, rfl, rfl⟩ rfl rfl rfl rfl rfl (by kernel_rfl) Try.func7 (by kernel_rfl)
    (of_decide_eq_true (by kernel_rfl)) (by unfold Func.isWrapper; rw [if_neg (of_decide_eq_false (by kernel_rfl))]; exact ⟨rfl, rfl⟩)
    (fun os started H enc _ => fone_lifted os started H enc)
#print axioms fetchOne_holds
end Go.Proofs.Ytmigakbccmkjoaa
