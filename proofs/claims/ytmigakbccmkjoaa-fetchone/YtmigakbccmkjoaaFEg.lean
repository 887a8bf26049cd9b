/-
  Vertices out of bytes: the walk of Row.
-/
import Derived.Test.YtmigakbccmkjoaaFEf
namespace Go.Proofs.Ytmigakbccmkjoaa
open Go.RowKit
set_option linter.unusedVariables false
set_option linter.unusedSimpArgs false

/-- What Row answers. -/
def RowQ (w : World) (L : List (Nat → Int)) (er : Int) (e : Ending) (w' : World) : Prop :=
  ∃ ao cap, e = .returned (.tuple #[.slice ao L.length cap, .int .i64 er]) ∧ OV w' w.heap.size (.slice ao L.length cap) L ∧ Ext w w'

set_option maxRecDepth 10000 in
set_option maxHeartbeats 2000000 in
theorem frow_any (v : Value) (xs : List Int) (A : Arr) (fi co : Int) (w : World) (hr : Row .u8 w v xs) (hB : Byt xs) (hm : xs.length ≤ 140737488355000) :
    Calls Try.prog 11 #[v, .agg (arC A), .int .i64 fi, .int .i64 co] w (RowQ w (rowF xs A fi co) (rowE xs A fi co)) := by
  have HCK := hide (fun wx => fcheck_any A wx)
  have HX := hide ((Ext.refl w).alloc (.cells (arC A) 24))
  have hA1 : Blk (w.alloc (.cells (arC A) 24)) w.heap.size (arC A) 24 := Blk.new _ _ _
  have H1 := hide hA1
  have HR := hide hr
  have hE : rowE xs A fi co = if arrB A = false ∨ fi < 0 ∨ 65535 < fi ∨ co < 0 ∨ 65535 < co then 2 else if 256 < co then 3 else if (List.range co.toNat).all (fun i => (vtxF xs A (fi.toNat + i)).isSome) = true then 0 else 7 := rfl
  have hV : rowF xs A fi co = if rowE xs A fi co = 0 then fstL (fun i => vtxF xs A (fi.toNat + i)) co.toNat else [] := rfl
  have fin0 : ∀ (er : Int) (e : Ending) (w' : World), rowE xs A fi co = er → er ≠ 0 → e = .returned (.tuple #[.slice none 0 0, .int .i64 er]) → Ext w w' → RowQ w (rowF xs A fi co) (rowE xs A fi co) e w' := by
    rintro er e w' h1 h2 rfl hx
    have : rowF xs A fi co = [] := by rw [hV, if_neg (by rw [h1]; exact h2)]
    rw [this, h1]
    exact ⟨none, 0, rfl, GO.nil _ _, hx⟩
  have HFIN := hide fin0
  clear hA1 hr fin0
  by_cases hA : arrB A = true
  · have hck : chkA A = 0 := by unfold chkA; rw [if_pos hA]
    rw [hck] at HCK
    by_cases h0 : fi < 0 ∨ 65535 < fi ∨ co < 0 ∨ 65535 < co
    · have E1 : Hid (rowE xs A fi co = 2) := by rw [Hid, hE, if_pos (.inr h0)]
      have HA := hide hA
      clear hA hck hE hV
      unfold arC
      rcases (by omega : fi < 0 ∨ (0 ≤ fi ∧ 65535 < fi) ∨ (0 ≤ fi ∧ fi ≤ 65535 ∧ co < 0) ∨ (0 ≤ fi ∧ fi ≤ 65535 ∧ 0 ≤ co ∧ 65535 < co)) with h1 | ⟨h1, h2⟩ | ⟨h1, h2, h3⟩ | ⟨h1, h2, h3, h4⟩
      · have d1 : decide (fi < 0) = true := by simpa using h1
        go_enter Try.func11, Try.ntmps11
        go_wp2_with (go_at_call 12; refine (unhide HCK _).mono ?_; rintro e w1 ⟨rfl, hx1⟩; have HX2 := hide ((unhide HX).trans hx1); clear hx1)
        refine bodyPost_ret (v := .tuple #[.slice none 0 0, .int .i64 2]) (by simp [results, Try.results11, go_sem]) rfl (unhide HFIN 2 _ _ (unhide E1) (by decide) rfl (unhide HX2))
      · have d1 : decide (fi < 0) = false := by simp; omega
        have d2 : decide (65535 < fi) = true := by simpa using h2
        go_enter Try.func11, Try.ntmps11
        go_wp2_with (go_at_call 12; refine (unhide HCK _).mono ?_; rintro e w1 ⟨rfl, hx1⟩; have HX2 := hide ((unhide HX).trans hx1); clear hx1)
        refine bodyPost_ret (v := .tuple #[.slice none 0 0, .int .i64 2]) (by simp [results, Try.results11, go_sem]) rfl (unhide HFIN 2 _ _ (unhide E1) (by decide) rfl (unhide HX2))
      · have d1 : decide (fi < 0) = false := by simp; omega
        have d2 : decide (65535 < fi) = false := by simp; omega
        have d3 : decide (co < 0) = true := by simpa using h3
        go_enter Try.func11, Try.ntmps11
        go_wp2_with (go_at_call 12; refine (unhide HCK _).mono ?_; rintro e w1 ⟨rfl, hx1⟩; have HX2 := hide ((unhide HX).trans hx1); clear hx1)
        refine bodyPost_ret (v := .tuple #[.slice none 0 0, .int .i64 2]) (by simp [results, Try.results11, go_sem]) rfl (unhide HFIN 2 _ _ (unhide E1) (by decide) rfl (unhide HX2))
      · have d1 : decide (fi < 0) = false := by simp; omega
        have d2 : decide (65535 < fi) = false := by simp; omega
        have d3 : decide (co < 0) = false := by simp; omega
        have d4 : decide (65535 < co) = true := by simpa using h4
        go_enter Try.func11, Try.ntmps11
        go_wp2_with (go_at_call 12; refine (unhide HCK _).mono ?_; rintro e w1 ⟨rfl, hx1⟩; have HX2 := hide ((unhide HX).trans hx1); clear hx1)
        refine bodyPost_ret (v := .tuple #[.slice none 0 0, .int .i64 2]) (by simp [results, Try.results11, go_sem]) rfl (unhide HFIN 2 _ _ (unhide E1) (by decide) rfl (unhide HX2))
    · have d1 : decide (fi < 0) = false := by simp; omega
      have d2 : decide (65535 < fi) = false := by simp; omega
      have d3 : decide (co < 0) = false := by simp; omega
      have d4 : decide (65535 < co) = false := by simp; omega
      have hE1 : rowE xs A fi co = if 256 < co then 3 else if (List.range co.toNat).all (fun i => (vtxF xs A (fi.toNat + i)).isSome) = true then 0 else 7 := by rw [hE, if_neg]; rintro (h | h); (rw [hA] at h; cases h); exact h0 h
      by_cases h5 : 256 < co
      · have E1 : Hid (rowE xs A fi co = 3) := by rw [Hid, hE1, if_pos h5]
        have d5 : decide (256 < co) = true := by simpa using h5
        clear hE hE1 hV hA hck h0
        unfold arC
        go_enter Try.func11, Try.ntmps11
        go_wp2_with (go_at_call 12; refine (unhide HCK _).mono ?_; rintro e w1 ⟨rfl, hx1⟩; have HX2 := hide ((unhide HX).trans hx1); clear hx1)
        refine bodyPost_ret (v := .tuple #[.slice none 0 0, .int .i64 3]) (by simp [results, Try.results11, go_sem]) rfl (unhide HFIN 3 _ _ (unhide E1) (by decide) rfl (unhide HX2))
      · have HE2 : Hid (rowE xs A fi co = if (List.range co.toNat).all (fun i => (vtxF xs A (fi.toNat + i)).isSome) = true then 0 else 7) := by rw [Hid, hE1, if_neg h5]
        have hco : 0 ≤ co ∧ co ≤ 256 := by omega
        have HGA := hide (fun (wx : World) (hx : Ext w wx) => gather_any v xs A fi.toNat co.toNat wx ((unhide HR).ext hx) hB hm hA (by omega) (by omega))
        rw [Int.toNat_of_nonneg (show 0 ≤ fi by omega), Int.toNat_of_nonneg (show 0 ≤ co by omega)] at HGA
        have HV2 := hide hV
        clear hE hE1 hV hA hck h0 hB hm
        have HCL := hide (fun (wx : World) (hb : Blk wx w.heap.size (arC A) 24) => show wx.cell? ⟨w.heap.size, 0, none⟩ = some (.int .i64 A.size) ∧ wx.cell? ⟨w.heap.size, 1, none⟩ = some (.int .i64 A.kind) ∧ wx.cell? ⟨w.heap.size, 2, none⟩ = some (.bool A.nz) ∧ wx.cell? ⟨w.heap.size, 3, none⟩ = some (.int .i64 A.stride) ∧ wx.cell? ⟨w.heap.size, 4, none⟩ = some (.int .i64 A.off) from ⟨hb.cell rfl, hb.cell rfl, hb.cell rfl, hb.cell rfl, hb.cell rfl⟩)
        unfold arC
        go_enter Try.func11, Try.ntmps11
        go_wp2_with (go_at_call 12; refine (unhide HCK _).mono ?_; rintro e w1 ⟨rfl, hx1⟩; have HB1 := hide ((unhide H1).ext hx1); have HX2 := hide ((unhide HX).trans hx1); obtain ⟨a0, a1, a2, a3, a4⟩ := unhide HCL w1 (unhide HB1); clear hx1)
        refine (unhide HGA _ (unhide HX2)).mono ?_
        rintro e w2 ⟨ao, cap, L, rfl, hov, hgq, hx2⟩
        have H3 := hide (And.intro ((unhide HX2).trans hx2) (GO.lower hov (unhide HX2).size))
        clear hx2 hov HB1 a0 a1 a2 a3 a4 HCL HGA HX2
        rcases gat_all hgq with ⟨hlt, hno⟩ | ⟨hL, hall⟩
        · have E1 : Hid (rowE xs A fi co = 7) := by rw [Hid, unhide HE2, hno]; rfl
          have hlt2 : (L.length : Int) < co := by omega
          clear hno hgq HE2 HV2 hlt
          go_wp2
          refine bodyPost_ret (v := .tuple #[.slice none 0 0, .int .i64 7]) (by simp [results, Try.results11, go_sem]) rfl (unhide HFIN 7 _ _ (unhide E1) (by decide) rfl (unhide H3).1)
        · have e1 : rowE xs A fi co = 0 := by rw [unhide HE2, hall]; rfl
          have e2 : rowF xs A fi co = L := by rw [unhide HV2, e1, hL]; rfl
          have hlt2 : ¬ (L.length : Int) < co := by rw [hL, fstL_len]; omega
          have E := hide (And.intro e1 e2)
          clear e1 e2 hall hgq HE2 HV2 hL
          go_wp2
          refine bodyPost_ret (v := .tuple #[.slice ao L.length cap, .int .i64 0]) (by simp [results, Try.results11, go_sem]) rfl ?_
          rw [(unhide E).1, (unhide E).2]
          exact ⟨ao, cap, rfl, (unhide H3).2, (unhide H3).1⟩
  · have hA' : arrB A = false := by simpa using hA
    have hck : chkA A = 2 := by unfold chkA; rw [if_neg hA]
    rw [hck] at HCK
    have E1 : Hid (rowE xs A fi co = 2) := by rw [Hid, hE, if_pos (.inl hA')]
    clear hE hV hA hA' hck
    unfold arC
    go_enter Try.func11, Try.ntmps11
    go_wp2_with (go_at_call 12; refine (unhide HCK _).mono ?_; rintro e w1 ⟨rfl, hx1⟩; have HX2 := hide ((unhide HX).trans hx1); clear hx1)
    refine bodyPost_ret (v := .tuple #[.slice none 0 0, .int .i64 2]) (by simp [results, Try.results11, go_sem]) rfl (unhide HFIN 2 _ _ (unhide E1) (by decide) rfl (unhide HX2))
end Go.Proofs.Ytmigakbccmkjoaa
