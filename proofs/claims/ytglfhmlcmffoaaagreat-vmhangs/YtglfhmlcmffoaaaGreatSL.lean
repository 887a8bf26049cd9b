/-
  Colours: the walk of Linear.
-/
import Derived.Test.YtglfhmlcmffoaaaGreatSEJ
namespace Go.Proofs.YtglfhmlcmffoaaaGreat
open Go.RowKit
set_option linter.unusedVariables false
set_option linter.unusedSimpArgs false

theorem size16 : (Tryz.prog.info? 163).map (·.size) = some 16 := by kernel_rfl
section
variable {w : World} {v : Value} {L : List Ent} {I : Img}
set_option maxRecDepth 10000 in
set_option maxHeartbeats 4000000 in
theorem linear_good (h : LR w v L) (hL : L.length ≤ 4000000000000) (hA : I.L = absL L) (hby : ∀ p ∈ L, Byt p.2.2.2) (lv u q : Int) (hu : I32 u) (hq : I32 q) (hE : rfE I lv = 0) :
    Calls Tryz.prog 122 #[.agg #[.int .i64 I.f, v, .int .i64 I.ws, .int .i64 I.wt, .int .i64 I.mn, .int .i64 I.mg], .int .i64 lv, .int .i32 u, .int .i32 q] w fun e w' => e = .returned (.tuple #[.agg #[.int .i32 ((lnI I (levAt I lv) u q) 0), .int .i32 ((lnI I (levAt I lv) u q) 1), .int .i32 ((lnI I (levAt I lv) u q) 2), .int .i32 ((lnI I (levAt I lv) u q) 3)], .int .i64 0]) ∧ Ext w w' := by
  obtain ⟨hok, hh⟩ := rf_cases I lv hE
  obtain ⟨k, hk, rfl, hlv, hlk⟩ := lv_open hA hok hh
  obtain ⟨ao, cap, rfl, hao, hlc, hcm, _⟩ := h.shape
  have hcm2 : cap ≤ 9223372036854775807 := by unfold maxLen at hcm; omega
  have H1 := hide (And.intro (((Ext.refl w).alloc (.cells #[.int .i64 I.f, .slice ao L.length cap, .int .i64 I.ws, .int .i64 I.wt, .int .i64 I.mn, .int .i64 I.mg] 112)).alloc (.cells #[.int .i32 0, .int .i32 0, .int .i32 0, .int .i32 0] 28)) (And.intro ((Blk.new w #[.int .i64 I.f, .slice ao L.length cap, .int .i64 I.ws, .int .i64 I.wt, .int .i64 I.mn, .int .i64 I.mg] 112).alloc (.cells #[.int .i32 0, .int .i32 0, .int .i32 0, .int .i32 0] 28)) (show Blk ((w.alloc (.cells #[.int .i64 I.f, .slice ao L.length cap, .int .i64 I.ws, .int .i64 I.wt, .int .i64 I.mn, .int .i64 I.mg] 112)).alloc (.cells #[.int .i32 0, .int .i32 0, .int .i32 0, .int .i32 0] 28)) (w.heap.size + 1) #[.int .i32 0, .int .i32 0, .int .i32 0, .int .i32 0] 28 from Blk.at (by simp))))
  have HRF := hide (fun wx (hx : Ext w wx) => refusal_any (I := I) (h.ext hx) hL hA (k : Int))
  rw [hE] at HRF
  have hbk := hby _ (List.getElem_mem hk)
  obtain ⟨b, off, bo, bcap, rfl, eb, c0, c1, c2, hr⟩ := h.at k hk
  have HC : Hid (∀ wx i j, Ext w wx → Calls Tryz.prog 172 #[.agg #[.int .i64 I.f, .slice (some ⟨b, off, none⟩) L.length cap, .int .i64 I.ws, .int .i64 I.wt, .int .i64 I.mn, .int .i64 I.mg], .agg #[.int .i64 L[k].1, .int .i64 L[k].2.1, .slice bo L[k].2.2.2.length bcap], .int .i64 i, .int .i64 j] wx fun e w' => e = .returned (.agg #[.int .i32 ((txI I (levAt I (k : Int)) i j) 0), .int .i32 ((txI I (levAt I (k : Int)) i j) 1), .int .i32 ((txI I (levAt I (k : Int)) i j) 2), .int .i32 ((txI I (levAt I (k : Int)) i j) 3)]) ∧ Ext wx w') := fun wx i j hx => by
    rw [hlv]
    exact scol_any hlk hbk (some ⟨b, off, none⟩) L.length cap bo bcap (hr.ext hx) i j
  have HCE : Hid (∀ wx, Ext w wx → wx.cell? ⟨b, off + k * 3, none⟩ = some (.int .i64 L[k].1) ∧ wx.cell? ⟨b, off + k * 3 + 1, none⟩ = some (.int .i64 L[k].2.1) ∧ wx.cell? ⟨b, off + k * 3 + 2, none⟩ = some (.slice bo L[k].2.2.2.length bcap)) := fun wx hx => by
    have hc : ∀ j u, w.cell? ⟨b, j, none⟩ = some u → wx.cell? ⟨b, j, none⟩ = some u := fun j u hu => by
      rw [hx.cell (p := ⟨b, j, none⟩) (World.block_lt_of_cell? w _ hu)]
      exact hu
    exact ⟨hc _ _ c0, hc _ _ c1, hc _ _ c2⟩
  have hkn : (k : Int) < (L.length : Int) := by omega
  have hWb : 1 ≤ L[k].1 ∧ L[k].1 ≤ 64 := hlk.w
  have hHb : 1 ≤ L[k].2.1 ∧ L[k].2.1 ≤ 64 := hlk.h
  have HTB : Hid (∀ i j c, c < 4 → 0 ≤ txI I (levAt I (k : Int)) i j c ∧ txI I (levAt I (k : Int)) i j c ≤ 65536) := fun i j c hc => by rw [hlv]; exact tx_bd hlk i j c hc
  have HN : Hid (∀ c, c < 4 → lnI I (levAt I (k : Int)) u q c = linV (A16 (txI I (levAt I (k : Int)) ((L[k].1 * u - 32768) / 65536) ((L[k].2.1 * q - 32768) / 65536)) (txI I (levAt I (k : Int)) ((L[k].1 * u - 32768) / 65536 + 1) ((L[k].2.1 * q - 32768) / 65536)) (txI I (levAt I (k : Int)) ((L[k].1 * u - 32768) / 65536) ((L[k].2.1 * q - 32768) / 65536 + 1)) (txI I (levAt I (k : Int)) ((L[k].1 * u - 32768) / 65536 + 1) ((L[k].2.1 * q - 32768) / 65536 + 1))) ((L[k].1 * u - 32768) % 65536) ((L[k].2.1 * q - 32768) % 65536) c) := fun c hc => by
    rw [hlv]
    rcases (by omega : c = 0 ∨ c = 1 ∨ c = 2 ∨ c = 3) with rfl | rfl | rfl | rfl <;> rfl
  generalize L[k].1 = W at *
  generalize L[k].2.1 = H at *
  generalize L[k].2.2.2 = bs at *
  obtain ⟨m1, m2⟩ := mul_fix hWb hu
  obtain ⟨m3, m4⟩ := mul_fix hHb hq
  have HBW := hide (fun wx => between_any W u wx hWb hu)
  have HBH := hide (fun wx => between_any H q wx hHb hq)
  have hfb : 0 ≤ (W * u - 32768) % 65536 ∧ (W * u - 32768) % 65536 < 65536 := ⟨Int.emod_nonneg _ (by decide), Int.emod_lt_of_pos _ (by decide)⟩
  have hgb : 0 ≤ (H * q - 32768) % 65536 ∧ (H * q - 32768) % 65536 < 65536 := ⟨Int.emod_nonneg _ (by decide), Int.emod_lt_of_pos _ (by decide)⟩
  have hib : -3000000 ≤ (W * u - 32768) / 65536 ∧ (W * u - 32768) / 65536 ≤ 3000000 := by omega
  have hjb : -3000000 ≤ (H * q - 32768) / 65536 ∧ (H * q - 32768) / 65536 ≤ 3000000 := by omega
  generalize (W * u - 32768) / 65536 = i at *
  generalize (H * q - 32768) / 65536 = j at *
  generalize (W * u - 32768) % 65536 = f at *
  generalize (H * q - 32768) % 65536 = g at *
  have gi : IntKind.i64.wrap (i + 1) = i + 1 := by simp [IntKind.wrap, IntKind.bits, IntKind.signed]; omega
  have gj : IntKind.i64.wrap (j + 1) = j + 1 := by simp [IntKind.wrap, IntKind.bits, IntKind.signed]; omega
  obtain ⟨i1, i2⟩ := hib
  obtain ⟨j1, j2⟩ := hjb
  clear m1 m2 m3 m4 hu hq hWb hHb
  generalize levAt I (k : Int) = lev at *
  clear h hA hao hcm hby hok hh hlv hlk c0 c1 c2 hr eb hbk hE
  go_enter Tryz.func122, Tryz.ntmps122
  go_wp2_with fail
  refine (unhide HRF _ (unhide H1).1).mono ?_
  rintro e w3 ⟨rfl, hx3⟩
  have H3 := hide (And.intro ((unhide H1).1.trans hx3) (And.intro ((unhide H1).2.1.ext hx3) ((unhide H1).2.2.ext hx3)))
  clear H1 hx3 HRF
  obtain ⟨q0, q1, q2, q3, q4, q5⟩ := (unhide H3).2.1.six
  obtain ⟨c0, c1, c2⟩ := unhide HCE w3 (unhide H3).1
  have hx4 := (Ext.refl w3).alloc (.cells #[.int .i64 W, .int .i64 H, .slice bo bs.length bcap] 156)
  have H4 := hide (And.intro ((unhide H3).1.trans hx4) (And.intro ((unhide H3).2.1.ext hx4) (And.intro ((unhide H3).2.2.ext hx4) (Blk.new w3 #[.int .i64 W, .int .i64 H, .slice bo bs.length bcap] 156))))
  clear H3 hx4
  go_upto_region 5 with fail
  generalize hw4 : w3.alloc (.cells #[.int .i64 W, .int .i64 H, .slice bo bs.length bcap] 156) = w4 at H4 ⊢
  have hsz4 : w3.heap.size < w4.heap.size := by rw [← hw4]; simp
  clear hw4 q0 q1 q2 q3 q4 q5 c0 c1 c2 HCE
  obtain ⟨q0, q1, q2, q3, q4, q5⟩ := (unhide H4).2.1.six
  obtain ⟨l0, l1, l2⟩ := (unhide H4).2.2.2.three
  go_wp2_with fail
  refine (unhide HBW _).mono ?_
  rintro e w4' ⟨rfl, rfl⟩
  go_wp2_with fail
  refine (unhide HBH _).mono ?_
  rintro e w4 ⟨rfl, rfl⟩
  clear HBW HBH
  go_upto_region 7 with fail
  have HCL : Hid (∀ wx, Ext w4 wx → (wx.cell? ⟨w.heap.size, 0, none⟩ = some (.int .i64 I.f) ∧ wx.cell? ⟨w.heap.size, 1, none⟩ = some (.slice (some ⟨b, off, none⟩) L.length cap) ∧ wx.cell? ⟨w.heap.size, 2, none⟩ = some (.int .i64 I.ws) ∧ wx.cell? ⟨w.heap.size, 3, none⟩ = some (.int .i64 I.wt) ∧ wx.cell? ⟨w.heap.size, 4, none⟩ = some (.int .i64 I.mn) ∧ wx.cell? ⟨w.heap.size, 5, none⟩ = some (.int .i64 I.mg)) ∧ (wx.cell? ⟨w3.heap.size, 0, none⟩ = some (.int .i64 W) ∧ wx.cell? ⟨w3.heap.size, 1, none⟩ = some (.int .i64 H) ∧ wx.cell? ⟨w3.heap.size, 2, none⟩ = some (.slice bo bs.length bcap))) := fun wx hx => ⟨((unhide H4).2.1.ext hx).six, ((unhide H4).2.2.2.ext hx).three⟩
  have HC4 : Hid (∀ wx i j, Ext w4 wx → Calls Tryz.prog 172 #[.agg #[.int .i64 I.f, .slice (some ⟨b, off, none⟩) L.length cap, .int .i64 I.ws, .int .i64 I.wt, .int .i64 I.mn, .int .i64 I.mg], .agg #[.int .i64 W, .int .i64 H, .slice bo bs.length bcap], .int .i64 i, .int .i64 j] wx fun e w' => e = .returned (.agg #[.int .i32 ((txI I lev i j) 0), .int .i32 ((txI I lev i j) 1), .int .i32 ((txI I lev i j) 2), .int .i32 ((txI I lev i j) 3)]) ∧ Ext wx w') := fun wx i j hx => unhide HC wx i j ((unhide H4).1.trans hx)
  have H44 := hide (And.intro (unhide H4) (And.intro (unhide HTB) (unhide HN)))
  clear HC q0 q1 q2 q3 q4 q5 l0 l1 l2 HTB HN HCL
  go_cut [16] (fun p wc => ∃ r, p = .pointer (some ⟨r, 0, none⟩) ∧ Blk wc r (six4 (A16 (txI I lev i j) (txI I lev (i + 1) j) (txI I lev i (j + 1)) (txI I lev (i + 1) (j + 1)))) 163 ∧ Ext w4 wc)
  case first =>
    refine wp_region_noPanic ?_
    refine wp_region_held_drew (S := fun wx => Ext w4 wx) (by kernel_rfl) (ext_0 w4) (fun HS => ?_)
    refine wpAnyH_take (i := 0) (oi := { dst := some 43, op := Op.load 112 (Operand.tmp 4), type := 112, pos := _, after := #[], guard := none }) (v := .agg #[.int .i64 I.f, .slice (some ⟨b, off, none⟩) L.length cap, .int .i64 I.ws, .int .i64 I.wt, .int .i64 I.mn, .int .i64 I.mg]) rfl (by kernel_rfl) (by kernel_rfl) (by kernel_rfl) (fun _ _ _ h => h) (yieldsIf_load_mid (by rfl) 112 (.tmp 4) rfl w.heap.size 0 rfl [.int .i64 I.f, .slice (some ⟨b, off, none⟩) L.length cap, .int .i64 I.ws, .int .i64 I.wt, .int .i64 I.mn, .int .i64 I.mg] _ (fun wx hx => ((unhide H4).2.1.ext hx).range 0 [.int .i64 I.f, .slice (some ⟨b, off, none⟩) L.length cap, .int .i64 I.ws, .int .i64 I.wt, .int .i64 I.mn, .int .i64 I.mg] rfl) Tryz.underlying112 rfl sizeI) HS ?_
    simp only [Act.put, List.setIfInBounds_toArray, List.set_cons_zero, List.set_cons_succ]
    refine wpAnyH_take (i := 1) (oi := { dst := some 44, op := Op.load 156 (Operand.tmp 11), type := 156, pos := _, after := #[], guard := none }) (v := .agg #[.int .i64 W, .int .i64 H, .slice bo bs.length bcap]) rfl (by kernel_rfl) (by kernel_rfl) (by kernel_rfl) (fun _ _ _ h => h) (yieldsIf_load_mid (by rfl) 156 (.tmp 11) rfl w3.heap.size 0 rfl [.int .i64 W, .int .i64 H, .slice bo bs.length bcap] _ (fun wx hx => ((unhide H4).2.2.2.ext hx).range 0 [.int .i64 W, .int .i64 H, .slice bo bs.length bcap] rfl) Tryz.underlying156 rfl sizeL) HS ?_
    simp only [Act.put, List.setIfInBounds_toArray, List.set_cons_zero, List.set_cons_succ]
    refine wpAnyH_take (i := 2) (oi := { dst := some 45, op := Op.move (Operand.tmp 12), type := 3, pos := _, after := #[], guard := none }) (v := .int .i64 i) rfl (by kernel_rfl) (by kernel_rfl) (by kernel_rfl) (fun _ _ _ h => h) (Or.inl ⟨by rfl, fun _ _ => rfl⟩) HS ?_
    simp only [Act.put, List.setIfInBounds_toArray, List.set_cons_zero, List.set_cons_succ]
    refine wpAnyH_take (i := 3) (oi := { dst := some 46, op := Op.move (Operand.tmp 14), type := 3, pos := _, after := #[], guard := none }) (v := .int .i64 j) rfl (by kernel_rfl) (by kernel_rfl) (by kernel_rfl) (fun _ _ _ h => h) (Or.inl ⟨by rfl, fun _ _ => rfl⟩) HS ?_
    simp only [Act.put, List.setIfInBounds_toArray, List.set_cons_zero, List.set_cons_succ]
    refine wpAnyH_take (i := 5) (oi := { dst := some 48, op := Op.load 112 (Operand.tmp 4), type := 112, pos := _, after := #[], guard := none }) (v := .agg #[.int .i64 I.f, .slice (some ⟨b, off, none⟩) L.length cap, .int .i64 I.ws, .int .i64 I.wt, .int .i64 I.mn, .int .i64 I.mg]) rfl (by kernel_rfl) (by kernel_rfl) (by kernel_rfl) (fun _ _ _ h => h) (yieldsIf_load_mid (by rfl) 112 (.tmp 4) rfl w.heap.size 0 rfl [.int .i64 I.f, .slice (some ⟨b, off, none⟩) L.length cap, .int .i64 I.ws, .int .i64 I.wt, .int .i64 I.mn, .int .i64 I.mg] _ (fun wx hx => ((unhide H4).2.1.ext hx).range 0 [.int .i64 I.f, .slice (some ⟨b, off, none⟩) L.length cap, .int .i64 I.ws, .int .i64 I.wt, .int .i64 I.mn, .int .i64 I.mg] rfl) Tryz.underlying112 rfl sizeI) HS ?_
    simp only [Act.put, List.setIfInBounds_toArray, List.set_cons_zero, List.set_cons_succ]
    refine wpAnyH_take (i := 6) (oi := { dst := some 49, op := Op.load 156 (Operand.tmp 11), type := 156, pos := _, after := #[], guard := none }) (v := .agg #[.int .i64 W, .int .i64 H, .slice bo bs.length bcap]) rfl (by kernel_rfl) (by kernel_rfl) (by kernel_rfl) (fun _ _ _ h => h) (yieldsIf_load_mid (by rfl) 156 (.tmp 11) rfl w3.heap.size 0 rfl [.int .i64 W, .int .i64 H, .slice bo bs.length bcap] _ (fun wx hx => ((unhide H4).2.2.2.ext hx).range 0 [.int .i64 W, .int .i64 H, .slice bo bs.length bcap] rfl) Tryz.underlying156 rfl sizeL) HS ?_
    simp only [Act.put, List.setIfInBounds_toArray, List.set_cons_zero, List.set_cons_succ]
    refine wpAnyH_take (i := 7) (oi := { dst := some 50, op := Op.move (Operand.tmp 12), type := 3, pos := _, after := #[], guard := none }) (v := .int .i64 i) rfl (by kernel_rfl) (by kernel_rfl) (by kernel_rfl) (fun _ _ _ h => h) (Or.inl ⟨by rfl, fun _ _ => rfl⟩) HS ?_
    simp only [Act.put, List.setIfInBounds_toArray, List.set_cons_zero, List.set_cons_succ]
    refine wpAnyH_take (i := 8) (oi := { dst := some 51, op := Op.binOp BinOp.add 3 (Operand.tmp 50) (Operand.const (Value.int IntKind.i64 1)) 3, type := 3, pos := _, after := #[{ on := 7, ground := Ground.data }], guard := none }) (v := .int .i64 (i + 1)) rfl (by kernel_rfl) (by kernel_rfl) (by kernel_rfl) (fun _ _ _ h => h) (Or.inl ⟨by rfl, fun wx _ => by go_simp⟩) HS ?_
    simp only [Act.put, List.setIfInBounds_toArray, List.set_cons_zero, List.set_cons_succ]
    refine wpAnyH_take (i := 9) (oi := { dst := some 52, op := Op.move (Operand.tmp 14), type := 3, pos := _, after := #[], guard := none }) (v := .int .i64 j) rfl (by kernel_rfl) (by kernel_rfl) (by kernel_rfl) (fun _ _ _ h => h) (Or.inl ⟨by rfl, fun _ _ => rfl⟩) HS ?_
    simp only [Act.put, List.setIfInBounds_toArray, List.set_cons_zero, List.set_cons_succ]
    refine wpAnyH_take (i := 11) (oi := { dst := some 54, op := Op.load 112 (Operand.tmp 4), type := 112, pos := _, after := #[], guard := none }) (v := .agg #[.int .i64 I.f, .slice (some ⟨b, off, none⟩) L.length cap, .int .i64 I.ws, .int .i64 I.wt, .int .i64 I.mn, .int .i64 I.mg]) rfl (by kernel_rfl) (by kernel_rfl) (by kernel_rfl) (fun _ _ _ h => h) (yieldsIf_load_mid (by rfl) 112 (.tmp 4) rfl w.heap.size 0 rfl [.int .i64 I.f, .slice (some ⟨b, off, none⟩) L.length cap, .int .i64 I.ws, .int .i64 I.wt, .int .i64 I.mn, .int .i64 I.mg] _ (fun wx hx => ((unhide H4).2.1.ext hx).range 0 [.int .i64 I.f, .slice (some ⟨b, off, none⟩) L.length cap, .int .i64 I.ws, .int .i64 I.wt, .int .i64 I.mn, .int .i64 I.mg] rfl) Tryz.underlying112 rfl sizeI) HS ?_
    simp only [Act.put, List.setIfInBounds_toArray, List.set_cons_zero, List.set_cons_succ]
    refine wpAnyH_take (i := 12) (oi := { dst := some 55, op := Op.load 156 (Operand.tmp 11), type := 156, pos := _, after := #[], guard := none }) (v := .agg #[.int .i64 W, .int .i64 H, .slice bo bs.length bcap]) rfl (by kernel_rfl) (by kernel_rfl) (by kernel_rfl) (fun _ _ _ h => h) (yieldsIf_load_mid (by rfl) 156 (.tmp 11) rfl w3.heap.size 0 rfl [.int .i64 W, .int .i64 H, .slice bo bs.length bcap] _ (fun wx hx => ((unhide H4).2.2.2.ext hx).range 0 [.int .i64 W, .int .i64 H, .slice bo bs.length bcap] rfl) Tryz.underlying156 rfl sizeL) HS ?_
    simp only [Act.put, List.setIfInBounds_toArray, List.set_cons_zero, List.set_cons_succ]
    refine wpAnyH_take (i := 13) (oi := { dst := some 56, op := Op.move (Operand.tmp 12), type := 3, pos := _, after := #[], guard := none }) (v := .int .i64 i) rfl (by kernel_rfl) (by kernel_rfl) (by kernel_rfl) (fun _ _ _ h => h) (Or.inl ⟨by rfl, fun _ _ => rfl⟩) HS ?_
    simp only [Act.put, List.setIfInBounds_toArray, List.set_cons_zero, List.set_cons_succ]
    refine wpAnyH_take (i := 14) (oi := { dst := some 57, op := Op.move (Operand.tmp 14), type := 3, pos := _, after := #[], guard := none }) (v := .int .i64 j) rfl (by kernel_rfl) (by kernel_rfl) (by kernel_rfl) (fun _ _ _ h => h) (Or.inl ⟨by rfl, fun _ _ => rfl⟩) HS ?_
    simp only [Act.put, List.setIfInBounds_toArray, List.set_cons_zero, List.set_cons_succ]
    refine wpAnyH_take (i := 15) (oi := { dst := some 58, op := Op.binOp BinOp.add 3 (Operand.tmp 57) (Operand.const (Value.int IntKind.i64 1)) 3, type := 3, pos := _, after := #[{ on := 14, ground := Ground.data }], guard := none }) (v := .int .i64 (j + 1)) rfl (by kernel_rfl) (by kernel_rfl) (by kernel_rfl) (fun _ _ _ h => h) (Or.inl ⟨by rfl, fun wx _ => by go_simp⟩) HS ?_
    simp only [Act.put, List.setIfInBounds_toArray, List.set_cons_zero, List.set_cons_succ]
    refine wpAnyH_take (i := 17) (oi := { dst := some 60, op := Op.load 112 (Operand.tmp 4), type := 112, pos := _, after := #[], guard := none }) (v := .agg #[.int .i64 I.f, .slice (some ⟨b, off, none⟩) L.length cap, .int .i64 I.ws, .int .i64 I.wt, .int .i64 I.mn, .int .i64 I.mg]) rfl (by kernel_rfl) (by kernel_rfl) (by kernel_rfl) (fun _ _ _ h => h) (yieldsIf_load_mid (by rfl) 112 (.tmp 4) rfl w.heap.size 0 rfl [.int .i64 I.f, .slice (some ⟨b, off, none⟩) L.length cap, .int .i64 I.ws, .int .i64 I.wt, .int .i64 I.mn, .int .i64 I.mg] _ (fun wx hx => ((unhide H4).2.1.ext hx).range 0 [.int .i64 I.f, .slice (some ⟨b, off, none⟩) L.length cap, .int .i64 I.ws, .int .i64 I.wt, .int .i64 I.mn, .int .i64 I.mg] rfl) Tryz.underlying112 rfl sizeI) HS ?_
    simp only [Act.put, List.setIfInBounds_toArray, List.set_cons_zero, List.set_cons_succ]
    refine wpAnyH_take (i := 18) (oi := { dst := some 61, op := Op.load 156 (Operand.tmp 11), type := 156, pos := _, after := #[], guard := none }) (v := .agg #[.int .i64 W, .int .i64 H, .slice bo bs.length bcap]) rfl (by kernel_rfl) (by kernel_rfl) (by kernel_rfl) (fun _ _ _ h => h) (yieldsIf_load_mid (by rfl) 156 (.tmp 11) rfl w3.heap.size 0 rfl [.int .i64 W, .int .i64 H, .slice bo bs.length bcap] _ (fun wx hx => ((unhide H4).2.2.2.ext hx).range 0 [.int .i64 W, .int .i64 H, .slice bo bs.length bcap] rfl) Tryz.underlying156 rfl sizeL) HS ?_
    simp only [Act.put, List.setIfInBounds_toArray, List.set_cons_zero, List.set_cons_succ]
    refine wpAnyH_take (i := 19) (oi := { dst := some 62, op := Op.move (Operand.tmp 12), type := 3, pos := _, after := #[], guard := none }) (v := .int .i64 i) rfl (by kernel_rfl) (by kernel_rfl) (by kernel_rfl) (fun _ _ _ h => h) (Or.inl ⟨by rfl, fun _ _ => rfl⟩) HS ?_
    simp only [Act.put, List.setIfInBounds_toArray, List.set_cons_zero, List.set_cons_succ]
    refine wpAnyH_take (i := 20) (oi := { dst := some 63, op := Op.binOp BinOp.add 3 (Operand.tmp 62) (Operand.const (Value.int IntKind.i64 1)) 3, type := 3, pos := _, after := #[{ on := 19, ground := Ground.data }], guard := none }) (v := .int .i64 (i + 1)) rfl (by kernel_rfl) (by kernel_rfl) (by kernel_rfl) (fun _ _ _ h => h) (Or.inl ⟨by rfl, fun wx _ => by go_simp⟩) HS ?_
    simp only [Act.put, List.setIfInBounds_toArray, List.set_cons_zero, List.set_cons_succ]
    refine wpAnyH_take (i := 21) (oi := { dst := some 64, op := Op.move (Operand.tmp 14), type := 3, pos := _, after := #[], guard := none }) (v := .int .i64 j) rfl (by kernel_rfl) (by kernel_rfl) (by kernel_rfl) (fun _ _ _ h => h) (Or.inl ⟨by rfl, fun _ _ => rfl⟩) HS ?_
    simp only [Act.put, List.setIfInBounds_toArray, List.set_cons_zero, List.set_cons_succ]
    refine wpAnyH_take (i := 22) (oi := { dst := some 65, op := Op.binOp BinOp.add 3 (Operand.tmp 64) (Operand.const (Value.int IntKind.i64 1)) 3, type := 3, pos := _, after := #[{ on := 21, ground := Ground.data }], guard := none }) (v := .int .i64 (j + 1)) rfl (by kernel_rfl) (by kernel_rfl) (by kernel_rfl) (fun _ _ _ h => h) (Or.inl ⟨by rfl, fun wx _ => by go_simp⟩) HS ?_
    simp only [Act.put, List.setIfInBounds_toArray, List.set_cons_zero, List.set_cons_succ]
    refine wpAnyH_ready (rs := [4, 25]) (by kernel_rfl) (by simp) (AllReadyH.cons (o := { dst := some 47, op := Op.call { callee := Callee.value (Operand.func 172), args := #[Operand.tmp 43, Operand.tmp 44, Operand.tmp 45, Operand.tmp 46], argTypes := #[112, 156, 3, 3] }, type := 28, pos := _, after := #[{ on := 0, ground := Ground.data }, { on := 1, ground := Ground.data }, { on := 2, ground := Ground.data }, { on := 3, ground := Ground.data }], guard := none }) rfl (fun KK hK => ?_) (AllReadyH.cons (o := { dst := some 16, op := Op.alloc 163, type := 0, pos := _, after := #[], guard := none }) rfl (fun KK hK => ?_) AllReadyH.nil))
    · go_simp
      refine (unhide HC4 _ _ _ HS).mono ?_
      rintro e ws ⟨rfl, hxs⟩
      have HS2 := HS.trans hxs
      clear hxs HS
      have HS := HS2
      clear HS2
      refine hK.out _ _ HS (fun _ => ?_)
      clear hK KK
      try simp only [Act.put, List.setIfInBounds_toArray, List.set_cons_zero, List.set_cons_succ]
      refine wpAnyH_ready (rs := [10, 25]) (by kernel_rfl) (by simp) (AllReadyH.cons (o := { dst := some 53, op := Op.call { callee := Callee.value (Operand.func 172), args := #[Operand.tmp 48, Operand.tmp 49, Operand.tmp 51, Operand.tmp 52], argTypes := #[112, 156, 3, 3] }, type := 28, pos := _, after := #[{ on := 5, ground := Ground.data }, { on := 6, ground := Ground.data }, { on := 8, ground := Ground.data }, { on := 9, ground := Ground.data }, { on := 4, ground := Ground.chain }], guard := none }) rfl (fun KK hK => ?_) (AllReadyH.cons (o := { dst := some 16, op := Op.alloc 163, type := 0, pos := _, after := #[], guard := none }) rfl (fun KK hK => ?_) AllReadyH.nil))
      · go_simp
        refine (unhide HC4 _ _ _ HS).mono ?_
        rintro e ws ⟨rfl, hxs⟩
        have HS2 := HS.trans hxs
        clear hxs HS
        have HS := HS2
        clear HS2
        refine hK.out _ _ HS (fun _ => ?_)
        clear hK KK
        try simp only [Act.put, List.setIfInBounds_toArray, List.set_cons_zero, List.set_cons_succ]
        refine wpAnyH_ready (rs := [16, 25]) (by kernel_rfl) (by simp) (AllReadyH.cons (o := { dst := some 59, op := Op.call { callee := Callee.value (Operand.func 172), args := #[Operand.tmp 54, Operand.tmp 55, Operand.tmp 56, Operand.tmp 58], argTypes := #[112, 156, 3, 3] }, type := 28, pos := _, after := #[{ on := 11, ground := Ground.data }, { on := 12, ground := Ground.data }, { on := 13, ground := Ground.data }, { on := 15, ground := Ground.data }, { on := 10, ground := Ground.chain }], guard := none }) rfl (fun KK hK => ?_) (AllReadyH.cons (o := { dst := some 16, op := Op.alloc 163, type := 0, pos := _, after := #[], guard := none }) rfl (fun KK hK => ?_) AllReadyH.nil))
        · go_simp
          refine (unhide HC4 _ _ _ HS).mono ?_
          rintro e ws ⟨rfl, hxs⟩
          have HS2 := HS.trans hxs
          clear hxs HS
          have HS := HS2
          clear HS2
          refine hK.out _ _ HS (fun _ => ?_)
          clear hK KK
          try simp only [Act.put, List.setIfInBounds_toArray, List.set_cons_zero, List.set_cons_succ]
          refine wpAnyH_ready (rs := [23, 25]) (by kernel_rfl) (by simp) (AllReadyH.cons (o := { dst := some 66, op := Op.call { callee := Callee.value (Operand.func 172), args := #[Operand.tmp 60, Operand.tmp 61, Operand.tmp 63, Operand.tmp 65], argTypes := #[112, 156, 3, 3] }, type := 28, pos := _, after := #[{ on := 17, ground := Ground.data }, { on := 18, ground := Ground.data }, { on := 20, ground := Ground.data }, { on := 22, ground := Ground.data }, { on := 16, ground := Ground.chain }], guard := none }) rfl (fun KK hK => ?_) (AllReadyH.cons (o := { dst := some 16, op := Op.alloc 163, type := 0, pos := _, after := #[], guard := none }) rfl (fun KK hK => ?_) AllReadyH.nil))
          · go_simp
            refine (unhide HC4 _ _ _ HS).mono ?_
            rintro e ws ⟨rfl, hxs⟩
            have HS2 := HS.trans hxs
            clear hxs HS
            have HS := HS2
            clear HS2
            refine hK.out _ _ HS (fun _ => ?_)
            clear hK KK
            try simp only [Act.put, List.setIfInBounds_toArray, List.set_cons_zero, List.set_cons_succ]
            refine wpAnyH_take (i := 24) (oi := { dst := some 67, op := Op.build 163 #[(0, Operand.tmp 47), (1, Operand.tmp 53), (2, Operand.tmp 59), (3, Operand.tmp 66)], type := 163, pos := _, after := #[{ on := 4, ground := Ground.data }, { on := 10, ground := Ground.data }, { on := 16, ground := Ground.data }, { on := 23, ground := Ground.data }], guard := none }) (v := .agg #[.int .i32 (txI I lev i j 0), .int .i32 (txI I lev i j 1), .int .i32 (txI I lev i j 2), .int .i32 (txI I lev i j 3), .int .i32 (txI I lev (i + 1) j 0), .int .i32 (txI I lev (i + 1) j 1), .int .i32 (txI I lev (i + 1) j 2), .int .i32 (txI I lev (i + 1) j 3), .int .i32 (txI I lev i (j + 1) 0), .int .i32 (txI I lev i (j + 1) 1), .int .i32 (txI I lev i (j + 1) 2), .int .i32 (txI I lev i (j + 1) 3), .int .i32 (txI I lev (i + 1) (j + 1) 0), .int .i32 (txI I lev (i + 1) (j + 1) 1), .int .i32 (txI I lev (i + 1) (j + 1) 2), .int .i32 (txI I lev (i + 1) (j + 1) 3)]) rfl (by kernel_rfl) (by kernel_rfl) (by kernel_rfl) (fun _ _ _ h => h) (Or.inl ⟨by rfl, fun wx _ => by go_simp⟩) HS ?_
            simp only [Act.put, List.setIfInBounds_toArray, List.set_cons_zero, List.set_cons_succ]
            refine wpAnyH_ready (rs := [25]) (by kernel_rfl) (by simp) (AllReadyH.cons (o := { dst := some 16, op := Op.alloc 163, type := 0, pos := _, after := #[], guard := none }) rfl (fun KK hK => ?_) AllReadyH.nil)
            refine Eq.mpr (if_pos (by rfl)) ?_
            go_simp
            refine hK.out _ _ (HS.alloc _) (fun _ => ?_)
            clear hK KK
            have RB := hide (Blk.new ws (six4 fun _ => 0) 163)
            have RL := hide (Below.size HS)
            have HS2 := HS.alloc (.cells (six4 fun _ => 0) 163)
            clear HS
            have HS := HS2
            clear HS2
            skip
            try simp only [Act.put, List.setIfInBounds_toArray, List.set_cons_zero, List.set_cons_succ]
            refine wpAnyH_ready (rs := [26]) (by kernel_rfl) (by simp) (AllReadyH.cons (o := { dst := none, op := Op.store 163 (Operand.tmp 16) (Operand.tmp 67), type := 0, pos := _, after := _, guard := none }) rfl (fun KK hK => ?_) AllReadyH.nil)
            refine Eq.mpr (if_pos (by rfl)) ?_
            refine wp_store_row 163 (.tmp 16) (.tmp 67) rfl _ #[.int .i32 (txI I lev i j 0), .int .i32 (txI I lev i j 1), .int .i32 (txI I lev i j 2), .int .i32 (txI I lev i j 3), .int .i32 (txI I lev (i + 1) j 0), .int .i32 (txI I lev (i + 1) j 1), .int .i32 (txI I lev (i + 1) j 2), .int .i32 (txI I lev (i + 1) j 3), .int .i32 (txI I lev i (j + 1) 0), .int .i32 (txI I lev i (j + 1) 1), .int .i32 (txI I lev i (j + 1) 2), .int .i32 (txI I lev i (j + 1) 3), .int .i32 (txI I lev (i + 1) (j + 1) 0), .int .i32 (txI I lev (i + 1) (j + 1) 1), .int .i32 (txI I lev (i + 1) (j + 1) 2), .int .i32 (txI I lev (i + 1) (j + 1) 3)] rfl rfl 163 _ (unhide RB) size16 rfl (by simp [Value.oneCell']) ?_
            refine hK.out _ _ (ext_row HS (unhide RL)) (fun _ => ?_)
            clear hK KK
            try simp only [Act.put, List.setIfInBounds_toArray, List.set_cons_zero, List.set_cons_succ]
            refine wpAnyH_done (by kernel_rfl) ?_ _
            refine NoPanic.normal ?_
            go_wp2
            go_meet
            exact ⟨_, rfl, (unhide RB).row, ext_row HS (unhide RL)⟩
          · refine Eq.mpr (if_pos (by rfl)) ?_
            go_simp
            refine hK.out _ _ (HS.alloc _) (fun _ => ?_)
            clear hK KK
            have RB := hide (Blk.new ws (six4 fun _ => 0) 163)
            have RL := hide (Below.size HS)
            have HS2 := HS.alloc (.cells (six4 fun _ => 0) 163)
            clear HS
            have HS := HS2
            clear HS2
            skip
            try simp only [Act.put, List.setIfInBounds_toArray, List.set_cons_zero, List.set_cons_succ]
            refine wpAnyH_ready (rs := [23]) (by kernel_rfl) (by simp) (AllReadyH.cons (o := { dst := some 66, op := Op.call { callee := Callee.value (Operand.func 172), args := #[Operand.tmp 60, Operand.tmp 61, Operand.tmp 63, Operand.tmp 65], argTypes := #[112, 156, 3, 3] }, type := 28, pos := _, after := #[{ on := 17, ground := Ground.data }, { on := 18, ground := Ground.data }, { on := 20, ground := Ground.data }, { on := 22, ground := Ground.data }, { on := 16, ground := Ground.chain }], guard := none }) rfl (fun KK hK => ?_) AllReadyH.nil)
            go_simp
            refine (unhide HC4 _ _ _ HS).mono ?_
            rintro e ws ⟨rfl, hxs⟩
            have HS2 := HS.trans hxs
            have RB := hide ((unhide RB).ext hxs)
            clear hxs HS
            have HS := HS2
            clear HS2
            refine hK.out _ _ HS (fun _ => ?_)
            clear hK KK
            try simp only [Act.put, List.setIfInBounds_toArray, List.set_cons_zero, List.set_cons_succ]
            refine wpAnyH_take (i := 24) (oi := { dst := some 67, op := Op.build 163 #[(0, Operand.tmp 47), (1, Operand.tmp 53), (2, Operand.tmp 59), (3, Operand.tmp 66)], type := 163, pos := _, after := #[{ on := 4, ground := Ground.data }, { on := 10, ground := Ground.data }, { on := 16, ground := Ground.data }, { on := 23, ground := Ground.data }], guard := none }) (v := .agg #[.int .i32 (txI I lev i j 0), .int .i32 (txI I lev i j 1), .int .i32 (txI I lev i j 2), .int .i32 (txI I lev i j 3), .int .i32 (txI I lev (i + 1) j 0), .int .i32 (txI I lev (i + 1) j 1), .int .i32 (txI I lev (i + 1) j 2), .int .i32 (txI I lev (i + 1) j 3), .int .i32 (txI I lev i (j + 1) 0), .int .i32 (txI I lev i (j + 1) 1), .int .i32 (txI I lev i (j + 1) 2), .int .i32 (txI I lev i (j + 1) 3), .int .i32 (txI I lev (i + 1) (j + 1) 0), .int .i32 (txI I lev (i + 1) (j + 1) 1), .int .i32 (txI I lev (i + 1) (j + 1) 2), .int .i32 (txI I lev (i + 1) (j + 1) 3)]) rfl (by kernel_rfl) (by kernel_rfl) (by kernel_rfl) (fun _ _ _ h => h) (Or.inl ⟨by rfl, fun wx _ => by go_simp⟩) HS ?_
            simp only [Act.put, List.setIfInBounds_toArray, List.set_cons_zero, List.set_cons_succ]
            refine wpAnyH_ready (rs := [26]) (by kernel_rfl) (by simp) (AllReadyH.cons (o := { dst := none, op := Op.store 163 (Operand.tmp 16) (Operand.tmp 67), type := 0, pos := _, after := _, guard := none }) rfl (fun KK hK => ?_) AllReadyH.nil)
            refine Eq.mpr (if_pos (by rfl)) ?_
            refine wp_store_row 163 (.tmp 16) (.tmp 67) rfl _ #[.int .i32 (txI I lev i j 0), .int .i32 (txI I lev i j 1), .int .i32 (txI I lev i j 2), .int .i32 (txI I lev i j 3), .int .i32 (txI I lev (i + 1) j 0), .int .i32 (txI I lev (i + 1) j 1), .int .i32 (txI I lev (i + 1) j 2), .int .i32 (txI I lev (i + 1) j 3), .int .i32 (txI I lev i (j + 1) 0), .int .i32 (txI I lev i (j + 1) 1), .int .i32 (txI I lev i (j + 1) 2), .int .i32 (txI I lev i (j + 1) 3), .int .i32 (txI I lev (i + 1) (j + 1) 0), .int .i32 (txI I lev (i + 1) (j + 1) 1), .int .i32 (txI I lev (i + 1) (j + 1) 2), .int .i32 (txI I lev (i + 1) (j + 1) 3)] rfl rfl 163 _ (unhide RB) size16 rfl (by simp [Value.oneCell']) ?_
            refine hK.out _ _ (ext_row HS (unhide RL)) (fun _ => ?_)
            clear hK KK
            try simp only [Act.put, List.setIfInBounds_toArray, List.set_cons_zero, List.set_cons_succ]
            refine wpAnyH_done (by kernel_rfl) ?_ _
            refine NoPanic.normal ?_
            go_wp2
            go_meet
            exact ⟨_, rfl, (unhide RB).row, ext_row HS (unhide RL)⟩
        · refine Eq.mpr (if_pos (by rfl)) ?_
          go_simp
          refine hK.out _ _ (HS.alloc _) (fun _ => ?_)
          clear hK KK
          have RB := hide (Blk.new ws (six4 fun _ => 0) 163)
          have RL := hide (Below.size HS)
          have HS2 := HS.alloc (.cells (six4 fun _ => 0) 163)
          clear HS
          have HS := HS2
          clear HS2
          skip
          try simp only [Act.put, List.setIfInBounds_toArray, List.set_cons_zero, List.set_cons_succ]
          refine wpAnyH_ready (rs := [16]) (by kernel_rfl) (by simp) (AllReadyH.cons (o := { dst := some 59, op := Op.call { callee := Callee.value (Operand.func 172), args := #[Operand.tmp 54, Operand.tmp 55, Operand.tmp 56, Operand.tmp 58], argTypes := #[112, 156, 3, 3] }, type := 28, pos := _, after := #[{ on := 11, ground := Ground.data }, { on := 12, ground := Ground.data }, { on := 13, ground := Ground.data }, { on := 15, ground := Ground.data }, { on := 10, ground := Ground.chain }], guard := none }) rfl (fun KK hK => ?_) AllReadyH.nil)
          go_simp
          refine (unhide HC4 _ _ _ HS).mono ?_
          rintro e ws ⟨rfl, hxs⟩
          have HS2 := HS.trans hxs
          have RB := hide ((unhide RB).ext hxs)
          clear hxs HS
          have HS := HS2
          clear HS2
          refine hK.out _ _ HS (fun _ => ?_)
          clear hK KK
          try simp only [Act.put, List.setIfInBounds_toArray, List.set_cons_zero, List.set_cons_succ]
          refine wpAnyH_ready (rs := [23]) (by kernel_rfl) (by simp) (AllReadyH.cons (o := { dst := some 66, op := Op.call { callee := Callee.value (Operand.func 172), args := #[Operand.tmp 60, Operand.tmp 61, Operand.tmp 63, Operand.tmp 65], argTypes := #[112, 156, 3, 3] }, type := 28, pos := _, after := #[{ on := 17, ground := Ground.data }, { on := 18, ground := Ground.data }, { on := 20, ground := Ground.data }, { on := 22, ground := Ground.data }, { on := 16, ground := Ground.chain }], guard := none }) rfl (fun KK hK => ?_) AllReadyH.nil)
          go_simp
          refine (unhide HC4 _ _ _ HS).mono ?_
          rintro e ws ⟨rfl, hxs⟩
          have HS2 := HS.trans hxs
          have RB := hide ((unhide RB).ext hxs)
          clear hxs HS
          have HS := HS2
          clear HS2
          refine hK.out _ _ HS (fun _ => ?_)
          clear hK KK
          try simp only [Act.put, List.setIfInBounds_toArray, List.set_cons_zero, List.set_cons_succ]
          refine wpAnyH_take (i := 24) (oi := { dst := some 67, op := Op.build 163 #[(0, Operand.tmp 47), (1, Operand.tmp 53), (2, Operand.tmp 59), (3, Operand.tmp 66)], type := 163, pos := _, after := #[{ on := 4, ground := Ground.data }, { on := 10, ground := Ground.data }, { on := 16, ground := Ground.data }, { on := 23, ground := Ground.data }], guard := none }) (v := .agg #[.int .i32 (txI I lev i j 0), .int .i32 (txI I lev i j 1), .int .i32 (txI I lev i j 2), .int .i32 (txI I lev i j 3), .int .i32 (txI I lev (i + 1) j 0), .int .i32 (txI I lev (i + 1) j 1), .int .i32 (txI I lev (i + 1) j 2), .int .i32 (txI I lev (i + 1) j 3), .int .i32 (txI I lev i (j + 1) 0), .int .i32 (txI I lev i (j + 1) 1), .int .i32 (txI I lev i (j + 1) 2), .int .i32 (txI I lev i (j + 1) 3), .int .i32 (txI I lev (i + 1) (j + 1) 0), .int .i32 (txI I lev (i + 1) (j + 1) 1), .int .i32 (txI I lev (i + 1) (j + 1) 2), .int .i32 (txI I lev (i + 1) (j + 1) 3)]) rfl (by kernel_rfl) (by kernel_rfl) (by kernel_rfl) (fun _ _ _ h => h) (Or.inl ⟨by rfl, fun wx _ => by go_simp⟩) HS ?_
          simp only [Act.put, List.setIfInBounds_toArray, List.set_cons_zero, List.set_cons_succ]
          refine wpAnyH_ready (rs := [26]) (by kernel_rfl) (by simp) (AllReadyH.cons (o := { dst := none, op := Op.store 163 (Operand.tmp 16) (Operand.tmp 67), type := 0, pos := _, after := _, guard := none }) rfl (fun KK hK => ?_) AllReadyH.nil)
          refine Eq.mpr (if_pos (by rfl)) ?_
          refine wp_store_row 163 (.tmp 16) (.tmp 67) rfl _ #[.int .i32 (txI I lev i j 0), .int .i32 (txI I lev i j 1), .int .i32 (txI I lev i j 2), .int .i32 (txI I lev i j 3), .int .i32 (txI I lev (i + 1) j 0), .int .i32 (txI I lev (i + 1) j 1), .int .i32 (txI I lev (i + 1) j 2), .int .i32 (txI I lev (i + 1) j 3), .int .i32 (txI I lev i (j + 1) 0), .int .i32 (txI I lev i (j + 1) 1), .int .i32 (txI I lev i (j + 1) 2), .int .i32 (txI I lev i (j + 1) 3), .int .i32 (txI I lev (i + 1) (j + 1) 0), .int .i32 (txI I lev (i + 1) (j + 1) 1), .int .i32 (txI I lev (i + 1) (j + 1) 2), .int .i32 (txI I lev (i + 1) (j + 1) 3)] rfl rfl 163 _ (unhide RB) size16 rfl (by simp [Value.oneCell']) ?_
          refine hK.out _ _ (ext_row HS (unhide RL)) (fun _ => ?_)
          clear hK KK
          try simp only [Act.put, List.setIfInBounds_toArray, List.set_cons_zero, List.set_cons_succ]
          refine wpAnyH_done (by kernel_rfl) ?_ _
          refine NoPanic.normal ?_
          go_wp2
          go_meet
          exact ⟨_, rfl, (unhide RB).row, ext_row HS (unhide RL)⟩
      · refine Eq.mpr (if_pos (by rfl)) ?_
        go_simp
        refine hK.out _ _ (HS.alloc _) (fun _ => ?_)
        clear hK KK
        have RB := hide (Blk.new ws (six4 fun _ => 0) 163)
        have RL := hide (Below.size HS)
        have HS2 := HS.alloc (.cells (six4 fun _ => 0) 163)
        clear HS
        have HS := HS2
        clear HS2
        skip
        try simp only [Act.put, List.setIfInBounds_toArray, List.set_cons_zero, List.set_cons_succ]
        refine wpAnyH_ready (rs := [10]) (by kernel_rfl) (by simp) (AllReadyH.cons (o := { dst := some 53, op := Op.call { callee := Callee.value (Operand.func 172), args := #[Operand.tmp 48, Operand.tmp 49, Operand.tmp 51, Operand.tmp 52], argTypes := #[112, 156, 3, 3] }, type := 28, pos := _, after := #[{ on := 5, ground := Ground.data }, { on := 6, ground := Ground.data }, { on := 8, ground := Ground.data }, { on := 9, ground := Ground.data }, { on := 4, ground := Ground.chain }], guard := none }) rfl (fun KK hK => ?_) AllReadyH.nil)
        go_simp
        refine (unhide HC4 _ _ _ HS).mono ?_
        rintro e ws ⟨rfl, hxs⟩
        have HS2 := HS.trans hxs
        have RB := hide ((unhide RB).ext hxs)
        clear hxs HS
        have HS := HS2
        clear HS2
        refine hK.out _ _ HS (fun _ => ?_)
        clear hK KK
        try simp only [Act.put, List.setIfInBounds_toArray, List.set_cons_zero, List.set_cons_succ]
        refine wpAnyH_ready (rs := [16]) (by kernel_rfl) (by simp) (AllReadyH.cons (o := { dst := some 59, op := Op.call { callee := Callee.value (Operand.func 172), args := #[Operand.tmp 54, Operand.tmp 55, Operand.tmp 56, Operand.tmp 58], argTypes := #[112, 156, 3, 3] }, type := 28, pos := _, after := #[{ on := 11, ground := Ground.data }, { on := 12, ground := Ground.data }, { on := 13, ground := Ground.data }, { on := 15, ground := Ground.data }, { on := 10, ground := Ground.chain }], guard := none }) rfl (fun KK hK => ?_) AllReadyH.nil)
        go_simp
        refine (unhide HC4 _ _ _ HS).mono ?_
        rintro e ws ⟨rfl, hxs⟩
        have HS2 := HS.trans hxs
        have RB := hide ((unhide RB).ext hxs)
        clear hxs HS
        have HS := HS2
        clear HS2
        refine hK.out _ _ HS (fun _ => ?_)
        clear hK KK
        try simp only [Act.put, List.setIfInBounds_toArray, List.set_cons_zero, List.set_cons_succ]
        refine wpAnyH_ready (rs := [23]) (by kernel_rfl) (by simp) (AllReadyH.cons (o := { dst := some 66, op := Op.call { callee := Callee.value (Operand.func 172), args := #[Operand.tmp 60, Operand.tmp 61, Operand.tmp 63, Operand.tmp 65], argTypes := #[112, 156, 3, 3] }, type := 28, pos := _, after := #[{ on := 17, ground := Ground.data }, { on := 18, ground := Ground.data }, { on := 20, ground := Ground.data }, { on := 22, ground := Ground.data }, { on := 16, ground := Ground.chain }], guard := none }) rfl (fun KK hK => ?_) AllReadyH.nil)
        go_simp
        refine (unhide HC4 _ _ _ HS).mono ?_
        rintro e ws ⟨rfl, hxs⟩
        have HS2 := HS.trans hxs
        have RB := hide ((unhide RB).ext hxs)
        clear hxs HS
        have HS := HS2
        clear HS2
        refine hK.out _ _ HS (fun _ => ?_)
        clear hK KK
        try simp only [Act.put, List.setIfInBounds_toArray, List.set_cons_zero, List.set_cons_succ]
        refine wpAnyH_take (i := 24) (oi := { dst := some 67, op := Op.build 163 #[(0, Operand.tmp 47), (1, Operand.tmp 53), (2, Operand.tmp 59), (3, Operand.tmp 66)], type := 163, pos := _, after := #[{ on := 4, ground := Ground.data }, { on := 10, ground := Ground.data }, { on := 16, ground := Ground.data }, { on := 23, ground := Ground.data }], guard := none }) (v := .agg #[.int .i32 (txI I lev i j 0), .int .i32 (txI I lev i j 1), .int .i32 (txI I lev i j 2), .int .i32 (txI I lev i j 3), .int .i32 (txI I lev (i + 1) j 0), .int .i32 (txI I lev (i + 1) j 1), .int .i32 (txI I lev (i + 1) j 2), .int .i32 (txI I lev (i + 1) j 3), .int .i32 (txI I lev i (j + 1) 0), .int .i32 (txI I lev i (j + 1) 1), .int .i32 (txI I lev i (j + 1) 2), .int .i32 (txI I lev i (j + 1) 3), .int .i32 (txI I lev (i + 1) (j + 1) 0), .int .i32 (txI I lev (i + 1) (j + 1) 1), .int .i32 (txI I lev (i + 1) (j + 1) 2), .int .i32 (txI I lev (i + 1) (j + 1) 3)]) rfl (by kernel_rfl) (by kernel_rfl) (by kernel_rfl) (fun _ _ _ h => h) (Or.inl ⟨by rfl, fun wx _ => by go_simp⟩) HS ?_
        simp only [Act.put, List.setIfInBounds_toArray, List.set_cons_zero, List.set_cons_succ]
        refine wpAnyH_ready (rs := [26]) (by kernel_rfl) (by simp) (AllReadyH.cons (o := { dst := none, op := Op.store 163 (Operand.tmp 16) (Operand.tmp 67), type := 0, pos := _, after := _, guard := none }) rfl (fun KK hK => ?_) AllReadyH.nil)
        refine Eq.mpr (if_pos (by rfl)) ?_
        refine wp_store_row 163 (.tmp 16) (.tmp 67) rfl _ #[.int .i32 (txI I lev i j 0), .int .i32 (txI I lev i j 1), .int .i32 (txI I lev i j 2), .int .i32 (txI I lev i j 3), .int .i32 (txI I lev (i + 1) j 0), .int .i32 (txI I lev (i + 1) j 1), .int .i32 (txI I lev (i + 1) j 2), .int .i32 (txI I lev (i + 1) j 3), .int .i32 (txI I lev i (j + 1) 0), .int .i32 (txI I lev i (j + 1) 1), .int .i32 (txI I lev i (j + 1) 2), .int .i32 (txI I lev i (j + 1) 3), .int .i32 (txI I lev (i + 1) (j + 1) 0), .int .i32 (txI I lev (i + 1) (j + 1) 1), .int .i32 (txI I lev (i + 1) (j + 1) 2), .int .i32 (txI I lev (i + 1) (j + 1) 3)] rfl rfl 163 _ (unhide RB) size16 rfl (by simp [Value.oneCell']) ?_
        refine hK.out _ _ (ext_row HS (unhide RL)) (fun _ => ?_)
        clear hK KK
        try simp only [Act.put, List.setIfInBounds_toArray, List.set_cons_zero, List.set_cons_succ]
        refine wpAnyH_done (by kernel_rfl) ?_ _
        refine NoPanic.normal ?_
        go_wp2
        go_meet
        exact ⟨_, rfl, (unhide RB).row, ext_row HS (unhide RL)⟩
    · refine Eq.mpr (if_pos (by rfl)) ?_
      go_simp
      refine hK.out _ _ (HS.alloc _) (fun _ => ?_)
      clear hK KK
      have RB := hide (Blk.new w4.drew (six4 fun _ => 0) 163)
      have RL := hide (Below.size HS)
      have HS2 := HS.alloc (.cells (six4 fun _ => 0) 163)
      clear HS
      have HS := HS2
      clear HS2
      skip
      try simp only [Act.put, List.setIfInBounds_toArray, List.set_cons_zero, List.set_cons_succ]
      refine wpAnyH_ready (rs := [4]) (by kernel_rfl) (by simp) (AllReadyH.cons (o := { dst := some 47, op := Op.call { callee := Callee.value (Operand.func 172), args := #[Operand.tmp 43, Operand.tmp 44, Operand.tmp 45, Operand.tmp 46], argTypes := #[112, 156, 3, 3] }, type := 28, pos := _, after := #[{ on := 0, ground := Ground.data }, { on := 1, ground := Ground.data }, { on := 2, ground := Ground.data }, { on := 3, ground := Ground.data }], guard := none }) rfl (fun KK hK => ?_) AllReadyH.nil)
      go_simp
      refine (unhide HC4 _ _ _ HS).mono ?_
      rintro e ws ⟨rfl, hxs⟩
      have HS2 := HS.trans hxs
      have RB := hide ((unhide RB).ext hxs)
      clear hxs HS
      have HS := HS2
      clear HS2
      refine hK.out _ _ HS (fun _ => ?_)
      clear hK KK
      try simp only [Act.put, List.setIfInBounds_toArray, List.set_cons_zero, List.set_cons_succ]
      refine wpAnyH_ready (rs := [10]) (by kernel_rfl) (by simp) (AllReadyH.cons (o := { dst := some 53, op := Op.call { callee := Callee.value (Operand.func 172), args := #[Operand.tmp 48, Operand.tmp 49, Operand.tmp 51, Operand.tmp 52], argTypes := #[112, 156, 3, 3] }, type := 28, pos := _, after := #[{ on := 5, ground := Ground.data }, { on := 6, ground := Ground.data }, { on := 8, ground := Ground.data }, { on := 9, ground := Ground.data }, { on := 4, ground := Ground.chain }], guard := none }) rfl (fun KK hK => ?_) AllReadyH.nil)
      go_simp
      refine (unhide HC4 _ _ _ HS).mono ?_
      rintro e ws ⟨rfl, hxs⟩
      have HS2 := HS.trans hxs
      have RB := hide ((unhide RB).ext hxs)
      clear hxs HS
      have HS := HS2
      clear HS2
      refine hK.out _ _ HS (fun _ => ?_)
      clear hK KK
      try simp only [Act.put, List.setIfInBounds_toArray, List.set_cons_zero, List.set_cons_succ]
      refine wpAnyH_ready (rs := [16]) (by kernel_rfl) (by simp) (AllReadyH.cons (o := { dst := some 59, op := Op.call { callee := Callee.value (Operand.func 172), args := #[Operand.tmp 54, Operand.tmp 55, Operand.tmp 56, Operand.tmp 58], argTypes := #[112, 156, 3, 3] }, type := 28, pos := _, after := #[{ on := 11, ground := Ground.data }, { on := 12, ground := Ground.data }, { on := 13, ground := Ground.data }, { on := 15, ground := Ground.data }, { on := 10, ground := Ground.chain }], guard := none }) rfl (fun KK hK => ?_) AllReadyH.nil)
      go_simp
      refine (unhide HC4 _ _ _ HS).mono ?_
      rintro e ws ⟨rfl, hxs⟩
      have HS2 := HS.trans hxs
      have RB := hide ((unhide RB).ext hxs)
      clear hxs HS
      have HS := HS2
      clear HS2
      refine hK.out _ _ HS (fun _ => ?_)
      clear hK KK
      try simp only [Act.put, List.setIfInBounds_toArray, List.set_cons_zero, List.set_cons_succ]
      refine wpAnyH_ready (rs := [23]) (by kernel_rfl) (by simp) (AllReadyH.cons (o := { dst := some 66, op := Op.call { callee := Callee.value (Operand.func 172), args := #[Operand.tmp 60, Operand.tmp 61, Operand.tmp 63, Operand.tmp 65], argTypes := #[112, 156, 3, 3] }, type := 28, pos := _, after := #[{ on := 17, ground := Ground.data }, { on := 18, ground := Ground.data }, { on := 20, ground := Ground.data }, { on := 22, ground := Ground.data }, { on := 16, ground := Ground.chain }], guard := none }) rfl (fun KK hK => ?_) AllReadyH.nil)
      go_simp
      refine (unhide HC4 _ _ _ HS).mono ?_
      rintro e ws ⟨rfl, hxs⟩
      have HS2 := HS.trans hxs
      have RB := hide ((unhide RB).ext hxs)
      clear hxs HS
      have HS := HS2
      clear HS2
      refine hK.out _ _ HS (fun _ => ?_)
      clear hK KK
      try simp only [Act.put, List.setIfInBounds_toArray, List.set_cons_zero, List.set_cons_succ]
      refine wpAnyH_take (i := 24) (oi := { dst := some 67, op := Op.build 163 #[(0, Operand.tmp 47), (1, Operand.tmp 53), (2, Operand.tmp 59), (3, Operand.tmp 66)], type := 163, pos := _, after := #[{ on := 4, ground := Ground.data }, { on := 10, ground := Ground.data }, { on := 16, ground := Ground.data }, { on := 23, ground := Ground.data }], guard := none }) (v := .agg #[.int .i32 (txI I lev i j 0), .int .i32 (txI I lev i j 1), .int .i32 (txI I lev i j 2), .int .i32 (txI I lev i j 3), .int .i32 (txI I lev (i + 1) j 0), .int .i32 (txI I lev (i + 1) j 1), .int .i32 (txI I lev (i + 1) j 2), .int .i32 (txI I lev (i + 1) j 3), .int .i32 (txI I lev i (j + 1) 0), .int .i32 (txI I lev i (j + 1) 1), .int .i32 (txI I lev i (j + 1) 2), .int .i32 (txI I lev i (j + 1) 3), .int .i32 (txI I lev (i + 1) (j + 1) 0), .int .i32 (txI I lev (i + 1) (j + 1) 1), .int .i32 (txI I lev (i + 1) (j + 1) 2), .int .i32 (txI I lev (i + 1) (j + 1) 3)]) rfl (by kernel_rfl) (by kernel_rfl) (by kernel_rfl) (fun _ _ _ h => h) (Or.inl ⟨by rfl, fun wx _ => by go_simp⟩) HS ?_
      simp only [Act.put, List.setIfInBounds_toArray, List.set_cons_zero, List.set_cons_succ]
      refine wpAnyH_ready (rs := [26]) (by kernel_rfl) (by simp) (AllReadyH.cons (o := { dst := none, op := Op.store 163 (Operand.tmp 16) (Operand.tmp 67), type := 0, pos := _, after := _, guard := none }) rfl (fun KK hK => ?_) AllReadyH.nil)
      refine Eq.mpr (if_pos (by rfl)) ?_
      refine wp_store_row 163 (.tmp 16) (.tmp 67) rfl _ #[.int .i32 (txI I lev i j 0), .int .i32 (txI I lev i j 1), .int .i32 (txI I lev i j 2), .int .i32 (txI I lev i j 3), .int .i32 (txI I lev (i + 1) j 0), .int .i32 (txI I lev (i + 1) j 1), .int .i32 (txI I lev (i + 1) j 2), .int .i32 (txI I lev (i + 1) j 3), .int .i32 (txI I lev i (j + 1) 0), .int .i32 (txI I lev i (j + 1) 1), .int .i32 (txI I lev i (j + 1) 2), .int .i32 (txI I lev i (j + 1) 3), .int .i32 (txI I lev (i + 1) (j + 1) 0), .int .i32 (txI I lev (i + 1) (j + 1) 1), .int .i32 (txI I lev (i + 1) (j + 1) 2), .int .i32 (txI I lev (i + 1) (j + 1) 3)] rfl rfl 163 _ (unhide RB) size16 rfl (by simp [Value.oneCell']) ?_
      refine hK.out _ _ (ext_row HS (unhide RL)) (fun _ => ?_)
      clear hK KK
      try simp only [Act.put, List.setIfInBounds_toArray, List.set_cons_zero, List.set_cons_succ]
      refine wpAnyH_done (by kernel_rfl) ?_ _
      refine NoPanic.normal ?_
      go_wp2
      go_meet
      exact ⟨_, rfl, (unhide RB).row, ext_row HS (unhide RL)⟩
  case rest =>
  obtain ⟨r, rfl, hV, hx5⟩ := hcut
  rename_i wc
  obtain ⟨⟨hE1, hE2, hE3, hE4⟩, hTB, hN⟩ := unhide H44
  have HA : Hid (∀ n, n < 16 → 0 ≤ (A16 (txI I lev i j) (txI I lev (i + 1) j) (txI I lev i (j + 1)) (txI I lev (i + 1) (j + 1))) n ∧ (A16 (txI I lev i j) (txI I lev (i + 1) j) (txI I lev i (j + 1)) (txI I lev (i + 1) (j + 1))) n ≤ 65536) := fun n hn => A16_bd (hTB _ _) (hTB _ _) (hTB _ _) (hTB _ _) n hn
  have HN := hide hN
  have HWX := hide (And.intro (hE3.ext hx5) (hE1.trans hx5))
  clear hE1 hE2 hE3 hE4 hTB hN H44 H4 HC4 hx5
  generalize (A16 (txI I lev i j) (txI I lev (i + 1) j) (txI I lev i (j + 1)) (txI I lev (i + 1) (j + 1))) = A at *
  have HFG := hide (And.intro hfb hgb)
  obtain ⟨y0, y1, y2, y3, y4, y5, y6, y7, y8, y9, y10, y11, y12, y13, y14, y15⟩ := hV.c16
  clear hV hfb hgb
  go_wp2_with fail
  refine (blend_any A f g _ (unhide HA) (unhide HFG).1 (unhide HFG).2).mono ?_
  rintro e w6 ⟨rfl, hx6⟩
  have hR := (unhide HWX).1.ext hx6
  have H9 := hide (And.intro (hR.put4 (.int .i32 (linV A f g 0)) (.int .i32 (linV A f g 1)) (.int .i32 (linV A f g 2)) (.int .i32 (linV A f g 3))) (ext_put4 (b := w.heap.size + 1) (a0 := .int .i32 (linV A f g 0)) (a1 := .int .i32 (linV A f g 1)) (a2 := .int .i32 (linV A f g 2)) (a3 := .int .i32 (linV A f g 3)) ((unhide HWX).2.trans hx6) (by omega)))
  obtain ⟨r0, r1, r2, r3⟩ := hR.four
  obtain ⟨f0, f1, f2, f3, _⟩ := hR.frees
  clear hR hx6 HWX y0 y1 y2 y3 y4 y5 y6 y7 y8 y9 y10 y11 y12 y13 y14 y15
  go_wp2
  obtain ⟨t0, t1, t2, t3⟩ := (unhide H9).1.four
  refine bodyPost_ret (v := .tuple #[.agg #[.int .i32 ((linV A f g) 0), .int .i32 ((linV A f g) 1), .int .i32 ((linV A f g) 2), .int .i32 ((linV A f g) 3)], .int .i64 0]) (by simp [results, Tryz.results122, go_sem, t0, t1, t2, t3]) rfl ⟨?_, (unhide H9).2⟩
  rw [unhide HN 0 (by omega), unhide HN 1 (by omega), unhide HN 2 (by omega), unhide HN 3 (by omega)]
end
end Go.Proofs.YtglfhmlcmffoaaaGreat
