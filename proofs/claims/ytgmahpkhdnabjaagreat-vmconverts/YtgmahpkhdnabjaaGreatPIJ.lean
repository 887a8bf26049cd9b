/- Several texts in one. -/
import Derived.Test.YtgmahpkhdnabjaaGreatPGJ
import Derived.Test.YtgmahpkhdnabjaaGreatJOJ
import Derived.Deep.QuietTactic
import Derived.Deep.RegionHeld3
import Derived.Deep.DeepCutAuto
/-
  Pixels: the walks of Pack, Unpack and Row. What the dump lacks is left out.
-/
namespace Go.Proofs.YtgmahpkhdnabjaaGreat
open Go.RowKit
set_option maxRecDepth 10000

theorem vrow_one (c : Nat → Int) (w : World) (t : TypeId) : VRow (w.alloc (.cells #[.int .i32 (c 0), .int .i32 (c 1), .int .i32 (c 2), .int .i32 (c 3)] t)) (.slice (some ⟨w.heap.size, 0, none⟩) 1 1) [c] := by
  refine .inr ⟨by simp, w.heap.size, 0, 1, rfl, fun i j hi hj => ?_⟩
  obtain rfl : i = 0 := by simpa using hi
  have := (Blk.at (w := w) (cs := #[.int .i32 (c 0), .int .i32 (c 1), .int .i32 (c 2), .int .i32 (c 3)]) (t := t) rfl).vec j hj
  simpa using this

theorem unpack_bad (f : Int) (v : Value) (w : World) (h : f < 1 ∨ 7 < f) :
    Calls Tryz.prog 199 #[.int .i64 f, v] w fun e w' => e = .returned (.tuple #[.agg #[.int .i32 (nul 0), .int .i32 (nul 1), .int .i32 (nul 2), .int .i32 (nul 3)], .int .i64 2]) ∧ Ext w w' := by
  go_enter Tryz.func199, Tryz.ntmps199
  go_wp2_with fail
  refine (find_bad f _ h).mono ?_
  rintro e w1 ⟨rfl, hx⟩
  have B := hide (Blk.ext (Blk.at (w := w) (b := w.heap.size) rfl) hx)
  have X := hide (((Ext.refl w).alloc _).trans hx)
  clear hx
  go_wp2_with (first
    | refine wpList_store_last rfl 182 (.tmp 6) (.tmp 11) rfl _ rfl (layF 0) rfl 19 size60 (layF_size _) rfl (layF_one _) ?_
    | refine wpList_store_row rfl 28 (.tmp 4) (.tmp 15) rfl w.heap.size #[.int .i32 (nul 0), .int .i32 (nul 1), .int .i32 (nul 2), .int .i32 (nul 3)] rfl rfl 28 _ ((unhide B).alloc _) size35 rfl (vec_one _) ?_)
  refine bodyPost_ret (v := .tuple #[.agg #[.int .i32 (nul 0), .int .i32 (nul 1), .int .i32 (nul 2), .int .i32 (nul 3)], .int .i64 2]) (results_cell_tmp Tryz.results199 _ _ w.heap.size 28 _ _ rfl _ rfl (((unhide B).alloc _).row) Tryz.underlying28 rfl size35) rfl ⟨rfl, ?_⟩
  exact ext_row ((unhide X).alloc _) (Nat.le_refl _)

theorem unpack_off (f : Nat) (ao : Option Addr) (n cap : Nat) (w : World) (h1 : 1 ≤ f) (h7 : f ≤ 7) (hn : n ≠ siz f) :
    Calls Tryz.prog 199 #[.int .i64 (f : Int), .slice ao n cap] w fun e w' => e = .returned (.tuple #[.agg #[.int .i32 (nul 0), .int .i32 (nul 1), .int .i32 (nul 2), .int .i32 (nul 3)], .int .i64 7]) ∧ Ext w w' := by
  have hd : ((n : Int) != (siz f : Int)) = true := by simp; omega
  go_enter Tryz.func199, Tryz.ntmps199
  go_wp2_with fail
  refine (find_any f _ h1 h7).mono ?_
  rintro e w1 ⟨rfl, hx⟩
  have B := hide (Blk.ext (Blk.at (w := w) (b := w.heap.size) rfl) hx)
  have X := hide (((Ext.refl w).alloc _).trans hx)
  have c1 : (w1.alloc (.cells (layF f) 182)).cell? ⟨w1.heap.size, 1, none⟩ = some (.int .i64 (siz f : Int)) := (Blk.at rfl).cell rfl
  clear hx
  go_wp2_with (first
    | refine wpList_store_last rfl 182 (.tmp 6) (.tmp 11) rfl _ rfl (layF f) rfl 19 size60 (layF_size _) rfl (layF_one _) ?_
    | refine wpList_store_row rfl 28 (.tmp 4) (.tmp 22) rfl w.heap.size #[.int .i32 (nul 0), .int .i32 (nul 1), .int .i32 (nul 2), .int .i32 (nul 3)] rfl rfl 28 _ ((unhide B).alloc _) size35 rfl (vec_one _) ?_)
  refine bodyPost_ret (v := .tuple #[.agg #[.int .i32 (nul 0), .int .i32 (nul 1), .int .i32 (nul 2), .int .i32 (nul 3)], .int .i64 7]) (results_cell_tmp Tryz.results199 _ _ w.heap.size 28 _ _ rfl _ rfl (((unhide B).alloc _).row) Tryz.underlying28 rfl size35) rfl ⟨rfl, ?_⟩
  exact ext_row ((unhide X).alloc _) (Nat.le_refl _)

theorem unpack_any (f : Nat) (ao : Option Addr) (cap : Nat) (xs : List Int) (w : World) (h1 : 1 ≤ f) (h7 : f ≤ 7) (hr : Row .u8 w (.slice ao xs.length cap) xs) (hB : Byt xs) (hl : xs.length = siz f) :
    Calls Tryz.prog 199 #[.int .i64 (f : Int), .slice ao xs.length cap] w fun e w' => e = .returned (.tuple #[.agg #[.int .i32 (colN f (numOf xs) 0), .int .i32 (colN f (numOf xs) 1), .int .i32 (colN f (numOf xs) 2), .int .i32 (colN f (numOf xs) 3)], .int .i64 0]) ∧ Ext w w' := by
  have hd : ((xs.length : Int) != (siz f : Int)) = false := by simp; omega
  have HL := hide hl
  clear hl
  go_enter Tryz.func199, Tryz.ntmps199
  go_wp2_with fail
  refine (find_any f _ h1 h7).mono ?_
  rintro e w1 ⟨rfl, hx⟩
  have B := hide (Blk.ext (Blk.at (w := w) (b := w.heap.size) rfl) hx)
  have X := hide (((Ext.refl w).alloc _).trans hx)
  have HR := hide (hr.ext (((Ext.refl w).alloc _).trans hx))
  have c1 : (w1.alloc (.cells (layF f) 182)).cell? ⟨w1.heap.size, 1, none⟩ = some (.int .i64 (siz f : Int)) := (Blk.at rfl).cell rfl
  clear hx hr
  go_wp2_with (first
    | refine wpList_store_last rfl 182 (.tmp 6) (.tmp 11) rfl _ rfl (layF f) rfl 19 size60 (layF_size _) rfl (layF_one _) ?_
    | refine wpList_load_row rfl 182 (.tmp 6) rfl w1.heap.size rfl 182 (layF f) (0, 0) _ (heap_alloc_last w1 _) Tryz.underlying182 rfl size60 ?_
    | fail)
  refine (colour_any f ao cap xs _ h1 h7 ((unhide HR).ext ((Ext.refl w1).alloc _)) hB (unhide HL)).mono ?_
  rintro e w2 ⟨rfl, hx⟩
  have B2 := hide (((unhide B).alloc _).ext hx)
  have X2 := hide (((unhide X).alloc _).trans hx)
  clear hx B X c1
  go_wp2_with (refine wpList_store_row rfl 28 (.tmp 4) (.tmp 25) rfl w.heap.size #[.int .i32 (colN f (numOf xs) 0), .int .i32 (colN f (numOf xs) 1), .int .i32 (colN f (numOf xs) 2), .int .i32 (colN f (numOf xs) 3)] rfl rfl 28 _ (unhide B2) size35 rfl (vec_one _) ?_)
  refine bodyPost_ret (v := .tuple #[.agg #[.int .i32 (colN f (numOf xs) 0), .int .i32 (colN f (numOf xs) 1), .int .i32 (colN f (numOf xs) 2), .int .i32 (colN f (numOf xs) 3)], .int .i64 0]) (results_cell_tmp Tryz.results199 _ _ w.heap.size 28 _ _ rfl _ rfl (unhide B2).row Tryz.underlying28 rfl size35) rfl ⟨rfl, ?_⟩
  exact ext_row (unhide X2) (Nat.le_refl _)
end Go.Proofs.YtgmahpkhdnabjaaGreat

/-
  Colours: the walk of colour.
-/
namespace Go.Proofs.YtgmahpkhdnabjaaGreat
open Go.RowKit
set_option linter.unusedVariables false
set_option linter.unusedSimpArgs false

/-- A part of a row. -/
theorem Row.part {w : World} {ao : Option Addr} {n cap : Nat} {xs : List Int} (h : Row .u8 w (.slice ao n cap) xs) (p m : Nat) (hm : 0 < m) (hp : p + m ≤ xs.length) :
    ∃ b off, ao = some ⟨b, off, none⟩ ∧ Row .u8 w (.slice (some ⟨b, off + p, none⟩) m (cap - p)) ((xs.drop p).take m) := by
  rcases h with ⟨rfl, _⟩ | ⟨hne, b, off, c, hv, hl, hmx, hc⟩
  · simp at hp
    omega
  · cases hv
    have hlen : ((xs.drop p).take m).length = m := by simp; omega
    refine ⟨b, off, rfl, .inr ⟨?_, b, off + p, cap - p, by rw [hlen], by rw [hlen]; omega, by omega, fun i hi => ?_⟩⟩
    · intro e
      rw [e] at hlen
      simp at hlen
      omega
    · rw [hlen] at hi
      have := hc (p + i) (by omega)
      rw [← Nat.add_assoc] at this
      rw [this]
      congr 2
      simp [hi]

set_option maxHeartbeats 1000000 in
theorem Blk.vecs {w : World} {b : Nat} {a : Nat → Int} {t : TypeId} (h : Blk w b #[.int .i32 (a 0), .int .i32 (a 1), .int .i32 (a 2), .int .i32 (a 3)] t) : w.cell? ⟨b, 0, none⟩ = some (.int .i32 (a 0)) ∧ w.cell? ⟨b, 1, none⟩ = some (.int .i32 (a 1)) ∧ w.cell? ⟨b, 2, none⟩ = some (.int .i32 (a 2)) ∧ w.cell? ⟨b, 3, none⟩ = some (.int .i32 (a 3)) := ⟨h.cell rfl, h.cell rfl, h.cell rfl, h.cell rfl⟩
theorem Blk.put4 {w : World} {b : Nat} {o0 o1 o2 o3 : Value} {t : TypeId} (h : Blk w b #[o0, o1, o2, o3] t) (a0 a1 a2 a3 : Value) :
    Blk ((((w.setCell ⟨b, 0, none⟩ a0).setCell ⟨b, 1, none⟩ a1).setCell ⟨b, 2, none⟩ a2).setCell ⟨b, 3, none⟩ a3) b #[a0, a1, a2, a3] t := by
  have h1 := (((h.set 0 a0).set 1 a1).set 2 a2).set 3 a3
  simpa using h1
theorem grown_put4 (w : World) (b : Nat) (a0 a1 a2 a3 : Value) : w.grownBy ((((w.setCell ⟨b, 0, none⟩ a0).setCell ⟨b, 1, none⟩ a1).setCell ⟨b, 2, none⟩ a2).setCell ⟨b, 3, none⟩ a3) (some b) :=
  (((grownBy_set _ _ _ _).trans (grownBy_set _ _ _ _)).trans (grownBy_set _ _ _ _)).trans (grownBy_set _ _ _ _)
theorem ext_put4 {w w1 : World} {b : Nat} {a0 a1 a2 a3 : Value} (h : Ext w w1) (hb : w.heap.size ≤ b) : Ext w ((((w1.setCell ⟨b, 0, none⟩ a0).setCell ⟨b, 1, none⟩ a1).setCell ⟨b, 2, none⟩ a2).setCell ⟨b, 3, none⟩ a3) :=
  below_grown h (grown_put4 _ _ _ _ _ _) h.size hb

set_option maxRecDepth 10000 in
set_option maxHeartbeats 4000000 in
theorem scol_any {w : World} {I : Img} {W H : Int} {bs : List Int} (hl : LvOk I (W, H, bs)) (hb : Byt bs) (ao : Option Addr) (n cap : Nat) (bo : Option Addr) (bcap : Nat) (hr : Row .u8 w (.slice bo bs.length bcap) bs) (i j : Int) :
    Calls Tryz.prog 177 #[.agg #[.int .i64 I.f, .slice ao n cap, .int .i64 I.ws, .int .i64 I.wt, .int .i64 I.mn, .int .i64 I.mg], .agg #[.int .i64 W, .int .i64 H, .slice bo bs.length bcap], .int .i64 i, .int .i64 j] w fun e w' => e = .returned (.agg #[.int .i32 ((txI I (W, H, bs) i j) 0), .int .i32 ((txI I (W, H, bs) i j) 1), .int .i32 ((txI I (W, H, bs) i j) 2), .int .i32 ((txI I (W, H, bs) i j) 3)]) ∧ Ext w w' := by
  obtain ⟨z1, z2, z3, z4, z5⟩ := hl.siz
  have hW : 1 ≤ W ∧ W ≤ 64 := hl.w
  have hH : 1 ≤ H ∧ H ≤ 64 := hl.h
  have hn : (bs.length : Int) = W * H * sizI I.f := hl.n
  have hy := wrapI_bd (m := I.wt) (i := j) hH.1 hH.2
  have hx := wrapI_bd (m := I.ws) (i := i) hW.1 hW.2
  have hP := plN_eq (ws := I.ws) (wt := I.wt) (i := i) (j := j) hW hH
  have hPl := plN_lt (ws := I.ws) (wt := I.wt) (i := i) (j := j) hW hH
  have HT : Hid (txI I (W, H, bs) i j = colN I.f.toNat (numOf (cellL (siz I.f.toNat) bs (plN W H I.ws I.wt i j)))) := by
    show _ = _
    unfold txI
    rw [z1]
  have hs4 : 1 ≤ siz I.f.toNat ∧ siz I.f.toNat ≤ 4 := by rcases siz_three z2 z3 with h | h | h <;> omega
  have HS := hide (show siz I.f.toNat = siz I.f.toNat from rfl)
  generalize plN W H I.ws I.wt i j = P at *
  rw [z4] at hn
  obtain ⟨s, hs⟩ : ∃ s, s = siz I.f.toNat := ⟨_, rfl⟩
  rw [← hs] at hs4 hn HT z4
  have hPs : (P + 1) * s ≤ bs.length := by
    have h1 : ((P : Int) + 1) * (s : Int) ≤ W * H * (s : Int) := Int.mul_le_mul_of_nonneg_right hPl (by omega)
    rw [← hn] at h1
    have h2 : (((P + 1) * s : Nat) : Int) = ((P : Int) + 1) * (s : Int) := by simp
    omega
  have hPs2 : (P + 1) * s = P * s + s := Nat.succ_mul _ _
  obtain ⟨_, _, _, _, hlc, hcm⟩ := hr.shape
  have hbc : bs.length ≤ bcap ∧ bcap ≤ maxLen := by
    obtain ⟨_, _, e9, _, h8, h9⟩ := hr.shape
    cases e9
    exact ⟨h8, h9⟩
  have hbm : bs.length ≤ 16384 := by
    have h1 := mul_side hW hH (s := (s : Int)) (by omega)
    omega
  obtain ⟨b, off, rfl, hpart⟩ := hr.part (P * s) s (by omega) (by omega)
  have hlen : (cellL s bs P).length = s := cellL_len hPs
  have HU : Hid (∀ wx, Ext w wx → Calls Tryz.prog 199 #[.int .i64 I.f, .slice (some ⟨b, off + P * s, none⟩) s (bcap - P * s)] wx fun e w' => e = .returned (.tuple #[.agg #[.int .i32 ((txI I (W, H, bs) i j) 0), .int .i32 ((txI I (W, H, bs) i j) 1), .int .i32 ((txI I (W, H, bs) i j) 2), .int .i32 ((txI I (W, H, bs) i j) 3)], .int .i64 0]) ∧ Ext wx w') := fun wx hx => by
    have h9 := unpack_any I.f.toNat (some ⟨b, off + P * s, none⟩) (bcap - P * s) (cellL s bs P) wx z2 z3 (by rw [hlen]; exact hpart.ext hx) (hb.cut _ _) (by rw [hlen]; exact hs)
    rw [hlen, z5] at h9
    rw [unhide HT]
    exact h9
  clear hpart hlen HT hr hb hs HS hPl hn z1 z5
  have HP := hide hP
  have e1 : IntKind.i64.wrap (wrapI I.wt j H * W) = wrapI I.wt j H * W := by
    have h1 : 0 ≤ wrapI I.wt j H * W := Int.mul_nonneg hy.1 (by omega)
    have h2 : wrapI I.wt j H * W ≤ (P : Int) := by omega
    have h3 : P ≤ P * s := Nat.le_mul_of_pos_right _ (by omega)
    simp [IntKind.wrap, IntKind.bits, IntKind.signed]
    omega
  have e2 : IntKind.i64.wrap (wrapI I.wt j H * W + wrapI I.ws i W) = (P : Int) := by
    have h3 : P ≤ P * s := Nat.le_mul_of_pos_right _ (by omega)
    rw [← hP]
    simp [IntKind.wrap, IntKind.bits, IntKind.signed]
    omega
  have e4 : (P : Int) * (s : Int) = ((P * s : Nat) : Int) := by simp
  generalize P * s = Q at *
  have e3 : IntKind.i64.wrap ((P : Int) * (s : Int)) = (Q : Int) := by
    rw [e4]
    simp [IntKind.wrap, IntKind.bits, IntKind.signed]
    omega
  clear e4
  clear hP hy hx
  have hX1 := (((Ext.refl w).alloc (.cells #[.int .i64 I.f, .slice ao n cap, .int .i64 I.ws, .int .i64 I.wt, .int .i64 I.mn, .int .i64 I.mg] 117)).alloc (.cells #[.int .i64 W, .int .i64 H, .slice (some ⟨b, off, none⟩) bs.length bcap] 160)).alloc (.cells #[.int .i32 0, .int .i32 0, .int .i32 0, .int .i32 0] 28)
  have hB1 : Blk (((w.alloc (.cells #[.int .i64 I.f, .slice ao n cap, .int .i64 I.ws, .int .i64 I.wt, .int .i64 I.mn, .int .i64 I.mg] 117)).alloc (.cells #[.int .i64 W, .int .i64 H, .slice (some ⟨b, off, none⟩) bs.length bcap] 160)).alloc (.cells #[.int .i32 0, .int .i32 0, .int .i32 0, .int .i32 0] 28)) w.heap.size #[.int .i64 I.f, .slice ao n cap, .int .i64 I.ws, .int .i64 I.wt, .int .i64 I.mn, .int .i64 I.mg] 117 := ((Blk.new _ _ _).alloc _).alloc _
  have hL1 : Blk (((w.alloc (.cells #[.int .i64 I.f, .slice ao n cap, .int .i64 I.ws, .int .i64 I.wt, .int .i64 I.mn, .int .i64 I.mg] 117)).alloc (.cells #[.int .i64 W, .int .i64 H, .slice (some ⟨b, off, none⟩) bs.length bcap] 160)).alloc (.cells #[.int .i32 0, .int .i32 0, .int .i32 0, .int .i32 0] 28)) (w.heap.size + 1) #[.int .i64 W, .int .i64 H, .slice (some ⟨b, off, none⟩) bs.length bcap] 160 := Blk.alloc (Blk.at (by simp)) _
  have hR1 : Blk (((w.alloc (.cells #[.int .i64 I.f, .slice ao n cap, .int .i64 I.ws, .int .i64 I.wt, .int .i64 I.mn, .int .i64 I.mg] 117)).alloc (.cells #[.int .i64 W, .int .i64 H, .slice (some ⟨b, off, none⟩) bs.length bcap] 160)).alloc (.cells #[.int .i32 0, .int .i32 0, .int .i32 0, .int .i32 0] 28)) (w.heap.size + 2) #[.int .i32 0, .int .i32 0, .int .i32 0, .int .i32 0] 28 := Blk.at (by simp)
  have H1 := hide (And.intro hX1 (And.intro hB1 (And.intro hL1 hR1)))
  clear hX1 hB1 hL1 hR1
  have HSZ : Hid (∀ wx, Calls Tryz.prog 168 #[.int .i64 I.f] wx fun e w' => e = .returned (.int .i64 (s : Int)) ∧ Ext wx w') := fun wx => by rw [← z4]; exact size_any I.f wx
  clear z4
  go_enter Tryz.func177, Tryz.ntmps177
  go_wp2_with fail
  refine (unhide HSZ _).mono ?_
  rintro e w2 ⟨rfl, hx2⟩
  have H2 := hide (And.intro ((unhide H1).1.trans hx2) (And.intro ((unhide H1).2.1.ext hx2) (And.intro ((unhide H1).2.2.1.ext hx2) ((unhide H1).2.2.2.ext hx2))))
  clear H1 hx2
  obtain ⟨q0, q1, q2, q3, q4, q5⟩ := (unhide H2).2.1.six
  obtain ⟨l0, l1, l2⟩ := (unhide H2).2.2.1.three
  go_upto_region 2 with fail
  go_quiet (first | (go_at_call 198; refine Calls.quiet_of_same (wrap_any _ _ _ _)))
  go_upto_region 3 with fail
  have H3 := hide (And.intro ((unhide H2).1.drewN nq) (And.intro ((unhide H2).2.1.drewN nq) (And.intro ((unhide H2).2.2.1.drewN nq) ((unhide H2).2.2.2.drewN nq))))
  clear q0 q1 q2 q3 q4 q5 l0 l1 l2 H2
  generalize w2.drewN nq = w3 at H3 ⊢
  have HCL : Hid (∀ wx, Ext w3 wx → wx.cell? ⟨w.heap.size, 0, none⟩ = some (.int .i64 I.f) ∧ wx.cell? ⟨w.heap.size + 1, 2, none⟩ = some (.slice (some ⟨b, off, none⟩) bs.length bcap)) := fun wx hx => ⟨((unhide H3).2.1.ext hx).six.1, ((unhide H3).2.2.1.ext hx).three.2.2⟩
  have HU2 : Hid (∀ wx, Ext w3 wx → Calls Tryz.prog 199 #[.int .i64 I.f, .slice (some ⟨b, off + Q, none⟩) s (bcap - Q)] wx fun e w' => e = .returned (.tuple #[.agg #[.int .i32 ((txI I (W, H, bs) i j) 0), .int .i32 ((txI I (W, H, bs) i j) 1), .int .i32 ((txI I (W, H, bs) i j) 2), .int .i32 ((txI I (W, H, bs) i j) 3)], .int .i64 0]) ∧ Ext wx w') := fun wx hx => unhide HU wx ((unhide H3).1.trans hx)
  clear HU e1 e2 e3
  have g1 : Q + s ≤ bs.length := by omega
  have g2 : IntKind.i64.wrap ((Q : Int) + (s : Int)) = (Q : Int) + (s : Int) := by
    simp [IntKind.wrap, IntKind.bits, IntKind.signed]
    omega
  have g3 : (Q : Int) + (s : Int) ≤ (bcap : Int) := by omega
  have g4 : (Q : Int) ≤ (Q : Int) + (s : Int) := by omega
  have g5 : ¬ bcap = Q := by omega
  have g6 : ((Q : Int) + (s : Int)).toNat = Q + s := by omega
  have g7 : bcap ≤ 9223372036854775807 := by
    have h9 := hbc.2
    unfold maxLen at h9
    omega
  have g8 : (0 : Int) ≤ (Q : Int) + (s : Int) := by omega
  go_cut [11] (fun p wc => ∃ r, p = .pointer (some ⟨r, 0, none⟩) ∧ Blk wc r #[.int .i32 ((txI I (W, H, bs) i j) 0), .int .i32 ((txI I (W, H, bs) i j) 1), .int .i32 ((txI I (W, H, bs) i j) 2), .int .i32 ((txI I (W, H, bs) i j) 3)] 28 ∧ Ext w3 wc)
  case first =>
    go_region_held3 (fun w' => w'.cell? ⟨w.heap.size, 0, none⟩ = some (.int .i64 I.f) ∧ w'.cell? ⟨w.heap.size + 1, 2, none⟩ = some (.slice (some ⟨b, off, none⟩) bs.length bcap))
      (first | with_reducible exact unhide HCL _ bx | with_reducible exact unhide HCL _ (bx.alloc _) | with_reducible exact unhide HCL _ (ext_0 w3) | with_reducible exact unhide HCL _ (ext_1 w3 _) | with_reducible exact unhide HCL _ (ext_put4 bx (by omega)))
      (first
        | (go_at_call 199; refine (unhide HU2 _ (by first | with_reducible exact ext_0 w3 | with_reducible exact ext_1 w3 _)).mono ?_; rintro e ws ⟨rfl, hxs⟩; have bx : Ext w3 ws := (by first | with_reducible exact (ext_0 w3).trans hxs | exact (ext_1 w3 _).trans hxs); have szs := bx.size; (first | (have RB := hide (blk_1 w3 _ _ hxs); obtain ⟨r0, r1, r2, r3⟩ := (unhide RB).four; obtain ⟨z0, z1, z2, z3, _⟩ := (unhide RB).frees) | skip)))
    all_goals go_wp2
    all_goals go_meet
    all_goals
      refine ⟨_, rfl, ?gb, ?gx⟩
      case gb => first | (with_reducible exact Blk.new _ _ _) | (with_reducible exact (unhide RB).put4 _ _ _ _)
      case gx => first | (with_reducible exact bx.alloc _) | (with_reducible exact ext_put4 bx (by omega))
  case rest =>
  obtain ⟨r, rfl, hV, hx3⟩ := hcut
  rename_i wc
  obtain ⟨v0, v1, v2, v3⟩ := hV.vecs
  have hR := (unhide H3).2.2.2.ext hx3
  obtain ⟨r0, r1, r2, r3⟩ := hR.four
  obtain ⟨f0, f1, f2, f3, _⟩ := hR.frees
  have hR2 := hR.put4 (.int .i32 (txI I (W, H, bs) i j 0)) (.int .i32 (txI I (W, H, bs) i j 1)) (.int .i32 (txI I (W, H, bs) i j 2)) (.int .i32 (txI I (W, H, bs) i j 3))
  have hX := ext_put4 (b := w.heap.size + 2) (a0 := .int .i32 (txI I (W, H, bs) i j 0)) (a1 := .int .i32 (txI I (W, H, bs) i j 1)) (a2 := .int .i32 (txI I (W, H, bs) i j 2)) (a3 := .int .i32 (txI I (W, H, bs) i j 3)) ((unhide H3).1.trans hx3) (by omega)
  have H9 := hide (And.intro hR2 hX)
  clear hV hR hR2 hX hx3 HCL HU2
  go_wp2
  obtain ⟨t0, t1, t2, t3⟩ := (unhide H9).1.four
  refine bodyPost_ret (v := .agg #[.int .i32 ((txI I (W, H, bs) i j) 0), .int .i32 ((txI I (W, H, bs) i j) 1), .int .i32 ((txI I (W, H, bs) i j) 2), .int .i32 ((txI I (W, H, bs) i j) 3)]) (by simp [results, Tryz.results177, go_sem, t0, t1, t2, t3]) rfl ⟨rfl, (unhide H9).2⟩
end Go.Proofs.YtgmahpkhdnabjaaGreat

/-
  Colours: the walk of blend.
-/
namespace Go.Proofs.YtgmahpkhdnabjaaGreat
open Go.RowKit
set_option linter.unusedVariables false
set_option linter.unusedSimpArgs false

/-- The four shares. -/
def shr4 (f g : Int) : Nat → Int
  | 0 => (65536 - f) * (65536 - g)
  | 1 => f * (65536 - g)
  | 2 => (65536 - f) * g
  | _ => f * g
/-- The sum, as far as it has come. -/
def psI (A S : Nat → Int) (c : Nat) : Nat → Int
  | 0 => 2147483648
  | j + 1 => psI A S c j + A (j * 4 + c) * S j
def linV (A : Nat → Int) (f g : Int) : Nat → Int := fun k => linI (A k) (A (4 + k)) (A (8 + k)) (A (12 + k)) f g
theorem shr_bd {f g : Int} (hf : 0 ≤ f ∧ f < 65536) (hg : 0 ≤ g ∧ g < 65536) (j : Nat) : 0 ≤ shr4 f g j ∧ shr4 f g j ≤ 4294967296 := by
  obtain ⟨a, b, c, d⟩ := shares hf hg
  have e := sh_sum f g
  rcases j with _ | _ | _ | j
  · show 0 ≤ (65536 - f) * (65536 - g) ∧ (65536 - f) * (65536 - g) ≤ _
    omega
  · show 0 ≤ f * (65536 - g) ∧ f * (65536 - g) ≤ _
    omega
  · show 0 ≤ (65536 - f) * g ∧ (65536 - f) * g ≤ _
    omega
  · show 0 ≤ f * g ∧ f * g ≤ _
    omega
theorem term_bd {a s : Int} (ha : 0 ≤ a ∧ a ≤ 65536) (hs : 0 ≤ s ∧ s ≤ 4294967296) : 0 ≤ a * s ∧ a * s ≤ 281474976710656 := by
  refine ⟨Int.mul_nonneg ha.1 hs.1, ?_⟩
  have := Int.mul_le_mul ha.2 hs.2 hs.1 (by omega)
  omega
theorem ps_bd {A S : Nat → Int} {c : Nat} (hc : c < 4) (hA : ∀ i, i < 16 → 0 ≤ A i ∧ A i ≤ 65536) (hS : ∀ j, 0 ≤ S j ∧ S j ≤ 4294967296) : ∀ j, j ≤ 4 → 0 ≤ psI A S c j ∧ psI A S c j ≤ 2147483648 + j * 281474976710656
  | 0, _ => by simp [psI]
  | j + 1, h => by
    have ih := ps_bd hc hA hS j (by omega)
    have t := term_bd (hA (j * 4 + c) (by omega)) (hS j)
    show 0 ≤ psI A S c j + A (j * 4 + c) * S j ∧ psI A S c j + A (j * 4 + c) * S j ≤ _
    omega
theorem ps_end (A : Nat → Int) (f g : Int) (c : Nat) : psI A (shr4 f g) c 4 / 4294967296 = linV A f g c := by
  unfold linV linI shS
  simp only [psI, shr4]
  congr 1
  simp only [Nat.zero_mul, Nat.zero_add, Nat.one_mul, Nat.reduceMul]
  omega
/-- Sixteen cells. -/
def six4 (A : Nat → Int) : Array Value := #[.int .i32 (A 0), .int .i32 (A 1), .int .i32 (A 2), .int .i32 (A 3), .int .i32 (A 4), .int .i32 (A 5), .int .i32 (A 6), .int .i32 (A 7), .int .i32 (A 8), .int .i32 (A 9), .int .i32 (A 10), .int .i32 (A 11), .int .i32 (A 12), .int .i32 (A 13), .int .i32 (A 14), .int .i32 (A 15)]
theorem Blk.six4 {w : World} {b : Nat} {A : Nat → Int} {t : TypeId} (h : Blk w b (six4 A) t) (k : Nat) (hk : k < 16) : w.cell? ⟨b, k, none⟩ = some (.int .i32 (A k)) := by
  refine h.cell ?_
  rcases (by omega : k = 0 ∨ k = 1 ∨ k = 2 ∨ k = 3 ∨ k = 4 ∨ k = 5 ∨ k = 6 ∨ k = 7 ∨ k = 8 ∨ k = 9 ∨ k = 10 ∨ k = 11 ∨ k = 12 ∨ k = 13 ∨ k = 14 ∨ k = 15) with rfl | rfl | rfl | rfl | rfl | rfl | rfl | rfl | rfl | rfl | rfl | rfl | rfl | rfl | rfl | rfl <;> rfl
def l64 (S : Nat → Int) : Array Value := #[.int .i64 (S 0), .int .i64 (S 1), .int .i64 (S 2), .int .i64 (S 3)]
theorem Blk.l64 {w : World} {b : Nat} {S : Nat → Int} {t : TypeId} (h : Blk w b (l64 S) t) (k : Nat) (hk : k < 4) : w.cell? ⟨b, k, none⟩ = some (.int .i64 (S k)) := by
  refine h.cell ?_
  rcases (by omega : k = 0 ∨ k = 1 ∨ k = 2 ∨ k = 3) with rfl | rfl | rfl | rfl <;> rfl
/-- The colour, as far as it has come. -/
def upTo (V : Nat → Int) (k : Nat) : Nat → Int := fun i => if i < k then V i else 0
theorem upTo_set (V : Nat → Int) (k : Nat) (hk : k < 4) : (#[.int .i32 ((upTo V k) 0), .int .i32 ((upTo V k) 1), .int .i32 ((upTo V k) 2), .int .i32 ((upTo V k) 3)] : Array Value).setIfInBounds k (.int .i32 (V k)) = #[.int .i32 ((upTo V (k + 1)) 0), .int .i32 ((upTo V (k + 1)) 1), .int .i32 ((upTo V (k + 1)) 2), .int .i32 ((upTo V (k + 1)) 3)] := by
  rcases (by omega : k = 0 ∨ k = 1 ∨ k = 2 ∨ k = 3) with rfl | rfl | rfl | rfl <;> rfl
structure BlS (w wr : World) (A : Nat → Int) (S V : Nat → Int) (k : Nat) : Prop where
  four : Blk wr w.heap.size (six4 A) 167
  res : Blk wr (w.heap.size + 1) #[.int .i32 0, .int .i32 0, .int .i32 0, .int .i32 0] 28
  sh : Blk wr (w.heap.size + 2) (l64 S) 169
  col : Blk wr (w.heap.size + 3) #[.int .i32 ((upTo V k) 0), .int .i32 ((upTo V k) 1), .int .i32 ((upTo V k) 2), .int .i32 ((upTo V k) 3)] 28
  ext : Ext w wr
theorem BlS.later {w wr w' : World} {A S V : Nat → Int} {k : Nat} (h : BlS w wr A S V k) (hx : Ext wr w') : BlS w w' A S V k := ⟨h.four.ext hx, h.res.ext hx, h.sh.ext hx, h.col.ext hx, h.ext.trans hx⟩
theorem BlS.put {w wr : World} {A S V : Nat → Int} {k : Nat} (h : BlS w wr A S V k) (hk : k < 4) : BlS w (wr.setCell ⟨w.heap.size + 3, k, none⟩ (.int .i32 (V k))) A S V (k + 1) := by
  refine ⟨h.four.other _ _ (by omega), h.res.other _ _ (by omega), h.sh.other _ _ (by omega), ?_, below_grown h.ext (grownBy_set _ _ _ _) h.ext.size (by omega)⟩
  have := h.col.set k (.int .i32 (V k))
  rw [upTo_set V k hk] at this
  exact this

set_option maxRecDepth 10000 in
set_option maxHeartbeats 4000000 in
theorem blend_any (A : Nat → Int) (f g : Int) (w : World) (hA : ∀ i, i < 16 → 0 ≤ A i ∧ A i ≤ 65536) (hf : 0 ≤ f ∧ f < 65536) (hg : 0 ≤ g ∧ g < 65536) :
    Calls Tryz.prog 178 #[.agg (six4 A), .int .i64 f, .int .i64 g] w fun e w' => e = .returned (.agg #[.int .i32 ((linV A f g) 0), .int .i32 ((linV A f g) 1), .int .i32 ((linV A f g) 2), .int .i32 ((linV A f g) 3)]) ∧ Ext w w' := by
  obtain ⟨a1, a2, a3, a4⟩ := shares hf hg
  have e9 := sh_sum f g
  have b1 := shr_bd hf hg 0
  have b2 := shr_bd hf hg 1
  have b3 := shr_bd hf hg 2
  have b4 := shr_bd hf hg 3
  simp only [shr4] at b1 b2 b3 b4
  have HS : Hid (∀ j, 0 ≤ shr4 f g j ∧ shr4 f g j ≤ 4294967296) := shr_bd hf hg
  have HA := hide hA
  have HE : Hid (∀ c, psI A (shr4 f g) c 4 / 4294967296 = linV A f g c) := ps_end A f g
  have H0 : Hid (BlS w ((((w.alloc (.cells #[.int .i32 (A 0), .int .i32 (A 1), .int .i32 (A 2), .int .i32 (A 3), .int .i32 (A 4), .int .i32 (A 5), .int .i32 (A 6), .int .i32 (A 7), .int .i32 (A 8), .int .i32 (A 9), .int .i32 (A 10), .int .i32 (A 11), .int .i32 (A 12), .int .i32 (A 13), .int .i32 (A 14), .int .i32 (A 15)] 167)).alloc (.cells #[.int .i32 0, .int .i32 0, .int .i32 0, .int .i32 0] 28)).alloc (.cells #[.int .i64 ((65536 - f) * (65536 - g)), .int .i64 (f * (65536 - g)), .int .i64 ((65536 - f) * g), .int .i64 (f * g)] 169)).alloc (.cells #[.int .i32 0, .int .i32 0, .int .i32 0, .int .i32 0] 28)) A (shr4 f g) (linV A f g) 0) :=
    ⟨(((Blk.new w #[.int .i32 (A 0), .int .i32 (A 1), .int .i32 (A 2), .int .i32 (A 3), .int .i32 (A 4), .int .i32 (A 5), .int .i32 (A 6), .int .i32 (A 7), .int .i32 (A 8), .int .i32 (A 9), .int .i32 (A 10), .int .i32 (A 11), .int .i32 (A 12), .int .i32 (A 13), .int .i32 (A 14), .int .i32 (A 15)] 167).alloc _).alloc _).alloc _, (Blk.alloc (Blk.at (by simp)) _).alloc _, Blk.alloc (Blk.at (cs := #[.int .i64 ((65536 - f) * (65536 - g)), .int .i64 (f * (65536 - g)), .int .i64 ((65536 - f) * g), .int .i64 (f * g)]) (by simp)) _, Blk.at (by simp), (((Ext.refl w).alloc _).alloc _).alloc _ |>.alloc _⟩
  obtain ⟨f1, f2⟩ := hf
  obtain ⟨g1, g2⟩ := hg
  clear hA
  unfold six4
  go_enter Tryz.func178, Tryz.ntmps178
  go_upto_region 3 with fail
  generalize (((w.alloc (.cells #[.int .i32 (A 0), .int .i32 (A 1), .int .i32 (A 2), .int .i32 (A 3), .int .i32 (A 4), .int .i32 (A 5), .int .i32 (A 6), .int .i32 (A 7), .int .i32 (A 8), .int .i32 (A 9), .int .i32 (A 10), .int .i32 (A 11), .int .i32 (A 12), .int .i32 (A 13), .int .i32 (A 14), .int .i32 (A 15)] 167)).alloc (.cells #[.int .i32 0, .int .i32 0, .int .i32 0, .int .i32 0] 28)).alloc (.cells #[.int .i64 ((65536 - f) * (65536 - g)), .int .i64 (f * (65536 - g)), .int .i64 ((65536 - f) * g), .int .i64 (f * g)] 169)).alloc (.cells #[.int .i32 0, .int .i32 0, .int .i32 0, .int .i32 0] 28) = w1 at H0 ⊢
  clear a1 a2 a3 a4 e9 b1 b2 b3 b4 f1 f2 g1 g2
  generalize shr4 f g = S at *
  obtain ⟨V, hV⟩ : ∃ V, V = linV A f g := ⟨_, rfl⟩
  have HVE := hide hV
  rw [← hV] at HE H0
  clear hV
  go_wp2_with fail
  go_loopw [29] (fun iv wr => ∃ k : Nat, k ≤ 4 ∧ iv = .int .i64 (k : Int) ∧ BlS w wr A S V k) (fun iv _ => 4 - (intOf iv).toNat)
  case atStart => exact ⟨0, by omega, rfl, unhide H0⟩
  case round =>
    clear H0
    obtain ⟨k, hk, rfl, hI⟩ := hrel
    have HI := hide hI
    clear hI
    by_cases hlt : k < 4
    · have hkn : (k : Int) < 4 := by omega
      go_wp2_with fail
      go_loopw [10, 32] (fun sv jv wx => ∃ j : Nat, j ≤ 4 ∧ jv = .int .i64 (j : Int) ∧ sv = .int .i64 (psI A S k j) ∧ Ext wr wx) (fun _ jv _ => 4 - (intOf jv).toNat)
      case atStart => exact ⟨0, by omega, rfl, rfl, Ext.refl _⟩
      case round =>
        obtain ⟨j, hj, rfl, rfl, hx⟩ := hrel
        have HX := hide hx
        clear hx
        by_cases hjl : j < 4
        · have hjn : (j : Int) < 4 := by omega
          have hI := (unhide HI).later (unhide HX)
          have c0 := hI.four.six4 (j * 4 + k) (by omega)
          have c1 := hI.sh.l64 j hjl
          have p1 := ps_bd hlt (unhide HA) (unhide HS) j (by omega)
          have p2 := term_bd (unhide HA (j * 4 + k) (by omega)) (unhide HS j)
          have p3 := unhide HA (j * 4 + k) (by omega)
          have p4 := unhide HS j
          have HP := hide (show psI A S k (j + 1) = psI A S k j + A (j * 4 + k) * S j from rfl)
          generalize psI A S k j = P at *
          generalize A (j * 4 + k) = a at *
          generalize S j = sj at *
          have g1 : IntKind.i64.wrap (a * sj) = a * sj := by simp [IntKind.wrap, IntKind.bits, IntKind.signed]; omega
          have g2 : IntKind.i64.wrap (P + a * sj) = P + a * sj := by simp [IntKind.wrap, IntKind.bits, IntKind.signed]; omega
          have g3 : IntKind.i64.wrap a = a := by simp [IntKind.wrap, IntKind.bits, IntKind.signed]; omega
          clear hI
          go_upto_region 10 with fail
          go_quiet (fail)
          go_wp2
          go_roundw
          case rel => exact ⟨j + 1, by omega, by go_num, by rw [unhide HP], (unhide HX).trans ((Ext.refl _).drewN _)⟩
          case measure => simp [intOf]; omega
        · have hjn : ¬ (j : Int) < 4 := by omega
          obtain rfl : j = 4 := by omega
          have hI := (unhide HI).later (unhide HX)
          have p1 := ps_bd hlt (unhide HA) (unhide HS) 4 (by omega)
          have HV : Hid (rawI (psI A S k 4 / 4294967296) = V k) := by
            show _ = _
            rw [← unhide HE k]
            exact rawI_id ⟨by omega, by omega⟩
          have H9 := hide (hI.put hlt)
          have c0 := hI.col.free k
          have c1 := hI.col.vec k hlt
          generalize psI A S k 4 = P at *
          clear hI
          go_wp2_with fail
          refine (raw_any _ _).mono ?_
          rintro e w5 ⟨rfl, rfl⟩
          rw [unhide HV]
          go_wp2
          go_roundw
          case rel => exact ⟨k + 1, by omega, by go_num, unhide H9⟩
          case measure => simp [intOf]; omega
    · have hkn : ¬ (k : Int) < 4 := by omega
      obtain rfl : k = 4 := by omega
      have hI := unhide HI
      obtain ⟨v0, v1, v2, v3⟩ := hI.col.vecs
      simp only [upTo] at v0 v1 v2 v3
      rw [if_pos (by omega)] at v0 v1 v2 v3
      obtain ⟨r0, r1, r2, r3⟩ := hI.res.four
      obtain ⟨f0, f1, f2, f3, _⟩ := hI.res.frees
      have hR2 := hI.res.put4 (.int .i32 (V 0)) (.int .i32 (V 1)) (.int .i32 (V 2)) (.int .i32 (V 3))
      have hX := ext_put4 (b := w.heap.size + 1) (a0 := .int .i32 (V 0)) (a1 := .int .i32 (V 1)) (a2 := .int .i32 (V 2)) (a3 := .int .i32 (V 3)) hI.ext (by omega)
      have H9 := hide (And.intro hR2 hX)
      clear hI hR2 hX
      go_wp2
      obtain ⟨t0, t1, t2, t3⟩ := (unhide H9).1.four
      refine bodyPost_ret (v := .agg #[.int .i32 (V 0), .int .i32 (V 1), .int .i32 (V 2), .int .i32 (V 3)]) (by simp [results, Tryz.results178, go_sem, t0, t1, t2, t3]) rfl ⟨by rw [unhide HVE], (unhide H9).2⟩
end Go.Proofs.YtgmahpkhdnabjaaGreat
