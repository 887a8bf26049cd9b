/-
  Colours: the walk of colour.
-/
import Derived.Test.YtadajaoidhbmgaaSB
import Derived.Test.YtadajaoidhbmgaaPI
import Derived.Deep.QuietTactic
import Derived.Deep.RegionHeld3
import Derived.Deep.DeepCutAuto
namespace Go.Proofs.Ytadajaoidhbmgaa
open Go.RowKit
set_option linter.unusedVariables false
set_option linter.unusedSimpArgs false

/-- A part of a row. -/
theorem Row.part {w : World} {ao : Option Addr} {n cap : Nat} {xs : List Int} (h : Row .u8 w (.slice ao n cap) xs) (p m : Nat) (hm : 0 < m) (hp : p + m ≤ xs.length) :
    ∃ b off, ao = some ⟨b, off, none⟩ ∧ Row .u8 w (.slice (some ⟨b, off + p, none⟩) m (cap - p)) ((xs.drop p).take m) := by
  rcases h with ⟨rfl, _⟩ | ⟨hne, b, off, c, hv, hl, hmx, hc⟩
  · simp at hp
    omega
  · cases hv
    have hlen : ((xs.drop p).take m).length = m := by simp; omega
    refine ⟨b, off, rfl, .inr ⟨?_, b, off + p, cap - p, by rw [hlen], by rw [hlen]; omega, by omega, fun i hi => ?_⟩⟩
    · intro e
      rw [e] at hlen
      simp at hlen
      omega
    · rw [hlen] at hi
      have := hc (p + i) (by omega)
      rw [← Nat.add_assoc] at this
      rw [this]
      congr 2
      simp [hi]

set_option maxHeartbeats 1000000 in
theorem Blk.vecs {w : World} {b : Nat} {a : Nat → Int} {t : TypeId} (h : Blk w b #[.int .i32 (a 0), .int .i32 (a 1), .int .i32 (a 2), .int .i32 (a 3)] t) : w.cell? ⟨b, 0, none⟩ = some (.int .i32 (a 0)) ∧ w.cell? ⟨b, 1, none⟩ = some (.int .i32 (a 1)) ∧ w.cell? ⟨b, 2, none⟩ = some (.int .i32 (a 2)) ∧ w.cell? ⟨b, 3, none⟩ = some (.int .i32 (a 3)) := ⟨h.cell rfl, h.cell rfl, h.cell rfl, h.cell rfl⟩
theorem Blk.put4 {w : World} {b : Nat} {o0 o1 o2 o3 : Value} {t : TypeId} (h : Blk w b #[o0, o1, o2, o3] t) (a0 a1 a2 a3 : Value) :
    Blk ((((w.setCell ⟨b, 0, none⟩ a0).setCell ⟨b, 1, none⟩ a1).setCell ⟨b, 2, none⟩ a2).setCell ⟨b, 3, none⟩ a3) b #[a0, a1, a2, a3] t := by
  have h1 := (((h.set 0 a0).set 1 a1).set 2 a2).set 3 a3
  simpa using h1
theorem grown_put4 (w : World) (b : Nat) (a0 a1 a2 a3 : Value) : w.grownBy ((((w.setCell ⟨b, 0, none⟩ a0).setCell ⟨b, 1, none⟩ a1).setCell ⟨b, 2, none⟩ a2).setCell ⟨b, 3, none⟩ a3) (some b) :=
  (((grownBy_set _ _ _ _).trans (grownBy_set _ _ _ _)).trans (grownBy_set _ _ _ _)).trans (grownBy_set _ _ _ _)
theorem ext_put4 {w w1 : World} {b : Nat} {a0 a1 a2 a3 : Value} (h : Ext w w1) (hb : w.heap.size ≤ b) : Ext w ((((w1.setCell ⟨b, 0, none⟩ a0).setCell ⟨b, 1, none⟩ a1).setCell ⟨b, 2, none⟩ a2).setCell ⟨b, 3, none⟩ a3) :=
  below_grown h (grown_put4 _ _ _ _ _ _) h.size hb

set_option maxRecDepth 10000 in
set_option maxHeartbeats 4000000 in
theorem scol_any {w : World} {I : Img} {W H : Int} {bs : List Int} (hl : LvOk I (W, H, bs)) (hb : Byt bs) (ao : Option Addr) (n cap : Nat) (bo : Option Addr) (bcap : Nat) (hr : Row .u8 w (.slice bo bs.length bcap) bs) (i j : Int) :
    Calls Try.prog 18 #[.agg #[.int .i64 I.f, .slice ao n cap, .int .i64 I.ws, .int .i64 I.wt, .int .i64 I.mn, .int .i64 I.mg], .agg #[.int .i64 W, .int .i64 H, .slice bo bs.length bcap], .int .i64 i, .int .i64 j] w fun e w' => e = .returned (.agg #[.int .i32 ((txI I (W, H, bs) i j) 0), .int .i32 ((txI I (W, H, bs) i j) 1), .int .i32 ((txI I (W, H, bs) i j) 2), .int .i32 ((txI I (W, H, bs) i j) 3)]) ∧ Ext w w' := by
  obtain ⟨z1, z2, z3, z4, z5⟩ := hl.siz
  have hW : 1 ≤ W ∧ W ≤ 64 := hl.w
  have hH : 1 ≤ H ∧ H ≤ 64 := hl.h
  have hn : (bs.length : Int) = W * H * sizI I.f := hl.n
  have hy := wrapI_bd (m := I.wt) (i := j) hH.1 hH.2
  have hx := wrapI_bd (m := I.ws) (i := i) hW.1 hW.2
  have hP := plN_eq (ws := I.ws) (wt := I.wt) (i := i) (j := j) hW hH
  have hPl := plN_lt (ws := I.ws) (wt := I.wt) (i := i) (j := j) hW hH
  have HT : Hid (txI I (W, H, bs) i j = colN I.f.toNat (numOf (cellL (siz I.f.toNat) bs (plN W H I.ws I.wt i j)))) := by
    show _ = _
    unfold txI
    rw [z1]
  have hs4 : 1 ≤ siz I.f.toNat ∧ siz I.f.toNat ≤ 4 := by rcases siz_three z2 z3 with h | h | h <;> omega
  have HS := hide (show siz I.f.toNat = siz I.f.toNat from rfl)
  generalize plN W H I.ws I.wt i j = P at *
  rw [z4] at hn
  obtain ⟨s, hs⟩ : ∃ s, s = siz I.f.toNat := ⟨_, rfl⟩
  rw [← hs] at hs4 hn HT z4
  have hPs : (P + 1) * s ≤ bs.length := by
    have h1 : ((P : Int) + 1) * (s : Int) ≤ W * H * (s : Int) := Int.mul_le_mul_of_nonneg_right hPl (by omega)
    rw [← hn] at h1
    have h2 : (((P + 1) * s : Nat) : Int) = ((P : Int) + 1) * (s : Int) := by simp
    omega
  have hPs2 : (P + 1) * s = P * s + s := Nat.succ_mul _ _
  obtain ⟨_, _, _, _, hlc, hcm⟩ := hr.shape
  have hbc : bs.length ≤ bcap ∧ bcap ≤ maxLen := by
    obtain ⟨_, _, e9, _, h8, h9⟩ := hr.shape
    cases e9
    exact ⟨h8, h9⟩
  have hbm : bs.length ≤ 16384 := by
    have h1 := mul_side hW hH (s := (s : Int)) (by omega)
    omega
  obtain ⟨b, off, rfl, hpart⟩ := hr.part (P * s) s (by omega) (by omega)
  have hlen : (cellL s bs P).length = s := cellL_len hPs
  have HU : Hid (∀ wx, Ext w wx → Calls Try.prog 34 #[.int .i64 I.f, .slice (some ⟨b, off + P * s, none⟩) s (bcap - P * s)] wx fun e w' => e = .returned (.tuple #[.agg #[.int .i32 ((txI I (W, H, bs) i j) 0), .int .i32 ((txI I (W, H, bs) i j) 1), .int .i32 ((txI I (W, H, bs) i j) 2), .int .i32 ((txI I (W, H, bs) i j) 3)], .int .i64 0]) ∧ Ext wx w') := fun wx hx => by
    have h9 := unpack_any I.f.toNat (some ⟨b, off + P * s, none⟩) (bcap - P * s) (cellL s bs P) wx z2 z3 (by rw [hlen]; exact hpart.ext hx) (hb.cut _ _) (by rw [hlen]; exact hs)
    rw [hlen, z5] at h9
    rw [unhide HT]
    exact h9
  clear hpart hlen HT hr hb hs HS hPl hn z1 z5
  have HP := hide hP
  have e1 : IntKind.i64.wrap (wrapI I.wt j H * W) = wrapI I.wt j H * W := by
    have h1 : 0 ≤ wrapI I.wt j H * W := Int.mul_nonneg hy.1 (by omega)
    have h2 : wrapI I.wt j H * W ≤ (P : Int) := by omega
    have h3 : P ≤ P * s := Nat.le_mul_of_pos_right _ (by omega)
    simp [IntKind.wrap, IntKind.bits, IntKind.signed]
    omega
  have e2 : IntKind.i64.wrap (wrapI I.wt j H * W + wrapI I.ws i W) = (P : Int) := by
    have h3 : P ≤ P * s := Nat.le_mul_of_pos_right _ (by omega)
    rw [← hP]
    simp [IntKind.wrap, IntKind.bits, IntKind.signed]
    omega
  have e4 : (P : Int) * (s : Int) = ((P * s : Nat) : Int) := by simp
  generalize P * s = Q at *
  have e3 : IntKind.i64.wrap ((P : Int) * (s : Int)) = (Q : Int) := by
    rw [e4]
    simp [IntKind.wrap, IntKind.bits, IntKind.signed]
    omega
  clear e4
  clear hP hy hx
  have hX1 := (((Ext.refl w).alloc (.cells #[.int .i64 I.f, .slice ao n cap, .int .i64 I.ws, .int .i64 I.wt, .int .i64 I.mn, .int .i64 I.mg] 24)).alloc (.cells #[.int .i64 W, .int .i64 H, .slice (some ⟨b, off, none⟩) bs.length bcap] 46)).alloc (.cells #[.int .i32 0, .int .i32 0, .int .i32 0, .int .i32 0] 30)
  have hB1 : Blk (((w.alloc (.cells #[.int .i64 I.f, .slice ao n cap, .int .i64 I.ws, .int .i64 I.wt, .int .i64 I.mn, .int .i64 I.mg] 24)).alloc (.cells #[.int .i64 W, .int .i64 H, .slice (some ⟨b, off, none⟩) bs.length bcap] 46)).alloc (.cells #[.int .i32 0, .int .i32 0, .int .i32 0, .int .i32 0] 30)) w.heap.size #[.int .i64 I.f, .slice ao n cap, .int .i64 I.ws, .int .i64 I.wt, .int .i64 I.mn, .int .i64 I.mg] 24 := ((Blk.new _ _ _).alloc _).alloc _
  have hL1 : Blk (((w.alloc (.cells #[.int .i64 I.f, .slice ao n cap, .int .i64 I.ws, .int .i64 I.wt, .int .i64 I.mn, .int .i64 I.mg] 24)).alloc (.cells #[.int .i64 W, .int .i64 H, .slice (some ⟨b, off, none⟩) bs.length bcap] 46)).alloc (.cells #[.int .i32 0, .int .i32 0, .int .i32 0, .int .i32 0] 30)) (w.heap.size + 1) #[.int .i64 W, .int .i64 H, .slice (some ⟨b, off, none⟩) bs.length bcap] 46 := Blk.alloc (Blk.at (by simp)) _
  have hR1 : Blk (((w.alloc (.cells #[.int .i64 I.f, .slice ao n cap, .int .i64 I.ws, .int .i64 I.wt, .int .i64 I.mn, .int .i64 I.mg] 24)).alloc (.cells #[.int .i64 W, .int .i64 H, .slice (some ⟨b, off, none⟩) bs.length bcap] 46)).alloc (.cells #[.int .i32 0, .int .i32 0, .int .i32 0, .int .i32 0] 30)) (w.heap.size + 2) #[.int .i32 0, .int .i32 0, .int .i32 0, .int .i32 0] 30 := Blk.at (by simp)
  have H1 := hide (And.intro hX1 (And.intro hB1 (And.intro hL1 hR1)))
  clear hX1 hB1 hL1 hR1
  have HSZ : Hid (∀ wx, Calls Try.prog 33 #[.int .i64 I.f] wx fun e w' => e = .returned (.int .i64 (s : Int)) ∧ Ext wx w') := fun wx => by rw [← z4]; exact size_any I.f wx
  clear z4
  go_enter Try.func18, Try.ntmps18
  go_wp2_with fail
  refine (unhide HSZ _).mono ?_
  rintro e w2 ⟨rfl, hx2⟩
  have H2 := hide (And.intro ((unhide H1).1.trans hx2) (And.intro ((unhide H1).2.1.ext hx2) (And.intro ((unhide H1).2.2.1.ext hx2) ((unhide H1).2.2.2.ext hx2))))
  clear H1 hx2
  obtain ⟨q0, q1, q2, q3, q4, q5⟩ := (unhide H2).2.1.six
  obtain ⟨l0, l1, l2⟩ := (unhide H2).2.2.1.three
  go_upto_region 2 with fail
  go_quiet (first | (go_at_call 16; refine Calls.quiet_of_same (wrap_any _ _ _ _)))
  go_upto_region 3 with fail
  have H3 := hide (And.intro ((unhide H2).1.drewN nq) (And.intro ((unhide H2).2.1.drewN nq) (And.intro ((unhide H2).2.2.1.drewN nq) ((unhide H2).2.2.2.drewN nq))))
  clear q0 q1 q2 q3 q4 q5 l0 l1 l2 H2
  generalize w2.drewN nq = w3 at H3 ⊢
  have HCL : Hid (∀ wx, Ext w3 wx → wx.cell? ⟨w.heap.size, 0, none⟩ = some (.int .i64 I.f) ∧ wx.cell? ⟨w.heap.size + 1, 2, none⟩ = some (.slice (some ⟨b, off, none⟩) bs.length bcap)) := fun wx hx => ⟨((unhide H3).2.1.ext hx).six.1, ((unhide H3).2.2.1.ext hx).three.2.2⟩
  have HU2 : Hid (∀ wx, Ext w3 wx → Calls Try.prog 34 #[.int .i64 I.f, .slice (some ⟨b, off + Q, none⟩) s (bcap - Q)] wx fun e w' => e = .returned (.tuple #[.agg #[.int .i32 ((txI I (W, H, bs) i j) 0), .int .i32 ((txI I (W, H, bs) i j) 1), .int .i32 ((txI I (W, H, bs) i j) 2), .int .i32 ((txI I (W, H, bs) i j) 3)], .int .i64 0]) ∧ Ext wx w') := fun wx hx => unhide HU wx ((unhide H3).1.trans hx)
  clear HU e1 e2 e3
  have g1 : Q + s ≤ bs.length := by omega
  have g2 : IntKind.i64.wrap ((Q : Int) + (s : Int)) = (Q : Int) + (s : Int) := by
    simp [IntKind.wrap, IntKind.bits, IntKind.signed]
    omega
  have g3 : (Q : Int) + (s : Int) ≤ (bcap : Int) := by omega
  have g4 : (Q : Int) ≤ (Q : Int) + (s : Int) := by omega
  have g5 : ¬ bcap = Q := by omega
  have g6 : ((Q : Int) + (s : Int)).toNat = Q + s := by omega
  have g7 : bcap ≤ 9223372036854775807 := by
    have h9 := hbc.2
    unfold maxLen at h9
    omega
  have g8 : (0 : Int) ≤ (Q : Int) + (s : Int) := by omega
  go_cut [11] (fun p wc => ∃ r, p = .pointer (some ⟨r, 0, none⟩) ∧ Blk wc r #[.int .i32 ((txI I (W, H, bs) i j) 0), .int .i32 ((txI I (W, H, bs) i j) 1), .int .i32 ((txI I (W, H, bs) i j) 2), .int .i32 ((txI I (W, H, bs) i j) 3)] 30 ∧ Ext w3 wc)
  case first =>
    go_region_held3 (fun w' => w'.cell? ⟨w.heap.size, 0, none⟩ = some (.int .i64 I.f) ∧ w'.cell? ⟨w.heap.size + 1, 2, none⟩ = some (.slice (some ⟨b, off, none⟩) bs.length bcap))
      (first | with_reducible exact unhide HCL _ bx | with_reducible exact unhide HCL _ (bx.alloc _) | with_reducible exact unhide HCL _ (ext_0 w3) | with_reducible exact unhide HCL _ (ext_1 w3 _) | with_reducible exact unhide HCL _ (ext_put4 bx (by omega)))
      (first
        | (go_at_call 34; refine (unhide HU2 _ (by first | with_reducible exact ext_0 w3 | with_reducible exact ext_1 w3 _)).mono ?_; rintro e ws ⟨rfl, hxs⟩; have bx : Ext w3 ws := (by first | with_reducible exact (ext_0 w3).trans hxs | exact (ext_1 w3 _).trans hxs); have szs := bx.size; (first | (have RB := hide (blk_1 w3 _ _ hxs); obtain ⟨r0, r1, r2, r3⟩ := (unhide RB).four; obtain ⟨z0, z1, z2, z3, _⟩ := (unhide RB).frees) | skip)))
    all_goals go_wp2
    all_goals go_meet
    all_goals
      refine ⟨_, rfl, ?gb, ?gx⟩
      case gb => first | (with_reducible exact Blk.new _ _ _) | (with_reducible exact (unhide RB).put4 _ _ _ _)
      case gx => first | (with_reducible exact bx.alloc _) | (with_reducible exact ext_put4 bx (by omega))
  case rest =>
  obtain ⟨r, rfl, hV, hx3⟩ := hcut
  rename_i wc
  obtain ⟨v0, v1, v2, v3⟩ := hV.vecs
  have hR := (unhide H3).2.2.2.ext hx3
  obtain ⟨r0, r1, r2, r3⟩ := hR.four
  obtain ⟨f0, f1, f2, f3, _⟩ := hR.frees
  have hR2 := hR.put4 (.int .i32 (txI I (W, H, bs) i j 0)) (.int .i32 (txI I (W, H, bs) i j 1)) (.int .i32 (txI I (W, H, bs) i j 2)) (.int .i32 (txI I (W, H, bs) i j 3))
  have hX := ext_put4 (b := w.heap.size + 2) (a0 := .int .i32 (txI I (W, H, bs) i j 0)) (a1 := .int .i32 (txI I (W, H, bs) i j 1)) (a2 := .int .i32 (txI I (W, H, bs) i j 2)) (a3 := .int .i32 (txI I (W, H, bs) i j 3)) ((unhide H3).1.trans hx3) (by omega)
  have H9 := hide (And.intro hR2 hX)
  clear hV hR hR2 hX hx3 HCL HU2
  go_wp2
  obtain ⟨t0, t1, t2, t3⟩ := (unhide H9).1.four
  refine bodyPost_ret (v := .agg #[.int .i32 ((txI I (W, H, bs) i j) 0), .int .i32 ((txI I (W, H, bs) i j) 1), .int .i32 ((txI I (W, H, bs) i j) 2), .int .i32 ((txI I (W, H, bs) i j) 3)]) (by simp [results, Try.results18, go_sem, t0, t1, t2, t3]) rfl ⟨rfl, (unhide H9).2⟩
end Go.Proofs.Ytadajaoidhbmgaa
