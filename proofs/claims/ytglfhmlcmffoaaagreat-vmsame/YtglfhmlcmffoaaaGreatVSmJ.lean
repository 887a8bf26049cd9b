/- Several texts in one. -/
import Derived.Test.YtglfhmlcmffoaaaGreatSGJ
import Derived.Test.YtglfhmlcmffoaaaGreatVMBJ
import Derived.Deep.QuietTactic
import Derived.Test.YtglfhmlcmffoaaaGreatLemJ
import Derived.OrdersHeld
import Derived.Deep.RegionHeld
/-
  Results that are the same: slices.Equal of vectors, vm's Same, the document's Same.
-/
namespace Go.Proofs.YtglfhmlcmffoaaaGreat
open Go.RowKit
set_option linter.unusedVariables false
set_option linter.unusedSimpArgs false

/-- Are two vectors the same? -/
def same4 (a b : Nat → Int) : Bool := a 0 == b 0 && (a 1 == b 1 && (a 2 == b 2 && a 3 == b 3))
theorem same4_iff (a b : Nat → Int) : same4 a b = true ↔ l4 a = l4 b := by
  unfold same4 l4
  simp only [Bool.and_eq_true, beq_iff_eq, List.cons.injEq, and_true]
theorem same4_self (a : Nat → Int) : same4 a a = true := (same4_iff a a).2 rfl
theorem eqP (a b : Nat → Int) (w : World) : (Op.equalIn 10000 28 (.agg #[.int .i32 (a 0), .int .i32 (a 1), .int .i32 (a 2), .int .i32 (a 3)]) (.agg #[.int .i32 (b 0), .int .i32 (b 1), .int .i32 (b 2), .int .i32 (b 3)])).run Tryz.prog w = .ok (same4 a b) w := eqV _ _ _ _ _ _ _ _ w
/-- Are two rows of vectors the same? -/
def sameR (V U : List (Nat → Int)) : Bool := decide (V.map l4 = U.map l4)
theorem sameR_self (V : List (Nat → Int)) : sameR V V = true := decide_eq_true rfl
theorem VRow.cells {w : World} {ao : Option Addr} {n cap : Nat} {L : List (Nat → Int)} (h : VRow w (.slice ao n cap) L) (k : Nat) (hk : k < L.length) :
    ∃ b off, ao = some ⟨b, off, none⟩ ∧ (w.cell? ⟨b, off + k * 4, none⟩ = some (.int .i32 (L[k] 0)) ∧ w.cell? ⟨b, off + k * 4 + 1, none⟩ = some (.int .i32 (L[k] 1)) ∧ w.cell? ⟨b, off + k * 4 + 2, none⟩ = some (.int .i32 (L[k] 2)) ∧ w.cell? ⟨b, off + k * 4 + 3, none⟩ = some (.int .i32 (L[k] 3))) := by
  obtain ⟨b, off, e, hc⟩ := h.at k hk
  have hd : L.getD k nul = L[k] := by simp [hk]
  refine ⟨b, off, e, ?_⟩
  rw [← hd]
  exact ⟨hc k 0 hk (by omega), hc k 1 hk (by omega), hc k 2 hk (by omega), hc k 3 hk (by omega)⟩

set_option maxRecDepth 10000 in
set_option maxHeartbeats 2000000 in
theorem eqVs_any (ao ap : Option Addr) (cap cbp : Nat) (xs ys : List (Nat → Int)) (w : World) (hr : VRow w (.slice ao xs.length cap) xs) (hs : VRow w (.slice ap ys.length cbp) ys) (hlen : xs.length ≤ 1000000) :
    Calls Tryz.prog 32 #[.slice ao xs.length cap, .slice ap ys.length cbp] w fun e w' => e = .returned (.bool (sameR xs ys)) ∧ Ext w w' := by
  have HR := hide hr
  have HS := hide hs
  have HSR := hide (show sameR xs ys = decide (xs.map l4 = ys.map l4) from rfl)
  clear hr hs
  obtain ⟨z, hz⟩ : ∃ z, sameR xs ys = z := ⟨_, rfl⟩
  rw [hz] at HSR ⊢
  clear hz
  by_cases el : xs.length = ys.length
  case neg =>
    have E : Hid (z = false) := by rw [Hid, unhide HSR]; exact decide_eq_false (fun c => el (by simpa using congrArg List.length c))
    have d0 : ((xs.length : Int) != (ys.length : Int)) = true := by simp; omega
    clear el
    go_enter Tryz.func32, Tryz.ntmps32
    go_wp2
    go_ret
    rw [unhide E]
    exact ⟨rfl, Ext.refl _⟩
  case pos =>
  have HL := hide el
  rw [← el] at HS ⊢
  clear el
  go_enter Tryz.func32, Tryz.ntmps32
  go_wp2
  go_loopw [13] (fun iv wr => ∃ k n : Nat, k ≤ xs.length ∧ iv = .int .i64 (k : Int) ∧ wr = w.drewN n ∧ Hid ((xs.take k).map l4 = (ys.take k).map l4)) (fun iv _ => xs.length - (intOf iv).toNat)
  case atStart => exact ⟨0, 0, Nat.zero_le _, rfl, rfl, rfl⟩
  case round =>
    obtain ⟨k, n, hk, rfl, rfl, HT⟩ := hrel
    by_cases hlt : k < xs.length
    · have hkn : (k : Int) < (xs.length : Int) := by omega
      have hkM : k < ys.length := by rw [← unhide HL]; exact hlt
      obtain ⟨b, off, ea, c0, c1, c2, c3⟩ := (unhide HR).cells k hlt
      obtain ⟨b', off', ea', d0, d1, d2, d3⟩ := (unhide HS).cells k hkM
      subst ea
      subst ea'
      obtain ⟨x, hx⟩ : ∃ x, xs[k] = x := ⟨_, rfl⟩
      obtain ⟨y, hy⟩ : ∃ y, ys[k] = y := ⟨_, rfl⟩
      rw [hx] at c0 c1 c2 c3
      rw [hy] at d0 d1 d2 d3
      have HNE : Hid (same4 x y = false → z = false) := fun hne => by
        rw [unhide HSR]
        refine decide_eq_false fun c => ?_
        have h1 : (xs.map l4)[k]? = (ys.map l4)[k]? := by rw [c]
        rw [List.getElem?_map, List.getElem?_map, List.getElem?_eq_getElem hlt, List.getElem?_eq_getElem hkM, hx, hy] at h1
        have h2 := (same4_iff x y).2 (by simpa using h1)
        rw [hne] at h2
        cases h2
      have HEQ : Hid (same4 x y = true → (xs.take (k + 1)).map l4 = (ys.take (k + 1)).map l4) := fun heq => by
        rw [List.take_succ_eq_append_getElem hlt, List.take_succ_eq_append_getElem hkM, List.map_append, List.map_append, unhide HT, hx, hy, List.map_cons, List.map_cons, (same4_iff x y).1 heq]
      have hE : ∀ w, (Op.equalIn 10000 28 (.agg #[.int .i32 (x 0), .int .i32 (x 1), .int .i32 (x 2), .int .i32 (x 3)]) (.agg #[.int .i32 (y 0), .int .i32 (y 1), .int .i32 (y 2), .int .i32 (y 3)])).run Tryz.prog w = .ok (same4 x y) w := eqP x y
      clear hx hy
      obtain ⟨p, hp⟩ : ∃ p, same4 x y = p := ⟨_, rfl⟩
      rw [hp] at HNE HEQ hE
      clear hp
      cases p
      case false =>
        have E := hide (unhide HNE rfl)
        clear HNE HEQ
        go_upto_region 6 with fail
        go_quiet (fail)
        go_wp2
        go_ret
        rw [unhide E]
        exact ⟨rfl, ((Ext.refl w).drewN n).drewN _⟩
      case true =>
        have E := hide (unhide HEQ rfl)
        clear HNE HEQ
        go_upto_region 6 with fail
        go_quiet (fail)
        go_wp2
        go_roundw
        case rel => exact ⟨k + 1, n + nq, by omega, by go_num, by first | rfl | exact drewN_drewN _ _ _, unhide E⟩
        case measure => simp [intOf]; omega
    · obtain rfl : k = xs.length := by omega
      have E : Hid (z = true) := by
        rw [Hid, unhide HSR]
        have h1 := unhide HT
        rw [List.take_of_length_le (by omega), List.take_of_length_le (by rw [unhide HL]; omega)] at h1
        exact decide_eq_true h1
      clear HT
      go_wp2
      go_ret
      rw [unhide E]
      exact ⟨rfl, (Ext.refl w).drewN n⟩

/-- Are two results the same? -/
def sameO (A B : OutC) (V U : List (Nat → Int)) : Bool := same4 A.po B.po && ((A.sz == B.sz) && (same4 A.cl B.cl && ((A.dc == B.dc) && sameR V U)))
theorem outA_cells {w : World} {b : Nat} {A : OutC} {t : TypeId} (h : Blk w b (outA A) t) : (w.cell? ⟨b, 0, none⟩ = some (.int .i32 (A.po 0)) ∧ w.cell? ⟨b, 1, none⟩ = some (.int .i32 (A.po 1)) ∧ w.cell? ⟨b, 2, none⟩ = some (.int .i32 (A.po 2)) ∧ w.cell? ⟨b, 3, none⟩ = some (.int .i32 (A.po 3))) ∧ w.cell? ⟨b, 4, none⟩ = some (.int .i32 A.sz) ∧ w.cell? ⟨b, 5, none⟩ = some A.vy ∧ (w.cell? ⟨b, 6, none⟩ = some (.int .i32 (A.cl 0)) ∧ w.cell? ⟨b, 7, none⟩ = some (.int .i32 (A.cl 1)) ∧ w.cell? ⟨b, 8, none⟩ = some (.int .i32 (A.cl 2)) ∧ w.cell? ⟨b, 9, none⟩ = some (.int .i32 (A.cl 3))) ∧ w.cell? ⟨b, 10, none⟩ = some (.bool A.dc) :=
  ⟨⟨h.cell rfl, h.cell rfl, h.cell rfl, h.cell rfl⟩, h.cell rfl, h.cell rfl, ⟨h.cell rfl, h.cell rfl, h.cell rfl, h.cell rfl⟩, h.cell rfl⟩

set_option maxRecDepth 10000 in
set_option maxHeartbeats 4000000 in
theorem vmSame_any (A B : OutC) (V U : List (Nat → Int)) (w : World) (hA : VRow w A.vy V) (hB : VRow w B.vy U) (hlen : V.length ≤ 1000000) :
    Calls Tryz.prog 20 #[.agg (outA A), .agg (outA B)] w fun e w' => e = .returned (.bool (sameO A B V U)) ∧ Ext w w' := by
  have HX := hide (show Ext w ((w.alloc (.cells (outA A) 36)).alloc (.cells (outA B) 36)) from ((Ext.refl w).alloc _).alloc _)
  have HA := hide (show Blk ((w.alloc (.cells (outA A) 36)).alloc (.cells (outA B) 36)) w.heap.size (outA A) 36 from (Blk.new w _ _).alloc _)
  have HB := hide (show Blk ((w.alloc (.cells (outA A) 36)).alloc (.cells (outA B) 36)) (w.heap.size + 1) (outA B) 36 from Blk.at (by simp))
  obtain ⟨aa, ca, eA⟩ := hA.shape
  obtain ⟨ab, cb, eB⟩ := hB.shape
  have HV : Hid (∀ wx, Ext w wx → Calls Tryz.prog 32 #[.slice aa V.length ca, .slice ab U.length cb] wx fun e w' => e = .returned (.bool (sameR V U)) ∧ Ext wx w') := fun wx hx => eqVs_any aa ab ca cb V U wx (by rw [← eA]; exact hA.ext hx) (by rw [← eB]; exact hB.ext hx) hlen
  have E := hide (show sameO A B V U = (same4 A.po B.po && ((A.sz == B.sz) && (same4 A.cl B.cl && ((A.dc == B.dc) && sameR V U)))) from rfl)
  obtain ⟨z, hz⟩ : ∃ z, sameO A B V U = z := ⟨_, rfl⟩
  rw [hz] at E ⊢
  clear hA hB hz
  have hE1 : ∀ w, (Op.equalIn 10000 28 (.agg #[.int .i32 (A.po 0), .int .i32 (A.po 1), .int .i32 (A.po 2), .int .i32 (A.po 3)]) (.agg #[.int .i32 (B.po 0), .int .i32 (B.po 1), .int .i32 (B.po 2), .int .i32 (B.po 3)])).run Tryz.prog w = .ok (same4 A.po B.po) w := eqP _ _
  have hE2 : ∀ w, (Op.equalIn 10000 28 (.agg #[.int .i32 (A.cl 0), .int .i32 (A.cl 1), .int .i32 (A.cl 2), .int .i32 (A.cl 3)]) (.agg #[.int .i32 (B.cl 0), .int .i32 (B.cl 1), .int .i32 (B.cl 2), .int .i32 (B.cl 3)])).run Tryz.prog w = .ok (same4 A.cl B.cl) w := eqP _ _
  obtain ⟨p1, hp1⟩ : ∃ p, same4 A.po B.po = p := ⟨_, rfl⟩
  obtain ⟨p2, hp2⟩ : ∃ p, same4 A.cl B.cl = p := ⟨_, rfl⟩
  obtain ⟨p3, hp3⟩ : ∃ p, sameR V U = p := ⟨_, rfl⟩
  rw [hp1] at hE1 E
  rw [hp2] at hE2 E
  rw [hp3] at HV E
  clear hp1 hp2 hp3
  go_enter Tryz.func20, Tryz.ntmps20
  go_upto_region 1 with fail
  generalize hw2 : ((w.alloc (.cells (outA A) 36)).alloc (.cells (outA B) 36)) = w2 at HX HA HB
  try rw [show ((w.alloc (.cells (outA A) 36)).alloc (.cells (outA B) 36)) = w2 from hw2]
  clear hw2
  have HVX := hide (fun wx (hx : Ext w2 wx) => unhide HV wx ((unhide HX).trans hx))
  have HV2 := hide (unhide HVX w2 (Ext.refl _))
  obtain ⟨⟨a0, a1, a2, a3⟩, a4, a5, ⟨a6, a7, a8, a9⟩, a10⟩ := outA_cells (unhide HA)
  obtain ⟨⟨b0, b1, b2, b3⟩, b4, b5, ⟨b6, b7, b8, b9⟩, b10⟩ := outA_cells (unhide HB)
  rw [eA] at a5
  rw [eB] at b5
  clear HV HVX HA HB
  clear eA eB
  cases p1
  case false =>
    have E2 : Hid (z = false) := by rw [Hid, unhide E]; rfl
    clear E
    go_wp2
    go_ret
    rw [unhide E2]
    exact ⟨rfl, unhide HX⟩
  case true =>
  by_cases h4 : A.sz = B.sz
  case neg =>
    have d4 : (A.sz == B.sz) = false := by simp [h4]
    have E2 : Hid (z = false) := by rw [Hid, unhide E, d4]; rfl
    clear E h4
    go_wp2
    go_ret
    rw [unhide E2]
    exact ⟨rfl, unhide HX⟩
  case pos =>
  have d4 : (A.sz == B.sz) = true := by simp [h4]
  cases p2
  case false =>
    have E2 : Hid (z = false) := by rw [Hid, unhide E, d4]; rfl
    clear E h4
    go_wp2
    go_ret
    rw [unhide E2]
    exact ⟨rfl, unhide HX⟩
  case true =>
  by_cases h5 : A.dc = B.dc
  case neg =>
    have d5 : (A.dc == B.dc) = false := by simp [h5]
    have E2 : Hid (z = false) := by rw [Hid, unhide E, d4, d5]; rfl
    clear E h4 h5
    go_wp2
    go_ret
    rw [unhide E2]
    exact ⟨rfl, unhide HX⟩
  case pos =>
  have d5 : (A.dc == B.dc) = true := by simp [h5]
  have E2 : Hid (z = p3) := by rw [Hid, unhide E, d4, d5]; simp
  clear E h4 h5
  go_wp2_with (go_at_call 32; refine (unhide HV2).mono ?_; rintro e w3 ⟨rfl, hx3⟩; have X3 := hide hx3; clear hx3)
  go_ret
  rw [unhide E2]
  exact ⟨by simp, (unhide HX).trans (unhide X3)⟩

set_option maxRecDepth 10000 in
set_option maxHeartbeats 4000000 in
theorem ref15Same_any (A B : OutC) (V U : List (Nat → Int)) (w : World) (hA : VRow w A.vy V) (hB : VRow w B.vy U) (hlen : V.length ≤ 1000000) :
    Calls Tryz.prog 17 #[.agg (outA A), .agg (outA B)] w fun e w' => e = .returned (.bool (sameO A B V U)) ∧ Ext w w' := by
  have HX := hide (show Ext w ((w.alloc (.cells (outA A) 36)).alloc (.cells (outA B) 36)) from ((Ext.refl w).alloc _).alloc _)
  have HA := hide (show Blk ((w.alloc (.cells (outA A) 36)).alloc (.cells (outA B) 36)) w.heap.size (outA A) 36 from (Blk.new w _ _).alloc _)
  have HB := hide (show Blk ((w.alloc (.cells (outA A) 36)).alloc (.cells (outA B) 36)) (w.heap.size + 1) (outA B) 36 from Blk.at (by simp))
  obtain ⟨aa, ca, eA⟩ := hA.shape
  obtain ⟨ab, cb, eB⟩ := hB.shape
  have HRV : Hid (VRow ((w.alloc (.cells (outA A) 36)).alloc (.cells (outA B) 36)) (.slice aa V.length ca) V) := by rw [← eA]; exact hA.ext (unhide HX)
  have HRU : Hid (VRow ((w.alloc (.cells (outA A) 36)).alloc (.cells (outA B) 36)) (.slice ab U.length cb) U) := by rw [← eB]; exact hB.ext (unhide HX)
  have E := hide (show sameO A B V U = (same4 A.po B.po && ((A.sz == B.sz) && (same4 A.cl B.cl && ((A.dc == B.dc) && sameR V U)))) from rfl)
  have HSR := hide (show sameR V U = decide (V.map l4 = U.map l4) from rfl)
  obtain ⟨z, hz⟩ : ∃ z, sameO A B V U = z := ⟨_, rfl⟩
  rw [hz] at E ⊢
  clear hA hB hz
  have hE1 : ∀ w, (Op.equalIn 10000 28 (.agg #[.int .i32 (A.po 0), .int .i32 (A.po 1), .int .i32 (A.po 2), .int .i32 (A.po 3)]) (.agg #[.int .i32 (B.po 0), .int .i32 (B.po 1), .int .i32 (B.po 2), .int .i32 (B.po 3)])).run Tryz.prog w = .ok (same4 A.po B.po) w := eqP _ _
  have hE2 : ∀ w, (Op.equalIn 10000 28 (.agg #[.int .i32 (A.cl 0), .int .i32 (A.cl 1), .int .i32 (A.cl 2), .int .i32 (A.cl 3)]) (.agg #[.int .i32 (B.cl 0), .int .i32 (B.cl 1), .int .i32 (B.cl 2), .int .i32 (B.cl 3)])).run Tryz.prog w = .ok (same4 A.cl B.cl) w := eqP _ _
  obtain ⟨p1, hp1⟩ : ∃ p, same4 A.po B.po = p := ⟨_, rfl⟩
  obtain ⟨p2, hp2⟩ : ∃ p, same4 A.cl B.cl = p := ⟨_, rfl⟩
  obtain ⟨p3, hp3⟩ : ∃ p, sameR V U = p := ⟨_, rfl⟩
  rw [hp1] at hE1 E
  rw [hp2] at hE2 E
  rw [hp3] at HSR E
  clear hp1 hp2 hp3
  go_enter Tryz.func17, Tryz.ntmps17
  go_upto_region 1 with fail
  generalize hw2 : ((w.alloc (.cells (outA A) 36)).alloc (.cells (outA B) 36)) = w2 at HX HA HB HRV HRU
  try rw [show ((w.alloc (.cells (outA A) 36)).alloc (.cells (outA B) 36)) = w2 from hw2]
  clear hw2
  obtain ⟨⟨a0, a1, a2, a3⟩, a4, a5, ⟨a6, a7, a8, a9⟩, a10⟩ := outA_cells (unhide HA)
  obtain ⟨⟨b0, b1, b2, b3⟩, b4, b5, ⟨b6, b7, b8, b9⟩, b10⟩ := outA_cells (unhide HB)
  rw [eA] at a5
  rw [eB] at b5
  clear HA HB eA eB
  by_cases el : V.length = U.length
  case neg =>
    have E2 : Hid (z = false) := by
      have : p3 = false := by rw [unhide HSR]; exact decide_eq_false (fun c => el (by simpa using congrArg List.length c))
      rw [Hid, unhide E, this]
      simp
    have d0 : ((V.length : Int) != (U.length : Int)) = true := by simp; omega
    clear el E HSR
    go_wp2
    go_ret
    rw [unhide E2]
    exact ⟨rfl, unhide HX⟩
  case pos =>
  have HL := hide el
  have d0 : ((V.length : Int) != (U.length : Int)) = false := by simp [el]
  clear el
  go_wp2
  go_loopw [5] (fun iv wr => ∃ k n : Nat, k ≤ V.length ∧ iv = .int .i64 (k : Int) ∧ wr = w2.drewN n ∧ Hid ((V.take k).map l4 = (U.take k).map l4)) (fun iv _ => V.length - (intOf iv).toNat)
  case atStart => exact ⟨0, 0, Nat.zero_le _, rfl, rfl, rfl⟩
  case round =>
    obtain ⟨k, n, hk, rfl, rfl, HT⟩ := hrel
    by_cases hlt : k < V.length
    · have hkn : (k : Int) < (V.length : Int) := by omega
      have hkM : k < U.length := by rw [← unhide HL]; exact hlt
      have hkMi : (k : Int) < (U.length : Int) := by omega
      obtain ⟨b, off, ea, x0, x1, x2, x3⟩ := (unhide HRV).cells k hlt
      obtain ⟨b', off', ea', y0, y1, y2, y3⟩ := (unhide HRU).cells k hkM
      subst ea
      subst ea'
      obtain ⟨x, hx⟩ : ∃ x, V[k] = x := ⟨_, rfl⟩
      obtain ⟨y, hy⟩ : ∃ y, U[k] = y := ⟨_, rfl⟩
      rw [hx] at x0 x1 x2 x3
      rw [hy] at y0 y1 y2 y3
      have HNE : Hid (same4 x y = false → p3 = false) := fun hne => by
        rw [unhide HSR]
        refine decide_eq_false fun c => ?_
        have h1 : (V.map l4)[k]? = (U.map l4)[k]? := by rw [c]
        rw [List.getElem?_map, List.getElem?_map, List.getElem?_eq_getElem hlt, List.getElem?_eq_getElem hkM, hx, hy] at h1
        have h2 := (same4_iff x y).2 (by simpa using h1)
        rw [hne] at h2
        cases h2
      have HEQ : Hid (same4 x y = true → (V.take (k + 1)).map l4 = (U.take (k + 1)).map l4) := fun heq => by
        rw [List.take_succ_eq_append_getElem hlt, List.take_succ_eq_append_getElem hkM, List.map_append, List.map_append, unhide HT, hx, hy, List.map_cons, List.map_cons, (same4_iff x y).1 heq]
      have hE3 : ∀ w, (Op.equalIn 10000 28 (.agg #[.int .i32 (x 0), .int .i32 (x 1), .int .i32 (x 2), .int .i32 (x 3)]) (.agg #[.int .i32 (y 0), .int .i32 (y 1), .int .i32 (y 2), .int .i32 (y 3)])).run Tryz.prog w = .ok (same4 x y) w := eqP x y
      clear hx hy
      obtain ⟨p, hp⟩ : ∃ p, same4 x y = p := ⟨_, rfl⟩
      rw [hp] at HNE HEQ hE3
      clear hp
      cases p
      case false =>
        have E2 : Hid (z = false) := by rw [Hid, unhide E, unhide HNE rfl]; simp
        clear HNE HEQ
        go_upto_region 6 with fail
        go_quiet (fail)
        go_wp2
        go_ret
        rw [unhide E2]
        exact ⟨rfl, ((unhide HX).drewN n).drewN _⟩
      case true =>
        have E2 := hide (unhide HEQ rfl)
        clear HNE HEQ
        go_upto_region 6 with fail
        go_quiet (fail)
        go_wp2
        go_roundw
        case rel => exact ⟨k + 1, n + nq, by omega, by go_num, by first | rfl | exact drewN_drewN _ _ _, unhide E2⟩
        case measure => simp [intOf]; omega
    · obtain rfl : k = V.length := by omega
      have E3 : Hid (p3 = true) := by
        rw [Hid, unhide HSR]
        have h1 := unhide HT
        rw [List.take_of_length_le (by omega), List.take_of_length_le (by rw [unhide HL]; omega)] at h1
        exact decide_eq_true h1
      have E4 : Hid (z = (p1 && ((A.sz == B.sz) && (p2 && (A.dc == B.dc))))) := by rw [Hid, unhide E, unhide E3, Bool.and_true]
      clear HT E E3
      have HX9 := hide ((unhide HX).drewN n)
      cases p1
      case false =>
        have E2 : Hid (z = false) := by rw [Hid, unhide E4]; rfl
        clear E4
        go_wp2
        go_ret
        rw [unhide E2]
        exact ⟨rfl, unhide HX9⟩
      case true =>
      by_cases h4 : A.sz = B.sz
      case neg =>
        have d4 : (A.sz == B.sz) = false := by simp [h4]
        have E2 : Hid (z = false) := by rw [Hid, unhide E4, d4]; rfl
        clear E4 h4
        go_wp2
        go_ret
        rw [unhide E2]
        exact ⟨rfl, unhide HX9⟩
      case pos =>
      have d4 : (A.sz == B.sz) = true := by simp [h4]
      cases p2
      case false =>
        have E2 : Hid (z = false) := by rw [Hid, unhide E4, d4]; rfl
        clear E4 h4
        go_wp2
        go_ret
        rw [unhide E2]
        exact ⟨rfl, unhide HX9⟩
      case true =>
      obtain ⟨p5, hp5⟩ : ∃ p, (A.dc == B.dc) = p := ⟨_, rfl⟩
      have E2 : Hid (z = p5) := by rw [Hid, unhide E4, d4, hp5]; simp
      clear E4 h4
      go_wp2
      go_ret
      rw [unhide E2]
      exact ⟨by first | rfl | simp, unhide HX9⟩
end Go.Proofs.YtglfhmlcmffoaaaGreat

/-
  A region that draws its order: a load may be taken first where its cell is written only by operations that wait for it. The condition on the world hangs on what has come up.
-/
namespace Go.Proofs.YtglfhmlcmffoaaaGreat
open Go.RowKit
set_option linter.unusedVariables false
set_option linter.unusedSimpArgs false

section
variable {P : Program} {ops : Array Oper} {Q : Exit → Act → World → Prop} {md : Region.Mode} {S : Array Bool → World → Prop}

/-- Whatever order is picked from here on, and S holds of what has come up and of the world behind every operation. -/
def wpAnyL (P : Program) (md : Region.Mode) (ops : Array Oper) (Q : Exit → Act → World → Prop) (S : Array Bool → World → Prop) : Nat → Array Bool → Act → World → Prop
  | 0, listed, a, w => Region.ready md ops listed = [] ∧ Q .normal a w
  | fuel + 1, listed, a, w =>
    (Region.ready md ops listed = [] → Q .normal a w) ∧
    ∀ i ∈ Region.ready md ops listed, wpOp P ops Q i (fun a' w' => S (listed.setIfInBounds i true) w' ∧ wpAnyL P md ops Q S fuel (listed.setIfInBounds i true) a' w') a w

theorem wpAny_of_L : ∀ (fuel : Nat) (listed : Array Bool) (a : Act) (w : World), wpAnyL P md ops Q S fuel listed a w → wpAny P md ops Q fuel listed a w
  | 0, _, _, _, h => h
  | fuel + 1, _, _, _, h => ⟨h.1, fun i hi => wpOp_mono (fun a' w' h' => wpAny_of_L fuel _ a' w' h'.2) (h.2 i hi)⟩

theorem wpAnyL_first {i : Nat} {oi : Oper} {v : Value} {SY : World → Prop} {ds : List Nat} (hi : ops[i]? = some oi) (hsel : ∀ (j : Nat) (o : Oper) cs b, ops[j]? = some o → o.op ≠ .select cs b)
    (hQ : ∀ c a w, Q (.panic c) (a.put oi.dst v) w → Q (.panic c) a w) (hind : ∀ L w, S (L.setIfInBounds i true) w → S L w)
    (hSY : ∀ L w, (∀ s ∈ ds, L.getD s true = false) → S L w → SY w)
    (hdep : ∀ s ∈ ds, ∃ os, ops[s]? = some os ∧ ∃ e ∈ os.after, Region.binds md e = true ∧ e.on = i) :
    ∀ (fuel : Nat) (listed : Array Bool) (a : Act) (w : World),
      (∀ j oj, ops[j]? = some oj → j ≠ i → listed.getD j true = false → (∀ e ∈ oj.after, Region.binds md e = true → e.on ≠ i) → oi.apart ops oj = true) →
      i ∈ Region.ready md ops listed → (∀ s ∈ ds, listed.getD s true = false) → YieldsIf P ops SY oi v a → SY w → S (listed.setIfInBounds i true) w →
      wpAnyL P md ops Q S fuel (listed.setIfInBounds i true) (a.put oi.dst v) w → wpAnyL P md ops Q S (fuel + 1) listed a w := by
  intro fuel
  induction fuel with
  | zero =>
    intro listed a w _ hr hds hy hSw hS0 H
    refine ⟨fun h => (by rw [h] at hr; cases hr), fun j hj => ?_⟩
    by_cases hji : j = i
    · subst hji; exact hy.wpOp hi hSw ⟨hS0, H⟩
    · have := ready_mono hj hji
      rw [H.1] at this
      cases this
  | succ fuel ih =>
    intro listed a w hfree hr hds hy hSw hS0 H
    refine ⟨fun h => (by rw [h] at hr; cases hr), fun j hj => ?_⟩
    by_cases hji : j = i
    · subst hji; exact hy.wpOp hi hSw ⟨hS0, H⟩
    · have h1 := H.2 j (ready_mono hj hji)
      obtain ⟨hjun, oj, hoj, hall⟩ := mem_ready.1 hj
      have hnot : ∀ e ∈ oj.after, Region.binds md e = true → e.on ≠ i := fun e he hb heq => by
        have h1 := hall e he hb
        have h0 := (mem_ready.1 hr).1
        rw [heq] at h1
        rcases Nat.lt_or_ge i listed.size with h' | h'
        · simp [h'] at h0 h1; rw [h0] at h1; cases h1
        · simp [Array.getElem?_eq_none h'] at h1
      have hjs : ∀ s ∈ ds, j ≠ s := fun s hs e => by
        obtain ⟨os, hos, e2, he2, hb2, ho2⟩ := hdep s hs
        subst e
        rw [hoj] at hos
        cases hos
        exact hnot e2 he2 hb2 ho2
      have h2 := wpOp_putIf hoj (hfree j oj hoj hji hjun hnot) (fun cs b => hsel i oi cs b hi) (fun cs b => hsel j oj cs b hoj) hQ hy h1
      have hfree' : ∀ k ok, ops[k]? = some ok → k ≠ i → (listed.setIfInBounds j true).getD k true = false →
          (∀ e ∈ ok.after, Region.binds md e = true → e.on ≠ i) → oi.apart ops ok = true := fun k ok hk hki hun hno => by
        refine hfree k ok hk hki ?_ hno
        by_cases hjk : j = k
        · subst hjk; exact hjun
        · rw [getD_set_ne true hjk] at hun; exact hun
      have hds' : ∀ s ∈ ds, (listed.setIfInBounds j true).getD s true = false := fun s hs => by
        rw [getD_set_ne true (hjs s hs)]
        exact hds s hs
      have hcm : (listed.setIfInBounds i true).setIfInBounds j true = (listed.setIfInBounds j true).setIfInBounds i true := Array.setIfInBounds_comm _ _ (Ne.symm hji)
      rw [hcm] at h2
      exact wpOp_mono (fun a' w' h3 => ⟨hind _ _ h3.2.1, ih (listed.setIfInBounds j true) a' w' hfree' (ready_mono hr (Ne.symm hji)) hds' h3.1 (hSY _ _ hds' (hind _ _ h3.2.1)) h3.2.1 h3.2.2⟩) h2

/-- Number i may be taken first: it may come up, its value is the same in every world that it can meet, and nobody who could come before it touches its temporaries. -/
theorem wpAnyL_take {i : Nat} {oi : Oper} {v : Value} (SY : World → Prop) (ds : List Nat) {fuel : Nat} {listed : Array Bool} {a : Act} {w : World} (hi : ops[i]? = some oi)
    (hs : Region.noSelect ops = true) (hf : Region.free md ops listed i = true) (hr : (Region.ready md ops listed).contains i = true)
    (hdp : ds.all (fun s => (ops[s]?.map (fun o => o.after.any (fun e => Region.binds md e && e.on == i))).getD false) = true) (hun : ds.all (fun s => !(listed.getD s true)) = true)
    (hQ : ∀ c a w, Q (.panic c) (a.put oi.dst v) w → Q (.panic c) a w) (hind : ∀ L w, S (L.setIfInBounds i true) w → S L w)
    (hSY : ∀ L w, (∀ s ∈ ds, L.getD s true = false) → S L w → SY w)
    (hy : YieldsIf P ops SY oi v a) (hS : S listed w) (hS1 : S (listed.setIfInBounds i true) w)
    (h : wpAnyL P md ops Q S fuel (listed.setIfInBounds i true) (a.put oi.dst v) w) : wpAnyL P md ops Q S (fuel + 1) listed a w := by
  have hds : ∀ s ∈ ds, listed.getD s true = false := fun s hs => by
    have := List.all_eq_true.1 hun s hs
    simpa using this
  refine wpAnyL_first hi (Region.noSelect_spec hs) hQ hind hSY (fun s hs => ?_) fuel listed a w (Region.free_spec hi hf) (by simpa using hr) hds hy (hSY _ _ hds hS) hS1 h
  have := List.all_eq_true.1 hdp s hs
  cases ho : ops[s]? with
  | none => rw [ho] at this; simp at this
  | some os =>
    rw [ho] at this
    simp only [Option.map_some, Option.getD_some, Array.any_eq_true', Bool.and_eq_true, beq_iff_eq] at this
    obtain ⟨e, he, hb, ho2⟩ := this
    exact ⟨os, rfl, e, he, hb, ho2⟩

/-- Only one may come up. -/
theorem wpAnyL_one {i : Nat} {o : Oper} {fuel : Nat} {listed : Array Bool} {a : Act} {w : World} (hr : Region.ready md ops listed = [i]) (hi : ops[i]? = some o) (hw : Region.wanted o (yielded ops a.tmps) = true)
    (h : o.wp P a w (fun a' w' => S (listed.setIfInBounds i true) w' ∧ wpAnyL P md ops Q S fuel (listed.setIfInBounds i true) a' w') Q) : wpAnyL P md ops Q S (fuel + 1) listed a w := by
  refine ⟨fun h0 => (by rw [hr] at h0; cases h0), fun j hj => ?_⟩
  rw [hr] at hj
  obtain rfl : j = i := by simpa using hj
  unfold wpOp
  simp only [hi, hw, if_true]
  exact .inl h
/-- The same, what follows under a name. -/
theorem wpAnyL_next {i : Nat} {o : Oper} {fuel : Nat} {listed : Array Bool} {a : Act} {w : World} (hr : Region.ready md ops listed = [i]) (hi : ops[i]? = some o) (hw : Region.wanted o (yielded ops a.tmps) = true)
    (h : ∀ K : Act → World → Prop, Hid (∀ a' w', S (listed.setIfInBounds i true) w' → wpAnyL P md ops Q S fuel (listed.setIfInBounds i true) a' w' → K a' w') → o.wp P a w K Q) : wpAnyL P md ops Q S (fuel + 1) listed a w :=
  wpAnyL_one hr hi hw (h _ (fun _ _ h1 h2 => ⟨h1, h2⟩))
theorem wpAnyL_done {listed : Array Bool} {a : Act} {w : World} (hr : Region.ready md ops listed = []) (h : Q .normal a w) :
    ∀ fuel, wpAnyL P md ops Q S fuel listed a w
  | 0 => ⟨hr, h⟩
  | _ + 1 => ⟨fun _ => h, by rw [hr]; simp⟩
theorem wp_regionL {id : Nat} {a : Act} {w : World} (hm : P.follows .mixedOrders = true)
    (h : wpAnyL P .any ops Q S ops.size (Array.replicate ops.size false) a w.drew) : (Code.region id ops true).wp P Q a w :=
  wp_region_any hm (wpAny_of_L _ _ _ _ h)
end
end Go.Proofs.YtglfhmlcmffoaaaGreat

/-
  What holds as long as a store has not come up, for regions that draw. Nothing here speaks of the program.
-/
namespace Go.Proofs.YtglfhmlcmffoaaaGreat
open Go.RowKit
set_option linter.unusedVariables false
set_option linter.unusedSimpArgs false

/-- What holds as long as a store has not come up. -/
def SL (s1 s2 s3 : Nat) (F1 F2 F3 : World → Prop) (L : Array Bool) (w : World) : Prop := (L.getD s1 true = false → F1 w) ∧ (L.getD s2 true = false → F2 w) ∧ (L.getD s3 true = false → F3 w)
theorem SL.ind {s1 s2 s3 i : Nat} {F1 F2 F3 : World → Prop} (h1 : i ≠ s1) (h2 : i ≠ s2) (h3 : i ≠ s3) : ∀ L w, SL s1 s2 s3 F1 F2 F3 (L.setIfInBounds i true) w → SL s1 s2 s3 F1 F2 F3 L w := fun L w h =>
  ⟨fun e => h.1 (by rw [getD_set_ne true h1]; exact e), fun e => h.2.1 (by rw [getD_set_ne true h2]; exact e), fun e => h.2.2 (by rw [getD_set_ne true h3]; exact e)⟩
theorem SL.all {s1 s2 s3 : Nat} {F1 F2 F3 : World → Prop} {L : Array Bool} {w : World} (h1 : F1 w) (h2 : F2 w) (h3 : F3 w) : SL s1 s2 s3 F1 F2 F3 L w := ⟨fun _ => h1, fun _ => h2, fun _ => h3⟩
theorem SL.get1 {s1 s2 s3 : Nat} {F1 F2 F3 : World → Prop} : ∀ L w, (∀ s ∈ [s1], L.getD s true = false) → SL s1 s2 s3 F1 F2 F3 L w → F1 w := fun L w h hS => hS.1 (h s1 (by simp))
theorem SL.get2 {s1 s2 s3 : Nat} {F1 F2 F3 : World → Prop} : ∀ L w, (∀ s ∈ [s2], L.getD s true = false) → SL s1 s2 s3 F1 F2 F3 L w → F2 w := fun L w h hS => hS.2.1 (h s2 (by simp))
theorem SL.get3 {s1 s2 s3 : Nat} {F1 F2 F3 : World → Prop} : ∀ L w, (∀ s ∈ [s3], L.getD s true = false) → SL s1 s2 s3 F1 F2 F3 L w → F3 w := fun L w h hS => hS.2.2 (h s3 (by simp))
theorem cell_ne (w : World) (g i j : Nat) (v : Value) (h : j ≠ i) : (w.setCell ⟨g, i, none⟩ v).cell? ⟨g, j, none⟩ = w.cell? ⟨g, j, none⟩ := by
  apply World.cell?_setCell_other
  intro e
  cases e
  exact h rfl
theorem froz_set (w : World) (p q : Addr) (v : Value) : (w.setCell p v).frozen? q = w.frozen? q := World.frozen?_setCell _ _ _ _
theorem getD_self (L : Array Bool) (i : Nat) : (L.setIfInBounds i true).getD i true = true := by
  rcases Nat.lt_or_ge i L.size with h | h
  · simp [h]
  · simp [Array.getElem?_eq_none (by simpa using h : (L.setIfInBounds i true).size ≤ i)]
theorem SL.mk1 {s1 s2 s3 : Nat} {F1 F2 F3 : World → Prop} {L : Array Bool} {w : World} (b1 : L.getD s1 true = true) (h2 : F2 w) (h3 : F3 w) : SL s1 s2 s3 F1 F2 F3 L w := ⟨fun e => (by rw [b1] at e; cases e), fun _ => h2, fun _ => h3⟩
theorem SL.mk2 {s1 s2 s3 : Nat} {F1 F2 F3 : World → Prop} {L : Array Bool} {w : World} (b1 : L.getD s1 true = true) (b2 : L.getD s2 true = true) (h3 : F3 w) : SL s1 s2 s3 F1 F2 F3 L w := ⟨fun e => (by rw [b1] at e; cases e), fun e => (by rw [b2] at e; cases e), fun _ => h3⟩
theorem SL.mk3 {s1 s2 s3 : Nat} {F1 F2 F3 : World → Prop} {L : Array Bool} {w : World} (b1 : L.getD s1 true = true) (b2 : L.getD s2 true = true) (b3 : L.getD s3 true = true) : SL s1 s2 s3 F1 F2 F3 L w := ⟨fun e => (by rw [b1] at e; cases e), fun e => (by rw [b2] at e; cases e), fun e => (by rw [b3] at e; cases e)⟩
end Go.Proofs.YtglfhmlcmffoaaaGreat
