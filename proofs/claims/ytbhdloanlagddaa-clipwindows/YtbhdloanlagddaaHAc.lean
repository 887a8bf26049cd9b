/-
  Corners: the walks of Distance, lie, alike and Right. What the dump lacks is left out.
-/
import Derived.Test.YtbhdloanlagddaaHAb
import Derived.Test.YtbhdloanlagddaaVE
import Derived.Deep.RegionHeld3
import Derived.Deep.DeepCutAuto
import Derived.BigQuiet
namespace Go.Proofs.Ytbhdloanlagddaa
open Go.RowKit
set_option linter.unusedVariables false
set_option linter.unusedSimpArgs false

theorem seven (n : Int) : n = 0 ∨ n = 1 ∨ n = 2 ∨ n = 3 ∨ n = 4 ∨ n = 5 ∨ n = 6 ∨ ((n == 0) = false ∧ (n == 1) = false ∧ (n == 2) = false ∧ (n == 3) = false ∧ (n == 4) = false ∧ (n == 5) = false ∧ (n == 6) = false) := by
  simp only [beq_eq_false_iff_ne]
  omega
theorem clD_off {p : Nat → Int} {n : Int} (h : (n == 0) = false ∧ (n == 1) = false ∧ (n == 2) = false ∧ (n == 3) = false ∧ (n == 4) = false ∧ (n == 5) = false ∧ (n == 6) = false) : clD p n = 0 ∧ clE n = 2 := by
  simp only [beq_eq_false_iff_ne] at h
  obtain ⟨h0, h1, h2, h3, h4, h5, h6⟩ := h
  unfold clD clE
  rw [if_neg h0, if_neg h1, if_neg h2, if_neg h3, if_neg h4, if_neg h5, if_neg h6, if_neg (by omega)]
  exact ⟨rfl, rfl⟩
theorem one32 : I32 1 := by unfold I32; omega

set_option maxRecDepth 10000 in
set_option maxHeartbeats 4000000 in
theorem dist_any (p : Vt) (u : Value) (n : Int) (w : World) (hI : ∀ i, I32 (p.p i)) :
    Calls Try.prog 22 #[.agg #[.int .i32 (Vt.p p 0), .int .i32 (Vt.p p 1), .int .i32 (Vt.p p 2), .int .i32 (Vt.p p 3), .int .i32 (Vt.s p), u], .int .i64 n] w fun e w' => e = .returned (.tuple #[.int .i32 (clD p.p n), .int .i64 (clE n)]) ∧ Ext w w' := by
  have HI := hide hI
  have hB : Blk (w.alloc (.cells #[.int .i32 (Vt.p p 0), .int .i32 (Vt.p p 1), .int .i32 (Vt.p p 2), .int .i32 (Vt.p p 3), .int .i32 (Vt.s p), u] 29)) w.heap.size #[.int .i32 (Vt.p p 0), .int .i32 (Vt.p p 1), .int .i32 (Vt.p p 2), .int .i32 (Vt.p p 3), .int .i32 (Vt.s p), u] 29 := Blk.new _ _ _
  have c0 := hB.cell (i := 0) rfl
  have c1 := hB.cell (i := 1) rfl
  have c2 := hB.cell (i := 2) rfl
  have c3 := hB.cell (i := 3) rfl
  have hX : Ext w (w.alloc (.cells #[.int .i32 (Vt.p p 0), .int .i32 (Vt.p p 1), .int .i32 (Vt.p p 2), .int .i32 (Vt.p p 3), .int .i32 (Vt.s p), u] 29)) := (Ext.refl w).alloc _
  have HX := hide hX
  clear hI hB hX
  rcases seven n with rfl | rfl | rfl | rfl | rfl | rfl | rfl | hn
  · rw [show clD p.p 0 = subI (p.p 3) 1 from rfl, show clE 0 = 0 from rfl]
    go_enter Try.func22, Try.ntmps22
    go_wp2_with fail
    go_quiet (fail)
    go_wp2_with (go_at_call 37; refine (sub_any _ _ _ (unhide HI 3) one32).mono ?_; rintro e w' ⟨rfl, rfl⟩)
    refine bodyPost_ret (v := .tuple #[.int .i32 (subI (p.p 3) 1), .int .i64 0]) (by simp [results, Try.results22, go_sem]) rfl ⟨rfl, (unhide HX).drewN _⟩
  · rw [show clD p.p 1 = addI (p.p 3) (p.p 0) from rfl, show clE 1 = 0 from rfl]
    go_enter Try.func22, Try.ntmps22
    go_wp2_with fail
    go_quiet (fail)
    go_wp2_with (go_at_call 38; refine (add_any _ _ _ (unhide HI 3) (unhide HI 0)).mono ?_; rintro e w' ⟨rfl, rfl⟩)
    refine bodyPost_ret (v := .tuple #[.int .i32 (addI (p.p 3) (p.p 0)), .int .i64 0]) (by simp [results, Try.results22, go_sem]) rfl ⟨rfl, (unhide HX).drewN _⟩
  · rw [show clD p.p 2 = subI (p.p 3) (p.p 0) from rfl, show clE 2 = 0 from rfl]
    go_enter Try.func22, Try.ntmps22
    go_wp2_with fail
    go_quiet (fail)
    go_wp2_with (go_at_call 37; refine (sub_any _ _ _ (unhide HI 3) (unhide HI 0)).mono ?_; rintro e w' ⟨rfl, rfl⟩)
    refine bodyPost_ret (v := .tuple #[.int .i32 (subI (p.p 3) (p.p 0)), .int .i64 0]) (by simp [results, Try.results22, go_sem]) rfl ⟨rfl, (unhide HX).drewN _⟩
  · rw [show clD p.p 3 = addI (p.p 3) (p.p 1) from rfl, show clE 3 = 0 from rfl]
    go_enter Try.func22, Try.ntmps22
    go_wp2_with fail
    go_quiet (fail)
    go_wp2_with (go_at_call 38; refine (add_any _ _ _ (unhide HI 3) (unhide HI 1)).mono ?_; rintro e w' ⟨rfl, rfl⟩)
    refine bodyPost_ret (v := .tuple #[.int .i32 (addI (p.p 3) (p.p 1)), .int .i64 0]) (by simp [results, Try.results22, go_sem]) rfl ⟨rfl, (unhide HX).drewN _⟩
  · rw [show clD p.p 4 = subI (p.p 3) (p.p 1) from rfl, show clE 4 = 0 from rfl]
    go_enter Try.func22, Try.ntmps22
    go_wp2_with fail
    go_quiet (fail)
    go_wp2_with (go_at_call 37; refine (sub_any _ _ _ (unhide HI 3) (unhide HI 1)).mono ?_; rintro e w' ⟨rfl, rfl⟩)
    refine bodyPost_ret (v := .tuple #[.int .i32 (subI (p.p 3) (p.p 1)), .int .i64 0]) (by simp [results, Try.results22, go_sem]) rfl ⟨rfl, (unhide HX).drewN _⟩
  · rw [show clD p.p 5 = addI (p.p 3) (p.p 2) from rfl, show clE 5 = 0 from rfl]
    go_enter Try.func22, Try.ntmps22
    go_wp2_with fail
    go_quiet (fail)
    go_wp2_with (go_at_call 38; refine (add_any _ _ _ (unhide HI 3) (unhide HI 2)).mono ?_; rintro e w' ⟨rfl, rfl⟩)
    refine bodyPost_ret (v := .tuple #[.int .i32 (addI (p.p 3) (p.p 2)), .int .i64 0]) (by simp [results, Try.results22, go_sem]) rfl ⟨rfl, (unhide HX).drewN _⟩
  · rw [show clD p.p 6 = subI (p.p 3) (p.p 2) from rfl, show clE 6 = 0 from rfl]
    go_enter Try.func22, Try.ntmps22
    go_wp2_with fail
    go_quiet (fail)
    go_wp2_with (go_at_call 37; refine (sub_any _ _ _ (unhide HI 3) (unhide HI 2)).mono ?_; rintro e w' ⟨rfl, rfl⟩)
    refine bodyPost_ret (v := .tuple #[.int .i32 (subI (p.p 3) (p.p 2)), .int .i64 0]) (by simp [results, Try.results22, go_sem]) rfl ⟨rfl, (unhide HX).drewN _⟩
  · rw [(clD_off (p := p.p) hn).1, (clD_off (p := p.p) hn).2]
    obtain ⟨h0, h1, h2, h3, h4, h5, h6⟩ := hn
    go_enter Try.func22, Try.ntmps22
    go_wp2_with fail
    go_quiet (fail)
    go_wp2
    refine bodyPost_ret (v := .tuple #[.int .i32 (0), .int .i64 2]) (by simp [results, Try.results22, go_sem]) rfl ⟨rfl, (unhide HX).drewN _⟩

/-- The cells of a row of corners. -/
theorem vt_all {ao : Option Addr} {n cap : Nat} {w : World} {R : List Vx} (h : SR vxC 6 w (.slice ao n cap) R) (h0 : 0 < R.length) : ∃ b off, ao = some ⟨b, off, none⟩ ∧ ∀ i (hi : i < R.length) wx, Ext w wx →
    (wx.cell? ⟨b, off + i * 6, none⟩ = some (.int .i32 (R[i].1.p 0)) ∧ wx.cell? ⟨b, off + i * 6 + 1, none⟩ = some (.int .i32 (R[i].1.p 1)) ∧ wx.cell? ⟨b, off + i * 6 + 2, none⟩ = some (.int .i32 (R[i].1.p 2)) ∧ wx.cell? ⟨b, off + i * 6 + 3, none⟩ = some (.int .i32 (R[i].1.p 3)) ∧ wx.cell? ⟨b, off + i * 6 + 4, none⟩ = some (.int .i32 R[i].1.s) ∧ wx.cell? ⟨b, off + i * 6 + 5, none⟩ = some R[i].2) := by
  obtain ⟨b, off, rfl, hc⟩ := h.all h0
  exact ⟨b, off, rfl, fun i hi wx hx => ⟨hc i hi wx hx 0 _ rfl, hc i hi wx hx 1 _ rfl, hc i hi wx hx 2 _ rfl, hc i hi wx hx 3 _ rfl, hc i hi wx hx 4 _ rfl, hc i hi wx hx 5 _ rfl⟩⟩
/-- Do all lie within? -/
def allX (R : List Vx) (n : Int) : Bool := R.all fun x => clI x.1.p n
theorem allX_map (R : List Vx) (n : Int) : allIn (R.map Prod.fst) n = allX R n := by unfold allIn allX; rw [List.all_map]; rfl
theorem take_succ_all {α : Type} (f : α → Bool) (R : List α) (k : Nat) (hk : k < R.length) : (R.take (k + 1)).all f = ((R.take k).all f && f R[k]) := by
  rw [List.take_succ_eq_append_getElem hk, List.all_append]
  simp
theorem all_no {α : Type} (f : α → Bool) (R : List α) (k : Nat) (hk : k < R.length) (h : f R[k] = false) : R.all f = false := by
  rw [List.all_eq_false]
  exact ⟨R[k], List.getElem_mem hk, by rw [h]; simp⟩

set_option maxRecDepth 10000 in
set_option maxHeartbeats 4000000 in
theorem lie_any (n : Int) (v : Value) (R : List Vx) (w : World) (hr : SR vxC 6 w v R) (hq : ∀ x ∈ R, ∃ ao cap, x.2 = .slice ao x.1.vs.length cap) (hI : ∀ x ∈ R, ∀ i, I32 (x.1.p i)) (hl : R.length ≤ 1000000000000) :
    Calls Try.prog 32 #[.int .i64 n, v] w fun e w' => e = .returned (.bool (allX R n)) ∧ Ext w w' := by
  obtain ⟨ao, cap, rfl, h1, h2, h3, _⟩ := id hr
  have HR := hide hr
  have HI := hide hI
  have HQ := hide hq
  clear h1 h2 h3 hr hI hq
  go_enter Try.func32, Try.ntmps32
  go_wp2_with fail
  go_loopw [11] (fun iv wr => ∃ k : Nat, k ≤ R.length ∧ iv = .int .i64 (k : Int) ∧ Ext w wr ∧ Hid ((R.take k).all (fun x => clI x.1.p n) = true)) (fun iv _ => R.length - (intOf iv).toNat)
  case atStart => exact ⟨0, Nat.zero_le _, rfl, Ext.refl w, by simp [Hid]⟩
  case round =>
    obtain ⟨k, hk, rfl, hX, HT⟩ := hrel
    have HX := hide hX
    clear hX
    by_cases hlt : k < R.length
    · have hkn : (k : Int) < (R.length : Int) := by omega
      obtain ⟨b, off, ea, hc⟩ := vt_all (unhide HR) (by omega)
      subst ea
      obtain ⟨c0, c1, c2, c3, c4, c5⟩ := hc k hlt wr (unhide HX)
      have HM := hide (unhide HI _ (List.getElem_mem hlt))
      have HN := hide (fun h => all_no (fun x => clI x.1.p n) R k hlt h)
      have HS := hide (take_succ_all (fun x => clI x.1.p n) R k hlt)
      have HD := hide (fun (u : Value) (wx : World) => dist_any R[k].1 u n wx (unhide HM))
      obtain ⟨ak, ck, ek⟩ := unhide HQ _ (List.getElem_mem hlt)
      generalize R[k] = x at *
      clear hc
      obtain ⟨x, u⟩ := x
      simp only at c0 c1 c2 c3 c4 c5 ek
      obtain rfl : u = .slice ak x.vs.length ck := ek
      simp only at HN HS HD
      have hB : Blk (wr.alloc (.cells #[.int .i32 (Vt.p x 0), .int .i32 (Vt.p x 1), .int .i32 (Vt.p x 2), .int .i32 (Vt.p x 3), .int .i32 (Vt.s x), .slice ak x.vs.length ck] 29)) wr.heap.size #[.int .i32 (Vt.p x 0), .int .i32 (Vt.p x 1), .int .i32 (Vt.p x 2), .int .i32 (Vt.p x 3), .int .i32 (Vt.s x), .slice ak x.vs.length ck] 29 := Blk.new _ _ _
      have HX2 := hide ((unhide HX).alloc (.cells #[.int .i32 (Vt.p x 0), .int .i32 (Vt.p x 1), .int .i32 (Vt.p x 2), .int .i32 (Vt.p x 3), .int .i32 (Vt.s x), .slice ak x.vs.length ck] 29))
      have b0 := hB.cell (i := 0) rfl
      have b1 := hB.cell (i := 1) rfl
      have b2 := hB.cell (i := 2) rfl
      have b3 := hB.cell (i := 3) rfl
      have b4 := hB.cell (i := 4) rfl
      have b5 := hB.cell (i := 5) rfl
      clear hB
      cases hv : clI x.p n with
      | true =>
        have d : decide (clD x.p n < 0) = false := by simpa [clI] using hv
        have HS2 := hide (show (R.take (k + 1)).all (fun x => clI x.1.p n) = true by rw [unhide HS, unhide HT, hv]; rfl)
        clear hv HS HN HT
        go_wp2_with (go_at_call 22; refine (unhide HD _ _).mono ?_; rintro e w1 ⟨rfl, hx1⟩; have X1 := hide ((unhide HX2).trans hx1); clear hx1)
        go_roundw
        case rel => exact ⟨k + 1, by omega, by push_cast; rfl, unhide X1, HS2⟩
        case measure => simp [intOf]; omega
      | false =>
        have d : decide (clD x.p n < 0) = true := by simpa [clI] using hv
        have HE := hide (unhide HN hv)
        clear hv HS HN HT
        go_wp2_with (go_at_call 22; refine (unhide HD _ _).mono ?_; rintro e w1 ⟨rfl, hx1⟩; have X1 := hide ((unhide HX2).trans hx1); clear hx1)
        go_ret
        exact ⟨by rw [show allX R n = false from unhide HE]; rfl, unhide X1⟩
    · obtain rfl : k = R.length := by omega
      have HE : Hid (allX R n = true) := by
        have := unhide HT
        rw [List.take_length] at this
        exact this
      clear HT
      go_wp2
      go_ret
      exact ⟨by rw [unhide HE]; rfl, unhide HX⟩

/-- Do corners go together? -/
def aliX (R : List Vx) (m : Nat) : Bool := R.all fun x => decide (x.1.vs.length = m) && decide (x.1.vs.length ≤ 4)
theorem aliX_map (R : List Vx) : clA (R.map Prod.fst) = aliX R ((R.map Prod.fst).getD 0 zVt).vs.length := by unfold clA aliX; rw [List.all_map]; rfl

set_option maxRecDepth 10000 in
set_option maxHeartbeats 4000000 in
theorem alike_any (v : Value) (R : List Vx) (w : World) (hr : SR vxC 6 w v R) (hq : ∀ x ∈ R, ∃ ao cap, x.2 = .slice ao x.1.vs.length cap) (hl : R.length ≤ 1000000000000) :
    Calls Try.prog 30 #[v] w fun e w' => e = .returned (.bool (clA (R.map Prod.fst))) ∧ Ext w w' := by
  obtain ⟨ao, cap, rfl, h1, h2, h3, _⟩ := id hr
  have HR := hide hr
  have HQ := hide hq
  clear h1 h2 h3 hr hq
  rw [aliX_map]
  obtain ⟨m, hm⟩ : ∃ m, ((R.map Prod.fst).getD 0 zVt).vs.length = m := ⟨_, rfl⟩
  have HM := hide (fun h0 : 0 < R.length => show R[0].1.vs.length = m by rw [← hm]; simp [h0])
  rw [hm]
  clear hm
  go_enter Try.func30, Try.ntmps30
  go_wp2_with fail
  go_loopw [7] (fun iv wr => ∃ k : Nat, k ≤ R.length ∧ iv = .int .i64 (k : Int) ∧ Ext w wr ∧ Hid ((R.take k).all (fun x => decide (x.1.vs.length = m) && decide (x.1.vs.length ≤ 4)) = true)) (fun iv _ => R.length - (intOf iv).toNat)
  case atStart => exact ⟨0, Nat.zero_le _, rfl, Ext.refl w, by simp [Hid]⟩
  case round =>
    obtain ⟨k, hk, rfl, hX, HT⟩ := hrel
    have HX := hide hX
    clear hX
    by_cases hlt : k < R.length
    · have hkn : (k : Int) < (R.length : Int) := by omega
      have hkn0 : (0 : Int) < (R.length : Int) := by omega
      have h0 : 0 < R.length := by omega
      obtain ⟨b, off, ea, hc⟩ := vt_all (unhide HR) h0
      subst ea
      obtain ⟨c0, c1, c2, c3, c4, c5⟩ := hc k hlt wr (unhide HX)
      have e0 := (hc 0 h0 (wr.alloc (.cells #[.int .i32 (Vt.p R[k].1 0), .int .i32 (Vt.p R[k].1 1), .int .i32 (Vt.p R[k].1 2), .int .i32 (Vt.p R[k].1 3), .int .i32 (Vt.s R[k].1), R[k].2] 29)) ((unhide HX).alloc _)).2.2.2.2.2
      rw [Nat.zero_mul, Nat.add_zero] at e0
      obtain ⟨ak, ck, ek⟩ := unhide HQ _ (List.getElem_mem hlt)
      obtain ⟨az, cz, ez⟩ := unhide HQ _ (List.getElem_mem h0)
      rw [unhide HM h0] at ez
      rw [ez] at e0
      have HN := hide (fun h => all_no (fun x : Vx => decide (x.1.vs.length = m) && decide (x.1.vs.length ≤ 4)) R k hlt h)
      have HS := hide (take_succ_all (fun x : Vx => decide (x.1.vs.length = m) && decide (x.1.vs.length ≤ 4)) R k hlt)
      clear hc ez
      generalize R[k] = x at *
      obtain ⟨x, u⟩ := x
      simp only at c0 c1 c2 c3 c4 c5 ek
      obtain rfl : u = .slice ak x.vs.length ck := ek
      simp only at e0 HN HS
      have hB : Blk (wr.alloc (.cells #[.int .i32 (Vt.p x 0), .int .i32 (Vt.p x 1), .int .i32 (Vt.p x 2), .int .i32 (Vt.p x 3), .int .i32 (Vt.s x), .slice ak x.vs.length ck] 29)) wr.heap.size #[.int .i32 (Vt.p x 0), .int .i32 (Vt.p x 1), .int .i32 (Vt.p x 2), .int .i32 (Vt.p x 3), .int .i32 (Vt.s x), .slice ak x.vs.length ck] 29 := Blk.new _ _ _
      have HX2 := hide ((unhide HX).alloc (.cells #[.int .i32 (Vt.p x 0), .int .i32 (Vt.p x 1), .int .i32 (Vt.p x 2), .int .i32 (Vt.p x 3), .int .i32 (Vt.s x), .slice ak x.vs.length ck] 29))
      have b5 := hB.cell (i := 5) rfl
      clear hB
      generalize hlx : x.vs.length = l at *
      clear hlx
      by_cases hm : l = m
      · have d1 : ((l : Int) != (m : Int)) = false := by simp [hm]
        by_cases h4 : l ≤ 4
        · have d2 : decide ((4 : Int) < (l : Int)) = false := by simp; omega
          have HS2 := hide (show (R.take (k + 1)).all (fun x : Vx => decide (x.1.vs.length = m) && decide (x.1.vs.length ≤ 4)) = true by rw [unhide HS, unhide HT]; simp [hm]; omega)
          clear HS HN HT hm h4
          go_upto_region 4 with fail
          go_quiet (fail)
          go_wp2
          go_roundw
          case rel => exact ⟨k + 1, by omega, by push_cast; rfl, (unhide HX2).drewN _, HS2⟩
          case measure => simp [intOf]; omega
        · have d2 : decide ((4 : Int) < (l : Int)) = true := by simp; omega
          have HE := hide (unhide HN (by simp; omega))
          clear HS HN HT hm h4
          go_upto_region 4 with fail
          go_quiet (fail)
          go_wp2
          go_ret
          exact ⟨by rw [show aliX R m = false from unhide HE]; rfl, (unhide HX2).drewN _⟩
      · have d1 : ((l : Int) != (m : Int)) = true := by simp; omega
        have HE := hide (unhide HN (by simp [hm]))
        clear HS HN HT hm
        go_upto_region 4 with fail
        go_quiet (fail)
        go_wp2
        go_ret
        exact ⟨by rw [show aliX R m = false from unhide HE]; rfl, (unhide HX2).drewN _⟩
    · obtain rfl : k = R.length := by omega
      have HE : Hid (aliX R m = true) := by
        have := unhide HT
        rw [List.take_length] at this
        exact this
      clear HT
      go_wp2
      go_ret
      exact ⟨by rw [unhide HE]; rfl, unhide HX⟩

theorem sideC_any (n : Int) (w : World) : Calls Try.prog 55 #[.int .i64 n] w fun e w' => e = .returned (.bool (sideOk n)) ∧ w' = w := by
  unfold sideOk
  cases h1 : decide (0 ≤ n) <;> cases h2 : decide (n ≤ 64)
  all_goals
    go_enter Try.func55, Try.ntmps55
    go_wp2
    go_ret
    exact ⟨by simp, rfl⟩

theorem depthC_any (n : Int) (w : World) : Calls Try.prog 42 #[.int .i32 n] w fun e w' => e = .returned (.bool (depthOk n)) ∧ w' = w := by
  unfold depthOk
  cases h1 : decide (0 ≤ n) <;> cases h2 : decide (n ≤ 65536)
  all_goals
    go_enter Try.func42, Try.ntmps42
    go_wp2
    go_ret
    exact ⟨by simp, rfl⟩

/-- Does a stretch lie within the greatest side? -/
def rchOk (a n : Int) : Bool := sideOk a && (sideOk n && sideOk (a + n))
theorem reaches_any (a n : Int) (w : World) : Calls Try.prog 41 #[.int .i64 a, .int .i64 n] w fun e w' => e = .returned (.bool (rchOk a n)) ∧ w' = w := by
  unfold rchOk
  cases h1 : sideOk a
  · go_enter Try.func41, Try.ntmps41
    go_wp2_with (go_at_call 55; refine (sideC_any _ _).mono ?_; rintro e w' ⟨rfl, rfl⟩; rw [h1])
    go_ret
    exact ⟨by simp, rfl⟩
  cases h2 : sideOk n
  · go_enter Try.func41, Try.ntmps41
    go_wp2_with (first | (go_at_call_of 55 (Value.int IntKind.i64 a); refine (sideC_any _ _).mono ?_; rintro e w' ⟨rfl, rfl⟩; rw [h1]) | (go_at_call_of 55 (Value.int IntKind.i64 n); refine (sideC_any _ _).mono ?_; rintro e w' ⟨rfl, rfl⟩; rw [h2]))
    go_ret
    exact ⟨by simp, rfl⟩
  have hw : IntKind.i64.wrap (a + n) = a + n := by
    unfold sideOk at h1 h2
    simp at h1 h2
    simp [IntKind.wrap, IntKind.bits, IntKind.signed]
    omega
  cases h3 : sideOk (a + n)
  all_goals
    go_enter Try.func41, Try.ntmps41
    go_wp2_with (first | (go_at_call_of 55 (Value.int IntKind.i64 (a + n)); refine (sideC_any _ _).mono ?_; rintro e w' ⟨rfl, rfl⟩; rw [h3]) | (go_at_call_of 55 (Value.int IntKind.i64 a); refine (sideC_any _ _).mono ?_; rintro e w' ⟨rfl, rfl⟩; rw [h1]) | (go_at_call_of 55 (Value.int IntKind.i64 n); refine (sideC_any _ _).mono ?_; rintro e w' ⟨rfl, rfl⟩; rw [h2]))
    go_ret
    exact ⟨by simp, rfl⟩

theorem vwOk_parts (v : Vw) : vwOk v = (rchOk v.X v.W && (rchOk v.Y v.H && (depthOk v.Nr && depthOk v.Fr))) := by
  unfold vwOk rchOk sideOk depthOk
  rw [Bool.eq_iff_iff]
  simp only [decide_eq_true_eq, Bool.and_eq_true]
  omega

set_option maxHeartbeats 1000000 in
theorem rightC_any (v : Vw) (w : World) : Calls Try.prog 25 #[.agg #[.int .i64 (Vw.X v), .int .i64 (Vw.Y v), .int .i64 (Vw.W v), .int .i64 (Vw.H v), .int .i32 (Vw.Nr v), .int .i32 (Vw.Fr v)]] w fun e w' => e = .returned (.bool (vwOk v)) ∧ Ext w w' := by
  rw [vwOk_parts]
  have hB : Blk (w.alloc (.cells #[.int .i64 (Vw.X v), .int .i64 (Vw.Y v), .int .i64 (Vw.W v), .int .i64 (Vw.H v), .int .i32 (Vw.Nr v), .int .i32 (Vw.Fr v)] 24)) w.heap.size #[.int .i64 (Vw.X v), .int .i64 (Vw.Y v), .int .i64 (Vw.W v), .int .i64 (Vw.H v), .int .i32 (Vw.Nr v), .int .i32 (Vw.Fr v)] 24 := Blk.new _ _ _
  have c0 := hB.cell (i := 0) rfl
  have c1 := hB.cell (i := 1) rfl
  have c2 := hB.cell (i := 2) rfl
  have c3 := hB.cell (i := 3) rfl
  have c4 := hB.cell (i := 4) rfl
  have c5 := hB.cell (i := 5) rfl
  have HX := hide ((Ext.refl w).alloc (.cells #[.int .i64 (Vw.X v), .int .i64 (Vw.Y v), .int .i64 (Vw.W v), .int .i64 (Vw.H v), .int .i32 (Vw.Nr v), .int .i32 (Vw.Fr v)] 24))
  have k1 := fun wx => reaches_any v.X v.W wx
  have k2 := fun wx => reaches_any v.Y v.H wx
  have k3 := fun wx => depthC_any v.Nr wx
  have k4 := fun wx => depthC_any v.Fr wx
  generalize rchOk v.X v.W = q1 at *
  generalize rchOk v.Y v.H = q2 at *
  generalize depthOk v.Nr = q3 at *
  generalize depthOk v.Fr = q4 at *
  have K := hide (And.intro k1 (And.intro k2 (And.intro k3 k4)))
  clear k1 k2 k3 k4 hB
  cases q1 <;> cases q2 <;> cases q3 <;> cases q4
  all_goals
    go_enter Try.func25, Try.ntmps25
    go_wp2_with (first | (go_at_call_of 41 (Value.int IntKind.i64 v.X); refine ((unhide K).1 _).mono ?_; rintro e w' ⟨rfl, rfl⟩) | (go_at_call_of 41 (Value.int IntKind.i64 v.Y); refine ((unhide K).2.1 _).mono ?_; rintro e w' ⟨rfl, rfl⟩) | (go_at_call_of 42 (Value.int IntKind.i32 v.Nr); refine ((unhide K).2.2.1 _).mono ?_; rintro e w' ⟨rfl, rfl⟩) | (go_at_call_of 42 (Value.int IntKind.i32 v.Fr); refine ((unhide K).2.2.2 _).mono ?_; rintro e w' ⟨rfl, rfl⟩))
    go_ret
    exact ⟨by simp, unhide HX⟩
end Go.Proofs.Ytbhdloanlagddaa
