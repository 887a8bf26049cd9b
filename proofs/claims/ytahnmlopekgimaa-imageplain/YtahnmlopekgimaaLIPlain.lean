/-
  Proved: ImagePlain answers true for every format, sides and pixel and turns nothing that was there.
-/
import Derived.Test.YtahnmlopekgimaaRQ
import Derived.Test.YtahnmlopekgimaaRS
import Derived.Test.YtahnmlopekgimaaKW
import Derived.Test.YtahnmlopekgimaaFrI
namespace Go.Proofs.Ytahnmlopekgimaa
open Go.ChangeShapes Go.WideShapes Go.ChangeAt Go.RowKit
set_option linter.unusedVariables false
set_option linter.unusedSimpArgs false

theorem rep_byt {p : List Int} (h : Byt p) (n : Nat) : Byt (repB p n) := fun x hx => by
  unfold repB at hx
  obtain ⟨l, hl, hx⟩ := List.mem_flatten.1 hx
  rw [List.eq_of_mem_replicate hl] at hx
  exact h x hx
theorem umod (x : Int) (k : Nat) (hk : 0 < k) (h : 0 ≤ x) : ∃ a : Nat, a < k ∧ x.tmod (k : Int) = (a : Int) := by
  obtain ⟨n, rfl⟩ := Int.eq_ofNat_of_zero_le h
  exact ⟨n % k, Nat.mod_lt _ hk, by rw [Int.tmod_eq_emod_of_nonneg (by omega)]; rfl⟩
theorem wrap_nn (x : Int) : 0 ≤ IntKind.u64.wrap x := by rw [IntKind.wrap_u64]; omega
theorem shl_one (a : Nat) (h : a < 7) : ∃ W : Nat, powB (W : Int) = true ∧ wrap64 (2 ^ a) = (W : Int) := by
  match a, h with
  | 0, _ => exact ⟨1, by decide, by simp [wrap64]⟩
  | 1, _ => exact ⟨2, by decide, by simp [wrap64]⟩
  | 2, _ => exact ⟨4, by decide, by simp [wrap64]⟩
  | 3, _ => exact ⟨8, by decide, by simp [wrap64]⟩
  | 4, _ => exact ⟨16, by decide, by simp [wrap64]⟩
  | 5, _ => exact ⟨32, by decide, by simp [wrap64]⟩
  | 6, _ => exact ⟨64, by decide, by simp [wrap64]⟩

theorem index8_0 (w : World) : (Instr.index 46 (.agg #[.int .i64 0, .int .i64 4, .int .i64 2, .int .i64 2, .int .i64 2, .int .i64 1, .int .i64 1, .int .i64 2]) (.int .u64 0)).run Try.prog w = .ok (.int .i64 0) w := by kernel_rfl
theorem index8_1 (w : World) : (Instr.index 46 (.agg #[.int .i64 0, .int .i64 4, .int .i64 2, .int .i64 2, .int .i64 2, .int .i64 1, .int .i64 1, .int .i64 2]) (.int .u64 1)).run Try.prog w = .ok (.int .i64 4) w := by kernel_rfl
theorem index8_2 (w : World) : (Instr.index 46 (.agg #[.int .i64 0, .int .i64 4, .int .i64 2, .int .i64 2, .int .i64 2, .int .i64 1, .int .i64 1, .int .i64 2]) (.int .u64 2)).run Try.prog w = .ok (.int .i64 2) w := by kernel_rfl
theorem index8_3 (w : World) : (Instr.index 46 (.agg #[.int .i64 0, .int .i64 4, .int .i64 2, .int .i64 2, .int .i64 2, .int .i64 1, .int .i64 1, .int .i64 2]) (.int .u64 3)).run Try.prog w = .ok (.int .i64 2) w := by kernel_rfl
theorem index8_4 (w : World) : (Instr.index 46 (.agg #[.int .i64 0, .int .i64 4, .int .i64 2, .int .i64 2, .int .i64 2, .int .i64 1, .int .i64 1, .int .i64 2]) (.int .u64 4)).run Try.prog w = .ok (.int .i64 2) w := by kernel_rfl
theorem index8_5 (w : World) : (Instr.index 46 (.agg #[.int .i64 0, .int .i64 4, .int .i64 2, .int .i64 2, .int .i64 2, .int .i64 1, .int .i64 1, .int .i64 2]) (.int .u64 5)).run Try.prog w = .ok (.int .i64 1) w := by kernel_rfl
theorem index8_6 (w : World) : (Instr.index 46 (.agg #[.int .i64 0, .int .i64 4, .int .i64 2, .int .i64 2, .int .i64 2, .int .i64 1, .int .i64 1, .int .i64 2]) (.int .u64 6)).run Try.prog w = .ok (.int .i64 1) w := by kernel_rfl
theorem index8_7 (w : World) : (Instr.index 46 (.agg #[.int .i64 0, .int .i64 4, .int .i64 2, .int .i64 2, .int .i64 2, .int .i64 1, .int .i64 1, .int .i64 2]) (.int .u64 7)).run Try.prog w = .ok (.int .i64 2) w := by kernel_rfl

set_option maxRecDepth 10000 in
set_option maxHeartbeats 1500000 in
theorem plain_walk {w : World} (F S : Int) (hF : I64 F) (hS : I64 S) (u : Value) (px : List Int) (hq : Row .u8 w u px) (hqb : Byt px) :
    Calls Try.prog 6 #[.int .i64 F, .int .i64 S, u] w fun e w' => e = .returned (.bool true) ∧ Ext w w' := by
  obtain ⟨bo, bcap, rfl, hbo, hbc, hbm⟩ := hq.shape
  have hbc2 : bcap ≤ 9223372036854775807 := by unfold maxLen at hbm; omega
  have HQ := hide hq
  have HQB := hide hqb
  clear hq hqb hbo hbm
  go_enter Try.func6, Try.ntmps6
  go_wp2_with fail
  refine (wakes_any _).mono ?_
  rintro e w1 ⟨rfl, hx1⟩
  have HX1 := hide hx1
  clear hx1
  obtain ⟨a, ha, hae⟩ := umod (IntKind.u64.wrap S) 7 (by omega) (wrap_nn S)
  obtain ⟨b, hb, hbe⟩ := umod (IntKind.u64.wrap ((IntKind.u64.wrap S).tdiv 7)) 7 (by omega) (wrap_nn _)
  obtain ⟨c, hc, hce⟩ := umod (IntKind.u64.wrap F) 8 (by omega) (wrap_nn F)
  obtain ⟨W, hW, hWs⟩ := shl_one a ha
  obtain ⟨H, hH, hHs⟩ := shl_one b hb
  obtain ⟨s, hs⟩ : ∃ s : Nat, sizI (c : Int) = (s : Int) := by
    have := siz_bd (c : Int)
    exact Int.eq_ofNat_of_zero_le (by omega)
  have hae2 : (IntKind.u64.wrap S).tmod 7 = (a : Int) := hae
  have hbe2 : (IntKind.u64.wrap ((IntKind.u64.wrap S).tdiv 7)).tmod 7 = (b : Int) := hbe
  have hce2 : (IntKind.u64.wrap F).tmod 8 = (c : Int) := hce
  have ha2 : ¬ (a : Int) < 0 := by omega
  have hb2 : ¬ (b : Int) < 0 := by omega
  clear hae hbe hce
  go_upto_region 4 with fail
  rw [hWs, hHs]
  clear hae2 hbe2 hWs hHs ha2 hb2
  go_cut [9] (fun v9 wc => v9 = .int .i64 (s : Int) ∧ w1 = wc)
  case first =>
    have HS := hide hs
    clear hs
    obtain rfl | rfl | rfl | rfl | rfl | rfl | rfl | rfl : c = 0 ∨ c = 1 ∨ c = 2 ∨ c = 3 ∨ c = 4 ∨ c = 5 ∨ c = 6 ∨ c = 7 := by omega
    · have hix := index8_0
      go_wp2
      go_meet
      exact ⟨by rw [← unhide HS]; rfl, rfl⟩
    · have hix := index8_1
      go_wp2
      go_meet
      exact ⟨by rw [← unhide HS]; rfl, rfl⟩
    · have hix := index8_2
      go_wp2
      go_meet
      exact ⟨by rw [← unhide HS]; rfl, rfl⟩
    · have hix := index8_3
      go_wp2
      go_meet
      exact ⟨by rw [← unhide HS]; rfl, rfl⟩
    · have hix := index8_4
      go_wp2
      go_meet
      exact ⟨by rw [← unhide HS]; rfl, rfl⟩
    · have hix := index8_5
      go_wp2
      go_meet
      exact ⟨by rw [← unhide HS]; rfl, rfl⟩
    · have hix := index8_6
      go_wp2
      go_meet
      exact ⟨by rw [← unhide HS]; rfl, rfl⟩
    · have hix := index8_7
      go_wp2
      go_meet
      exact ⟨by rw [← unhide HS]; rfl, rfl⟩
  case rest =>
  obtain ⟨rfl, rfl⟩ := hcut
  have HS := hide hs
  clear hs
  by_cases hlt : px.length < s
  · have h1 : (px.length : Int) < (s : Int) := by omega
    go_wp2
    go_ret
    exact ⟨rfl, unhide HX1⟩
  have h1 : ¬ (px.length : Int) < (s : Int) := by omega
  by_cases hs0 : s = 0
  · subst hs0
    go_wp2
    go_ret
    exact ⟨rfl, unhide HX1⟩
  have h2 : ((s : Int) == 0) = false := by simp; omega
  have hs4 : 1 ≤ s ∧ s ≤ 4 := by
    have h3 := siz_bd (c : Int)
    have h4 := unhide HS
    omega
  have h5 : IntKind.i64.wrap (c : Int) = (c : Int) := by simp [IntKind.wrap, IntKind.bits, IntKind.signed]; omega
  go_upto_region 7 with fail
  obtain ⟨p, hp⟩ : ∃ p, p = px.take s := ⟨_, rfl⟩
  have hpl : p.length = s := by rw [hp]; simp; omega
  obtain ⟨q, hq⟩ : ∃ q, q = W * H := ⟨_, rfl⟩
  have hw64 := pow_side hW
  have hh64 := pow_side hH
  have hq1 : 1 * 1 ≤ W * H := Nat.mul_le_mul (by omega) (by omega)
  have hq2 : W * H ≤ 64 * 64 := Nat.mul_le_mul (by omega) (by omega)
  have HWH : Hid (IntKind.i64.wrap ((W : Int) * (H : Int)) = (q : Int)) := by
    show _ = _
    have : (W : Int) * (H : Int) = (q : Int) := by rw [hq]; push_cast; rfl
    rw [this]
    simp [IntKind.wrap, IntKind.bits, IntKind.signed]
    omega
  obtain ⟨n, hn⟩ : ∃ n, n = s * q := ⟨_, rfl⟩
  have hn2 : s * q ≤ 4 * 4096 := Nat.mul_le_mul (by omega) (by omega)
  have HPB : Hid (Byt p) := by
    intro x hx
    rw [hp] at hx
    exact unhide HQB x (List.mem_of_mem_take hx)
  have HPR : Hid (Row .u8 w (.slice bo s bcap) p) := by
    show Row _ _ _ _
    rw [hp]
    exact (unhide HQ).upto s (by omega)
  have HRE : Hid (∀ wx (k : Nat), 1 ≤ k → k ≤ 4096 → Ext w wx → Calls Try.prog 25 #[.slice bo s bcap, .int .i64 (k : Int)] wx fun e w' => ∃ g, e = .returned (.slice (some ⟨g, 0, none⟩) (s * k) (s * k)) ∧ Row .u8 w' (.slice (some ⟨g, 0, none⟩) (s * k) (s * k)) (repB p k) ∧ Ext wx w') := fun wx k k1 k2 hx => by
    have h9 := repeat_any (w := wx) bo bcap p k (by rw [hpl]; exact (unhide HPR).ext hx) (by omega) ⟨k1, k2⟩
    rw [hpl] at h9
    refine h9.mono ?_
    rintro e w' ⟨g, rfl, hI⟩
    have hl : (repB p k).length = s * k := by rw [repB_len, hpl, Nat.mul_comm]
    have hx9 : Ext wx w' := by obtain ⟨_, _, _, _, h, _⟩ := hI; exact h
    have hm : s * k ≤ 4 * 4096 := Nat.mul_le_mul (by omega) k2
    have hr := hI.row (cap := s * k) (by omega) (by unfold maxLen; omega)
    rw [hl] at hr
    exact ⟨g, rfl, hr, hx9⟩
  have hpp := pl_put (f := (c : Int)) (W := W) (H := H) (p := p) (by rw [hpl]; exact unhide HS) (by omega) hW hH
  have HPU : Hid (∀ wx g, Row .u8 wx (.slice (some ⟨g, 0, none⟩) n n) (repB p q) → Calls Try.prog 23 #[.agg #[.int .i64 0, .slice none 0 0, .int .i64 1, .int .i64 1, .int .i64 3, .int .i64 2], .int .i64 0, .int .i64 (c : Int), .agg #[.int .i64 (W : Int), .int .i64 (H : Int), .slice (some ⟨g, 0, none⟩) n n]] wx fun e w' => ∃ ao cap L', e = .returned (.tuple #[.agg #[.int .i64 (c : Int), .slice ao L'.length cap, .int .i64 1, .int .i64 1, .int .i64 3, .int .i64 2], .int .i64 0]) ∧ LO w' wx.heap.size (.slice ao L'.length cap) L' ∧ absL L' = (plI c W H p).L ∧ Ext wx w') := fun wx g hr => by
    have hl : (repB p q).length = n := by rw [repB_len, hpl, Nat.mul_comm, hn]
    have h9 := put_all (I := nwI) (LR.nil wx) (by simp) rfl (by simp) 0 (c : Int) W H (some ⟨g, 0, none⟩) n (repB p q) (by rw [hl]; exact hr)
    rw [hl] at h9
    rw [hq] at h9 hl
    rw [hpp.2] at h9
    rw [← hl, hpp.1] at h9
    rw [hl] at h9
    exact h9
  have hqa : 1 ≤ q ∧ q ≤ 4096 := by omega
  clear hpp hq1 hq2 HQ HQB
  clear hp hn2
  have HN := hide hn
  have HQE := hide hq
  clear hq hn
  go_cut [10, 11] (fun v10 v11 wc => ∃ wq b10 ao cap L', wq = wc ∧ v10 = .pointer (some ⟨b10, 0, none⟩) ∧ v11 = .int .i64 0 ∧ Blk wc b10 #[.int .i64 (c : Int), .slice ao (List.length L') cap, .int .i64 1, .int .i64 1, .int .i64 3, .int .i64 2] 24 ∧ LO wc w1.heap.size (.slice ao (List.length L') cap) L' ∧ absL L' = (plI c W H p).L ∧ Ext w1 wc)
  case first =>
    refine wp_region_noPanic ?_
    refine wp_region_held_drew (S := fun wx => Ext w1 wx) (by kernel_rfl) (ext_0 w1) (fun HS => ?_)
    refine wpAnyH_take (i := 1) (oi := { dst := some 42, op := Op.move (Operand.tmp 0), type := 3, pos := _, after := _, guard := none }) (v := .int .i64 F) rfl (by kernel_rfl) (by kernel_rfl) (by kernel_rfl) (fun _ _ _ h => h) (Or.inl ⟨by rfl, fun _ _ => rfl⟩) HS ?_
    simp only [Act.put, List.setIfInBounds_toArray, List.set_cons_zero, List.set_cons_succ]
    refine wpAnyH_take (i := 2) (oi := { dst := some 43, op := Op.convert 3 45 (Operand.tmp 42), type := 45, pos := _, after := _, guard := none }) (v := .int .u64 (IntKind.u64.wrap F)) rfl (by kernel_rfl) (by kernel_rfl) (by kernel_rfl) (fun _ _ _ h => h) (Or.inl ⟨by rfl, fun wx hx => by go_simp⟩) HS ?_
    simp only [Act.put, List.setIfInBounds_toArray, List.set_cons_zero, List.set_cons_succ]
    refine wpAnyH_take (i := 3) (oi := { dst := some 44, op := Op.binOp BinOp.rem 45 (Operand.tmp 43) (Operand.const (Value.int IntKind.u64 8)) 45, type := 45, pos := _, after := _, guard := none }) (v := .int .u64 (c : Int)) rfl (by kernel_rfl) (by kernel_rfl) (by kernel_rfl) (fun _ _ _ h => h) (Or.inl ⟨by rfl, fun wx hx => by go_simp⟩) HS ?_
    simp only [Act.put, List.setIfInBounds_toArray, List.set_cons_zero, List.set_cons_succ]
    refine wpAnyH_take (i := 4) (oi := { dst := some 45, op := Op.convert 45 3 (Operand.tmp 44), type := 3, pos := _, after := _, guard := none }) (v := .int .i64 (c : Int)) rfl (by kernel_rfl) (by kernel_rfl) (by kernel_rfl) (fun _ _ _ h => h) (Or.inl ⟨by rfl, fun wx hx => by go_simp⟩) HS ?_
    simp only [Act.put, List.setIfInBounds_toArray, List.set_cons_zero, List.set_cons_succ]
    refine wpAnyH_take (i := 5) (oi := { dst := some 46, op := Op.move (Operand.tmp 7), type := 3, pos := _, after := _, guard := none }) (v := .int .i64 (W : Int)) rfl (by kernel_rfl) (by kernel_rfl) (by kernel_rfl) (fun _ _ _ h => h) (Or.inl ⟨by rfl, fun _ _ => rfl⟩) HS ?_
    simp only [Act.put, List.setIfInBounds_toArray, List.set_cons_zero, List.set_cons_succ]
    refine wpAnyH_take (i := 6) (oi := { dst := some 47, op := Op.move (Operand.tmp 8), type := 3, pos := _, after := _, guard := none }) (v := .int .i64 (H : Int)) rfl (by kernel_rfl) (by kernel_rfl) (by kernel_rfl) (fun _ _ _ h => h) (Or.inl ⟨by rfl, fun _ _ => rfl⟩) HS ?_
    simp only [Act.put, List.setIfInBounds_toArray, List.set_cons_zero, List.set_cons_succ]
    refine wpAnyH_take (i := 7) (oi := { dst := some 48, op := Op.move (Operand.tmp 2), type := 27, pos := _, after := _, guard := none }) (v := .slice bo px.length bcap) rfl (by kernel_rfl) (by kernel_rfl) (by kernel_rfl) (fun _ _ _ h => h) (Or.inl ⟨by rfl, fun _ _ => rfl⟩) HS ?_
    simp only [Act.put, List.setIfInBounds_toArray, List.set_cons_zero, List.set_cons_succ]
    refine wpAnyH_take (i := 8) (oi := { dst := some 49, op := Op.move (Operand.tmp 9), type := 3, pos := _, after := _, guard := none }) (v := .int .i64 (s : Int)) rfl (by kernel_rfl) (by kernel_rfl) (by kernel_rfl) (fun _ _ _ h => h) (Or.inl ⟨by rfl, fun _ _ => rfl⟩) HS ?_
    simp only [Act.put, List.setIfInBounds_toArray, List.set_cons_zero, List.set_cons_succ]
    refine wpAnyH_take (i := 9) (oi := { dst := some 50, op := Op.slice 27 (Operand.tmp 48) none (some (Operand.tmp 49)) none, type := 27, pos := _, after := _, guard := none }) (v := .slice bo s bcap) rfl (by kernel_rfl) (by kernel_rfl) (by kernel_rfl) (fun _ _ _ h => h) (Or.inl ⟨by rfl, fun wx hx => by have hsl : ¬ bcap < s := (by omega); go_simp⟩) HS ?_
    simp only [Act.put, List.setIfInBounds_toArray, List.set_cons_zero, List.set_cons_succ]
    refine wpAnyH_take (i := 10) (oi := { dst := some 51, op := Op.move (Operand.tmp 7), type := 3, pos := _, after := _, guard := none }) (v := .int .i64 (W : Int)) rfl (by kernel_rfl) (by kernel_rfl) (by kernel_rfl) (fun _ _ _ h => h) (Or.inl ⟨by rfl, fun _ _ => rfl⟩) HS ?_
    simp only [Act.put, List.setIfInBounds_toArray, List.set_cons_zero, List.set_cons_succ]
    refine wpAnyH_take (i := 11) (oi := { dst := some 52, op := Op.move (Operand.tmp 8), type := 3, pos := _, after := _, guard := none }) (v := .int .i64 (H : Int)) rfl (by kernel_rfl) (by kernel_rfl) (by kernel_rfl) (fun _ _ _ h => h) (Or.inl ⟨by rfl, fun _ _ => rfl⟩) HS ?_
    simp only [Act.put, List.setIfInBounds_toArray, List.set_cons_zero, List.set_cons_succ]
    refine wpAnyH_take (i := 12) (oi := { dst := some 53, op := Op.binOp BinOp.mul 3 (Operand.tmp 51) (Operand.tmp 52) 3, type := 3, pos := _, after := _, guard := none }) (v := .int .i64 (q : Int)) rfl (by kernel_rfl) (by kernel_rfl) (by kernel_rfl) (fun _ _ _ h => h) (Or.inl ⟨by rfl, fun wx hx => by have hwh := unhide HWH; go_simp⟩) HS ?_
    simp only [Act.put, List.setIfInBounds_toArray, List.set_cons_zero, List.set_cons_succ]
    refine wpAnyH_ready (rs := [0, 19]) (by kernel_rfl) (by simp) (AllReadyH.cons (o := { dst := some 41, op := Op.call { callee := Callee.value (Operand.func 24), args := #[], argTypes := #[] }, type := 24, pos := _, after := _, guard := none }) rfl (fun KK hK => ?_) (AllReadyH.cons (o := { dst := some 10, op := Op.alloc 24, type := 0, pos := _, after := _, guard := none }) rfl (fun KK hK => ?_) AllReadyH.nil))
    · go_simp
      refine (new_any _).mono ?_
      rintro e wn ⟨rfl, hxn⟩
      have HS2 := HS.trans hxn
      clear HS
      have HS := HS2
      clear HS2
      clear hxn
      refine hK.out _ _ HS (fun _ => ?_)
      clear hK KK
      try simp only [Act.put, List.setIfInBounds_toArray, List.set_cons_zero, List.set_cons_succ]
      refine wpAnyH_ready (rs := [13, 19]) (by kernel_rfl) (by simp) (AllReadyH.cons (o := { dst := some 54, op := Op.call { callee := Callee.value (Operand.func 25), args := #[Operand.tmp 50, Operand.tmp 53], argTypes := #[27, 3] }, type := 27, pos := _, after := _, guard := none }) rfl (fun KK hK => ?_) (AllReadyH.cons (o := { dst := some 10, op := Op.alloc 24, type := 0, pos := _, after := _, guard := none }) rfl (fun KK hK => ?_) AllReadyH.nil))
      · go_simp
        refine (unhide HRE _ q (by omega) (by omega) ((unhide HX1).trans HS)).mono ?_
        rintro e wp ⟨g, rfl, hrp, hxp⟩
        rw [← unhide HN] at hrp ⊢
        have HS2 := HS.trans hxp
        clear HS
        have HS := HS2
        clear HS2
        clear hxp
        refine hK.out _ _ HS (fun _ => ?_)
        clear hK KK
        try simp only [Act.put, List.setIfInBounds_toArray, List.set_cons_zero, List.set_cons_succ]
        refine wpAnyH_take (i := 14) (oi := { dst := some 55, op := Op.build 51 #[(0, Operand.tmp 46), (1, Operand.tmp 47), (2, Operand.tmp 54)], type := 51, pos := _, after := _, guard := none }) (v := .agg #[.int .i64 (W : Int), .int .i64 (H : Int), .slice (some ⟨g, 0, none⟩) n n]) rfl (by kernel_rfl) (by kernel_rfl) (by kernel_rfl) (fun _ _ _ h => h) (Or.inl ⟨by rfl, fun wx hx => by go_simp⟩) HS ?_
        simp only [Act.put, List.setIfInBounds_toArray, List.set_cons_zero, List.set_cons_succ]
        refine wpAnyH_ready (rs := [15, 19]) (by kernel_rfl) (by simp) (AllReadyH.cons (o := { dst := some 56, op := Op.call { callee := Callee.value (Operand.func 23), args := #[Operand.tmp 41, Operand.const (Value.int IntKind.i64 0), Operand.tmp 45, Operand.tmp 55], argTypes := #[24, 3, 3, 51] }, type := 33, pos := _, after := _, guard := none }) rfl (fun KK hK => ?_) (AllReadyH.cons (o := { dst := some 10, op := Op.alloc 24, type := 0, pos := _, after := _, guard := none }) rfl (fun KK hK => ?_) AllReadyH.nil))
        · go_simp
          refine (unhide HPU _ g hrp).mono ?_
          rintro e wt ⟨ao7, cap7, L7, rfl, hlo7, hab7, hxt⟩
          have hlo7 := hlo7.lower (b2 := w1.heap.size) HS.size
          have HS2 := HS.trans hxt
          clear HS
          have HS := HS2
          clear HS2
          clear hxt hrp
          refine hK.out _ _ HS (fun _ => ?_)
          clear hK KK
          try simp only [Act.put, List.setIfInBounds_toArray, List.set_cons_zero, List.set_cons_succ]
          refine wpAnyH_take (i := 16) (oi := { dst := some 40, op := Op.move (Operand.tmp 56), type := 33, pos := _, after := _, guard := none }) (v := .tuple #[.agg #[.int .i64 (c : Int), .slice ao7 L7.length cap7, .int .i64 1, .int .i64 1, .int .i64 3, .int .i64 2], .int .i64 0]) rfl (by kernel_rfl) (by kernel_rfl) (by kernel_rfl) (fun _ _ _ h => h) (Or.inl ⟨by rfl, fun _ _ => rfl⟩) HS ?_
          simp only [Act.put, List.setIfInBounds_toArray, List.set_cons_zero, List.set_cons_succ]
          refine wpAnyH_take (i := 17) (oi := { dst := some 57, op := Op.extract (Operand.tmp 40) 0, type := 24, pos := _, after := _, guard := none }) (v := .agg #[.int .i64 (c : Int), .slice ao7 L7.length cap7, .int .i64 1, .int .i64 1, .int .i64 3, .int .i64 2]) rfl (by kernel_rfl) (by kernel_rfl) (by kernel_rfl) (fun _ _ _ h => h) (Or.inl ⟨by rfl, fun wx hx => by go_simp⟩) HS ?_
          simp only [Act.put, List.setIfInBounds_toArray, List.set_cons_zero, List.set_cons_succ]
          refine wpAnyH_take (i := 18) (oi := { dst := some 58, op := Op.extract (Operand.tmp 40) 1, type := 32, pos := _, after := _, guard := none }) (v := .int .i64 0) rfl (by kernel_rfl) (by kernel_rfl) (by kernel_rfl) (fun _ _ _ h => h) (Or.inl ⟨by rfl, fun wx hx => by go_simp⟩) HS ?_
          simp only [Act.put, List.setIfInBounds_toArray, List.set_cons_zero, List.set_cons_succ]
          refine wpAnyH_ready (rs := [19]) (by kernel_rfl) (by simp) (AllReadyH.cons (o := { dst := some 10, op := Op.alloc 24, type := 0, pos := _, after := _, guard := none }) rfl (fun KK hK => ?_) AllReadyH.nil)
          refine Eq.mpr (if_pos (by rfl)) ?_
          go_simp
          have RBz := Blk.new wt #[.int .i64 0, .slice none 0 0, .int .i64 0, .int .i64 0, .int .i64 0, .int .i64 0] 24
          have RLz : w1.heap.size ≤ wt.heap.size := HS.size
          have hxa := (Ext.refl wt).alloc (.cells #[.int .i64 0, .slice none 0 0, .int .i64 0, .int .i64 0, .int .i64 0, .int .i64 0] 24)
          have hlo2 := hlo7.ext hxa
          clear hlo7
          have hlo7 := hlo2
          clear hlo2
          have HS2 := HS.trans hxa
          clear HS hxa
          have HS := HS2
          clear HS2
          refine hK.out _ _ HS (fun _ => ?_)
          clear hK KK
          generalize wt.alloc (.cells #[.int .i64 0, .slice none 0 0, .int .i64 0, .int .i64 0, .int .i64 0, .int .i64 0] 24) = wa at RBz HS hlo7 ⊢
          try simp only [Act.put, List.setIfInBounds_toArray, List.set_cons_zero, List.set_cons_succ]
          refine wpAnyH_ready (rs := [20]) (by kernel_rfl) (by simp) (AllReadyH.cons (o := { dst := none, op := Op.store 24 (Operand.tmp 10) (Operand.tmp 57), type := 0, pos := _, after := _, guard := none }) rfl (fun KK hK => ?_) AllReadyH.nil)
          obtain ⟨s0, s1, s2, s3, s4, s5⟩ := RBz.six
          obtain ⟨f0, f1, f2, f3, f4, f5⟩ := RBz.frees
          have RB9 := RBz.put6 (.int .i64 (c : Int)) (.slice ao7 L7.length cap7) (.int .i64 1) (.int .i64 1) (.int .i64 3) (.int .i64 2)
          have hg9 := grown_put6 wa (wt.heap.size) (.int .i64 (c : Int)) (.slice ao7 L7.length cap7) (.int .i64 1) (.int .i64 1) (.int .i64 3) (.int .i64 2)
          have hlo9 := hlo7.grown RBz ⟨by decide, by decide⟩ hg9
          have HS9 : Ext w1 _ := below_grown HS hg9 HS.size RLz
          go_simp
          refine hK.out _ _ HS9 (fun _ => ?_)
          clear hK KK HS
          have HS := HS9
          try simp only [Act.put, List.setIfInBounds_toArray, List.set_cons_zero, List.set_cons_succ]
          refine wpAnyH_take (i := 21) (oi := { dst := some 11, op := Op.assign (Operand.tmp 58), type := 32, pos := _, after := _, guard := none }) (v := .int .i64 0) rfl (by kernel_rfl) (by kernel_rfl) (by kernel_rfl) (fun _ _ _ h => h) (Or.inl ⟨by rfl, fun _ _ => rfl⟩) HS ?_
          simp only [Act.put, List.setIfInBounds_toArray, List.set_cons_zero, List.set_cons_succ]
          refine wpAnyH_done (by kernel_rfl) ?_ _
          refine NoPanic.normal ?_
          go_wp2
          go_meet
          exact ⟨_, _, _, _, _, rfl, rfl, rfl, RB9, hlo9, hab7, HS9⟩
        · refine Eq.mpr (if_pos (by rfl)) ?_
          go_simp
          have RBz := Blk.new wp #[.int .i64 0, .slice none 0 0, .int .i64 0, .int .i64 0, .int .i64 0, .int .i64 0] 24
          have RLz : w1.heap.size ≤ wp.heap.size := HS.size
          have hxa := (Ext.refl wp).alloc (.cells #[.int .i64 0, .slice none 0 0, .int .i64 0, .int .i64 0, .int .i64 0, .int .i64 0] 24)
          have hrp2 := hrp.ext hxa
          clear hrp
          have hrp := hrp2
          clear hrp2
          have HS2 := HS.trans hxa
          clear HS hxa
          have HS := HS2
          clear HS2
          refine hK.out _ _ HS (fun _ => ?_)
          clear hK KK
          generalize wp.alloc (.cells #[.int .i64 0, .slice none 0 0, .int .i64 0, .int .i64 0, .int .i64 0, .int .i64 0] 24) = wa at RBz HS hrp ⊢
          try simp only [Act.put, List.setIfInBounds_toArray, List.set_cons_zero, List.set_cons_succ]
          refine wpAnyH_ready (rs := [15]) (by kernel_rfl) (by simp) (AllReadyH.cons (o := { dst := some 56, op := Op.call { callee := Callee.value (Operand.func 23), args := #[Operand.tmp 41, Operand.const (Value.int IntKind.i64 0), Operand.tmp 45, Operand.tmp 55], argTypes := #[24, 3, 3, 51] }, type := 33, pos := _, after := _, guard := none }) rfl (fun KK hK => ?_) AllReadyH.nil)
          go_simp
          refine (unhide HPU _ g hrp).mono ?_
          rintro e wt ⟨ao7, cap7, L7, rfl, hlo7, hab7, hxt⟩
          have hlo7 := hlo7.lower (b2 := w1.heap.size) HS.size
          have RB2 := RBz.ext hxt
          clear RBz
          have RBz := RB2
          clear RB2
          have HS2 := HS.trans hxt
          clear HS
          have HS := HS2
          clear HS2
          clear hxt hrp
          refine hK.out _ _ HS (fun _ => ?_)
          clear hK KK
          try simp only [Act.put, List.setIfInBounds_toArray, List.set_cons_zero, List.set_cons_succ]
          refine wpAnyH_take (i := 16) (oi := { dst := some 40, op := Op.move (Operand.tmp 56), type := 33, pos := _, after := _, guard := none }) (v := .tuple #[.agg #[.int .i64 (c : Int), .slice ao7 L7.length cap7, .int .i64 1, .int .i64 1, .int .i64 3, .int .i64 2], .int .i64 0]) rfl (by kernel_rfl) (by kernel_rfl) (by kernel_rfl) (fun _ _ _ h => h) (Or.inl ⟨by rfl, fun _ _ => rfl⟩) HS ?_
          simp only [Act.put, List.setIfInBounds_toArray, List.set_cons_zero, List.set_cons_succ]
          refine wpAnyH_take (i := 17) (oi := { dst := some 57, op := Op.extract (Operand.tmp 40) 0, type := 24, pos := _, after := _, guard := none }) (v := .agg #[.int .i64 (c : Int), .slice ao7 L7.length cap7, .int .i64 1, .int .i64 1, .int .i64 3, .int .i64 2]) rfl (by kernel_rfl) (by kernel_rfl) (by kernel_rfl) (fun _ _ _ h => h) (Or.inl ⟨by rfl, fun wx hx => by go_simp⟩) HS ?_
          simp only [Act.put, List.setIfInBounds_toArray, List.set_cons_zero, List.set_cons_succ]
          refine wpAnyH_take (i := 18) (oi := { dst := some 58, op := Op.extract (Operand.tmp 40) 1, type := 32, pos := _, after := _, guard := none }) (v := .int .i64 0) rfl (by kernel_rfl) (by kernel_rfl) (by kernel_rfl) (fun _ _ _ h => h) (Or.inl ⟨by rfl, fun wx hx => by go_simp⟩) HS ?_
          simp only [Act.put, List.setIfInBounds_toArray, List.set_cons_zero, List.set_cons_succ]
          refine wpAnyH_ready (rs := [20]) (by kernel_rfl) (by simp) (AllReadyH.cons (o := { dst := none, op := Op.store 24 (Operand.tmp 10) (Operand.tmp 57), type := 0, pos := _, after := _, guard := none }) rfl (fun KK hK => ?_) AllReadyH.nil)
          obtain ⟨s0, s1, s2, s3, s4, s5⟩ := RBz.six
          obtain ⟨f0, f1, f2, f3, f4, f5⟩ := RBz.frees
          have RB9 := RBz.put6 (.int .i64 (c : Int)) (.slice ao7 L7.length cap7) (.int .i64 1) (.int .i64 1) (.int .i64 3) (.int .i64 2)
          have hg9 := grown_put6 wt (wp.heap.size) (.int .i64 (c : Int)) (.slice ao7 L7.length cap7) (.int .i64 1) (.int .i64 1) (.int .i64 3) (.int .i64 2)
          have hlo9 := hlo7.grown RBz ⟨by decide, by decide⟩ hg9
          have HS9 : Ext w1 _ := below_grown HS hg9 HS.size RLz
          go_simp
          refine hK.out _ _ HS9 (fun _ => ?_)
          clear hK KK HS
          have HS := HS9
          try simp only [Act.put, List.setIfInBounds_toArray, List.set_cons_zero, List.set_cons_succ]
          refine wpAnyH_take (i := 21) (oi := { dst := some 11, op := Op.assign (Operand.tmp 58), type := 32, pos := _, after := _, guard := none }) (v := .int .i64 0) rfl (by kernel_rfl) (by kernel_rfl) (by kernel_rfl) (fun _ _ _ h => h) (Or.inl ⟨by rfl, fun _ _ => rfl⟩) HS ?_
          simp only [Act.put, List.setIfInBounds_toArray, List.set_cons_zero, List.set_cons_succ]
          refine wpAnyH_done (by kernel_rfl) ?_ _
          refine NoPanic.normal ?_
          go_wp2
          go_meet
          exact ⟨_, _, _, _, _, rfl, rfl, rfl, RB9, hlo9, hab7, HS9⟩
      · refine Eq.mpr (if_pos (by rfl)) ?_
        go_simp
        have RBz := Blk.new wn #[.int .i64 0, .slice none 0 0, .int .i64 0, .int .i64 0, .int .i64 0, .int .i64 0] 24
        have RLz : w1.heap.size ≤ wn.heap.size := HS.size
        have hxa := (Ext.refl wn).alloc (.cells #[.int .i64 0, .slice none 0 0, .int .i64 0, .int .i64 0, .int .i64 0, .int .i64 0] 24)
        have HS2 := HS.trans hxa
        clear HS hxa
        have HS := HS2
        clear HS2
        refine hK.out _ _ HS (fun _ => ?_)
        clear hK KK
        generalize wn.alloc (.cells #[.int .i64 0, .slice none 0 0, .int .i64 0, .int .i64 0, .int .i64 0, .int .i64 0] 24) = wa at RBz HS ⊢
        try simp only [Act.put, List.setIfInBounds_toArray, List.set_cons_zero, List.set_cons_succ]
        refine wpAnyH_ready (rs := [13]) (by kernel_rfl) (by simp) (AllReadyH.cons (o := { dst := some 54, op := Op.call { callee := Callee.value (Operand.func 25), args := #[Operand.tmp 50, Operand.tmp 53], argTypes := #[27, 3] }, type := 27, pos := _, after := _, guard := none }) rfl (fun KK hK => ?_) AllReadyH.nil)
        go_simp
        refine (unhide HRE _ q (by omega) (by omega) ((unhide HX1).trans HS)).mono ?_
        rintro e wp ⟨g, rfl, hrp, hxp⟩
        rw [← unhide HN] at hrp ⊢
        have RB2 := RBz.ext hxp
        clear RBz
        have RBz := RB2
        clear RB2
        have HS2 := HS.trans hxp
        clear HS
        have HS := HS2
        clear HS2
        clear hxp
        refine hK.out _ _ HS (fun _ => ?_)
        clear hK KK
        try simp only [Act.put, List.setIfInBounds_toArray, List.set_cons_zero, List.set_cons_succ]
        refine wpAnyH_take (i := 14) (oi := { dst := some 55, op := Op.build 51 #[(0, Operand.tmp 46), (1, Operand.tmp 47), (2, Operand.tmp 54)], type := 51, pos := _, after := _, guard := none }) (v := .agg #[.int .i64 (W : Int), .int .i64 (H : Int), .slice (some ⟨g, 0, none⟩) n n]) rfl (by kernel_rfl) (by kernel_rfl) (by kernel_rfl) (fun _ _ _ h => h) (Or.inl ⟨by rfl, fun wx hx => by go_simp⟩) HS ?_
        simp only [Act.put, List.setIfInBounds_toArray, List.set_cons_zero, List.set_cons_succ]
        refine wpAnyH_ready (rs := [15]) (by kernel_rfl) (by simp) (AllReadyH.cons (o := { dst := some 56, op := Op.call { callee := Callee.value (Operand.func 23), args := #[Operand.tmp 41, Operand.const (Value.int IntKind.i64 0), Operand.tmp 45, Operand.tmp 55], argTypes := #[24, 3, 3, 51] }, type := 33, pos := _, after := _, guard := none }) rfl (fun KK hK => ?_) AllReadyH.nil)
        go_simp
        refine (unhide HPU _ g hrp).mono ?_
        rintro e wt ⟨ao7, cap7, L7, rfl, hlo7, hab7, hxt⟩
        have hlo7 := hlo7.lower (b2 := w1.heap.size) HS.size
        have RB2 := RBz.ext hxt
        clear RBz
        have RBz := RB2
        clear RB2
        have HS2 := HS.trans hxt
        clear HS
        have HS := HS2
        clear HS2
        clear hxt hrp
        refine hK.out _ _ HS (fun _ => ?_)
        clear hK KK
        try simp only [Act.put, List.setIfInBounds_toArray, List.set_cons_zero, List.set_cons_succ]
        refine wpAnyH_take (i := 16) (oi := { dst := some 40, op := Op.move (Operand.tmp 56), type := 33, pos := _, after := _, guard := none }) (v := .tuple #[.agg #[.int .i64 (c : Int), .slice ao7 L7.length cap7, .int .i64 1, .int .i64 1, .int .i64 3, .int .i64 2], .int .i64 0]) rfl (by kernel_rfl) (by kernel_rfl) (by kernel_rfl) (fun _ _ _ h => h) (Or.inl ⟨by rfl, fun _ _ => rfl⟩) HS ?_
        simp only [Act.put, List.setIfInBounds_toArray, List.set_cons_zero, List.set_cons_succ]
        refine wpAnyH_take (i := 17) (oi := { dst := some 57, op := Op.extract (Operand.tmp 40) 0, type := 24, pos := _, after := _, guard := none }) (v := .agg #[.int .i64 (c : Int), .slice ao7 L7.length cap7, .int .i64 1, .int .i64 1, .int .i64 3, .int .i64 2]) rfl (by kernel_rfl) (by kernel_rfl) (by kernel_rfl) (fun _ _ _ h => h) (Or.inl ⟨by rfl, fun wx hx => by go_simp⟩) HS ?_
        simp only [Act.put, List.setIfInBounds_toArray, List.set_cons_zero, List.set_cons_succ]
        refine wpAnyH_take (i := 18) (oi := { dst := some 58, op := Op.extract (Operand.tmp 40) 1, type := 32, pos := _, after := _, guard := none }) (v := .int .i64 0) rfl (by kernel_rfl) (by kernel_rfl) (by kernel_rfl) (fun _ _ _ h => h) (Or.inl ⟨by rfl, fun wx hx => by go_simp⟩) HS ?_
        simp only [Act.put, List.setIfInBounds_toArray, List.set_cons_zero, List.set_cons_succ]
        refine wpAnyH_ready (rs := [20]) (by kernel_rfl) (by simp) (AllReadyH.cons (o := { dst := none, op := Op.store 24 (Operand.tmp 10) (Operand.tmp 57), type := 0, pos := _, after := _, guard := none }) rfl (fun KK hK => ?_) AllReadyH.nil)
        obtain ⟨s0, s1, s2, s3, s4, s5⟩ := RBz.six
        obtain ⟨f0, f1, f2, f3, f4, f5⟩ := RBz.frees
        have RB9 := RBz.put6 (.int .i64 (c : Int)) (.slice ao7 L7.length cap7) (.int .i64 1) (.int .i64 1) (.int .i64 3) (.int .i64 2)
        have hg9 := grown_put6 wt (wn.heap.size) (.int .i64 (c : Int)) (.slice ao7 L7.length cap7) (.int .i64 1) (.int .i64 1) (.int .i64 3) (.int .i64 2)
        have hlo9 := hlo7.grown RBz ⟨by decide, by decide⟩ hg9
        have HS9 : Ext w1 _ := below_grown HS hg9 HS.size RLz
        go_simp
        refine hK.out _ _ HS9 (fun _ => ?_)
        clear hK KK HS
        have HS := HS9
        try simp only [Act.put, List.setIfInBounds_toArray, List.set_cons_zero, List.set_cons_succ]
        refine wpAnyH_take (i := 21) (oi := { dst := some 11, op := Op.assign (Operand.tmp 58), type := 32, pos := _, after := _, guard := none }) (v := .int .i64 0) rfl (by kernel_rfl) (by kernel_rfl) (by kernel_rfl) (fun _ _ _ h => h) (Or.inl ⟨by rfl, fun _ _ => rfl⟩) HS ?_
        simp only [Act.put, List.setIfInBounds_toArray, List.set_cons_zero, List.set_cons_succ]
        refine wpAnyH_done (by kernel_rfl) ?_ _
        refine NoPanic.normal ?_
        go_wp2
        go_meet
        exact ⟨_, _, _, _, _, rfl, rfl, rfl, RB9, hlo9, hab7, HS9⟩
    · refine Eq.mpr (if_pos (by rfl)) ?_
      go_simp
      have RBz : Blk (w1.alloc (.cells #[.int .i64 0, .slice none 0 0, .int .i64 0, .int .i64 0, .int .i64 0, .int .i64 0] 24)).drew w1.heap.size #[.int .i64 0, .slice none 0 0, .int .i64 0, .int .i64 0, .int .i64 0, .int .i64 0] 24 := Blk.new w1 #[.int .i64 0, .slice none 0 0, .int .i64 0, .int .i64 0, .int .i64 0, .int .i64 0] 24
      have RLz : w1.heap.size ≤ w1.heap.size := Nat.le_refl _
      clear HS
      have HS : Ext w1 (w1.alloc (.cells #[.int .i64 0, .slice none 0 0, .int .i64 0, .int .i64 0, .int .i64 0, .int .i64 0] 24)).drew := ext_1 w1 _
      refine hK.out _ _ HS (fun _ => ?_)
      clear hK KK
      generalize (w1.alloc (.cells #[.int .i64 0, .slice none 0 0, .int .i64 0, .int .i64 0, .int .i64 0, .int .i64 0] 24)).drew = wa at RBz HS ⊢
      try simp only [Act.put, List.setIfInBounds_toArray, List.set_cons_zero, List.set_cons_succ]
      refine wpAnyH_ready (rs := [0]) (by kernel_rfl) (by simp) (AllReadyH.cons (o := { dst := some 41, op := Op.call { callee := Callee.value (Operand.func 24), args := #[], argTypes := #[] }, type := 24, pos := _, after := _, guard := none }) rfl (fun KK hK => ?_) AllReadyH.nil)
      go_simp
      refine (new_any _).mono ?_
      rintro e wn ⟨rfl, hxn⟩
      have RB2 := RBz.ext hxn
      clear RBz
      have RBz := RB2
      clear RB2
      have HS2 := HS.trans hxn
      clear HS
      have HS := HS2
      clear HS2
      clear hxn
      refine hK.out _ _ HS (fun _ => ?_)
      clear hK KK
      try simp only [Act.put, List.setIfInBounds_toArray, List.set_cons_zero, List.set_cons_succ]
      refine wpAnyH_ready (rs := [13]) (by kernel_rfl) (by simp) (AllReadyH.cons (o := { dst := some 54, op := Op.call { callee := Callee.value (Operand.func 25), args := #[Operand.tmp 50, Operand.tmp 53], argTypes := #[27, 3] }, type := 27, pos := _, after := _, guard := none }) rfl (fun KK hK => ?_) AllReadyH.nil)
      go_simp
      refine (unhide HRE _ q (by omega) (by omega) ((unhide HX1).trans HS)).mono ?_
      rintro e wp ⟨g, rfl, hrp, hxp⟩
      rw [← unhide HN] at hrp ⊢
      have RB2 := RBz.ext hxp
      clear RBz
      have RBz := RB2
      clear RB2
      have HS2 := HS.trans hxp
      clear HS
      have HS := HS2
      clear HS2
      clear hxp
      refine hK.out _ _ HS (fun _ => ?_)
      clear hK KK
      try simp only [Act.put, List.setIfInBounds_toArray, List.set_cons_zero, List.set_cons_succ]
      refine wpAnyH_take (i := 14) (oi := { dst := some 55, op := Op.build 51 #[(0, Operand.tmp 46), (1, Operand.tmp 47), (2, Operand.tmp 54)], type := 51, pos := _, after := _, guard := none }) (v := .agg #[.int .i64 (W : Int), .int .i64 (H : Int), .slice (some ⟨g, 0, none⟩) n n]) rfl (by kernel_rfl) (by kernel_rfl) (by kernel_rfl) (fun _ _ _ h => h) (Or.inl ⟨by rfl, fun wx hx => by go_simp⟩) HS ?_
      simp only [Act.put, List.setIfInBounds_toArray, List.set_cons_zero, List.set_cons_succ]
      refine wpAnyH_ready (rs := [15]) (by kernel_rfl) (by simp) (AllReadyH.cons (o := { dst := some 56, op := Op.call { callee := Callee.value (Operand.func 23), args := #[Operand.tmp 41, Operand.const (Value.int IntKind.i64 0), Operand.tmp 45, Operand.tmp 55], argTypes := #[24, 3, 3, 51] }, type := 33, pos := _, after := _, guard := none }) rfl (fun KK hK => ?_) AllReadyH.nil)
      go_simp
      refine (unhide HPU _ g hrp).mono ?_
      rintro e wt ⟨ao7, cap7, L7, rfl, hlo7, hab7, hxt⟩
      have hlo7 := hlo7.lower (b2 := w1.heap.size) HS.size
      have RB2 := RBz.ext hxt
      clear RBz
      have RBz := RB2
      clear RB2
      have HS2 := HS.trans hxt
      clear HS
      have HS := HS2
      clear HS2
      clear hxt hrp
      refine hK.out _ _ HS (fun _ => ?_)
      clear hK KK
      try simp only [Act.put, List.setIfInBounds_toArray, List.set_cons_zero, List.set_cons_succ]
      refine wpAnyH_take (i := 16) (oi := { dst := some 40, op := Op.move (Operand.tmp 56), type := 33, pos := _, after := _, guard := none }) (v := .tuple #[.agg #[.int .i64 (c : Int), .slice ao7 L7.length cap7, .int .i64 1, .int .i64 1, .int .i64 3, .int .i64 2], .int .i64 0]) rfl (by kernel_rfl) (by kernel_rfl) (by kernel_rfl) (fun _ _ _ h => h) (Or.inl ⟨by rfl, fun _ _ => rfl⟩) HS ?_
      simp only [Act.put, List.setIfInBounds_toArray, List.set_cons_zero, List.set_cons_succ]
      refine wpAnyH_take (i := 17) (oi := { dst := some 57, op := Op.extract (Operand.tmp 40) 0, type := 24, pos := _, after := _, guard := none }) (v := .agg #[.int .i64 (c : Int), .slice ao7 L7.length cap7, .int .i64 1, .int .i64 1, .int .i64 3, .int .i64 2]) rfl (by kernel_rfl) (by kernel_rfl) (by kernel_rfl) (fun _ _ _ h => h) (Or.inl ⟨by rfl, fun wx hx => by go_simp⟩) HS ?_
      simp only [Act.put, List.setIfInBounds_toArray, List.set_cons_zero, List.set_cons_succ]
      refine wpAnyH_take (i := 18) (oi := { dst := some 58, op := Op.extract (Operand.tmp 40) 1, type := 32, pos := _, after := _, guard := none }) (v := .int .i64 0) rfl (by kernel_rfl) (by kernel_rfl) (by kernel_rfl) (fun _ _ _ h => h) (Or.inl ⟨by rfl, fun wx hx => by go_simp⟩) HS ?_
      simp only [Act.put, List.setIfInBounds_toArray, List.set_cons_zero, List.set_cons_succ]
      refine wpAnyH_ready (rs := [20]) (by kernel_rfl) (by simp) (AllReadyH.cons (o := { dst := none, op := Op.store 24 (Operand.tmp 10) (Operand.tmp 57), type := 0, pos := _, after := _, guard := none }) rfl (fun KK hK => ?_) AllReadyH.nil)
      obtain ⟨s0, s1, s2, s3, s4, s5⟩ := RBz.six
      obtain ⟨f0, f1, f2, f3, f4, f5⟩ := RBz.frees
      have RB9 := RBz.put6 (.int .i64 (c : Int)) (.slice ao7 L7.length cap7) (.int .i64 1) (.int .i64 1) (.int .i64 3) (.int .i64 2)
      have hg9 := grown_put6 wt (w1.heap.size) (.int .i64 (c : Int)) (.slice ao7 L7.length cap7) (.int .i64 1) (.int .i64 1) (.int .i64 3) (.int .i64 2)
      have hlo9 := hlo7.grown RBz ⟨by decide, by decide⟩ hg9
      have HS9 : Ext w1 _ := below_grown HS hg9 HS.size RLz
      go_simp
      refine hK.out _ _ HS9 (fun _ => ?_)
      clear hK KK HS
      have HS := HS9
      try simp only [Act.put, List.setIfInBounds_toArray, List.set_cons_zero, List.set_cons_succ]
      refine wpAnyH_take (i := 21) (oi := { dst := some 11, op := Op.assign (Operand.tmp 58), type := 32, pos := _, after := _, guard := none }) (v := .int .i64 0) rfl (by kernel_rfl) (by kernel_rfl) (by kernel_rfl) (fun _ _ _ h => h) (Or.inl ⟨by rfl, fun _ _ => rfl⟩) HS ?_
      simp only [Act.put, List.setIfInBounds_toArray, List.set_cons_zero, List.set_cons_succ]
      refine wpAnyH_done (by kernel_rfl) ?_ _
      refine NoPanic.normal ?_
      go_wp2
      go_meet
      exact ⟨_, _, _, _, _, rfl, rfl, rfl, RB9, hlo9, hab7, HS9⟩
  case rest =>
  obtain ⟨w2, b10, ao2, cap2, L2, rfl, rfl, rfl, hB2, hlo2, hab2, hx2⟩ := hcut
  have hsz : sizI (c : Int) = (p.length : Int) := by rw [hpl]; exact unhide HS
  have hgen := pl_gen hsz (by omega) hW hH
  have hlev := pl_lev hsz (by omega) hW hH (unhide HPB)
  have HB2 := hide hB2
  have HX2 := hide ((unhide HX1).trans hx2)
  have hL2 : L2.length = 1 := by
    have h9 := congrArg List.length hab2
    rw [absL_len] at h9
    exact h9
  have hby2 : ∀ e ∈ L2, Byt e.2.2.2 ∧ e.2.2.2.length ≤ 140737488355328 := by
    intro e he
    have h9 : absE e ∈ absL L2 := List.mem_map.2 ⟨e, he, rfl⟩
    rw [hab2] at h9
    have h8 : absE e = ((W : Int), (H : Int), repB p (W * H)) := by simpa [plI] using h9
    have h7 : e.2.2.2 = repB p (W * H) := congrArg (fun z => z.2.2) h8
    have h6 : p.length * (W * H) ≤ 4 * 4096 := Nat.mul_le_mul (by omega) (by rw [← unhide HQE]; omega)
    rw [h7]
    exact ⟨rep_byt (unhide HPB) _, by rw [repB_len, Nat.mul_comm]; omega⟩
  have HGE : Hid (Calls Try.prog 17 #[.agg #[.int .i64 (c : Int), .slice ao2 L2.length cap2, .int .i64 1, .int .i64 1, .int .i64 3, .int .i64 2]] w2 fun e w' => ∃ ao cap L', e = .returned (.tuple #[.agg #[.int .i64 (c : Int), .slice ao (List.length L') cap, .int .i64 1, .int .i64 1, .int .i64 3, .int .i64 2], .int .i64 0]) ∧ LO w' w2.heap.size (.slice ao (List.length L') cap) L' ∧ absL L' = genL (plI c W H p) ∧ Ext w2 w') :=
    generate_good (I := plI c W H p) hlo2.lr (by omega) hab2.symm (fun e he => (hby2 e he).2) (fun e he => (hby2 e he).1) hgen
  have HLEV := hide hlev
  clear hlev hgen hsz hB2 hlo2 hab2 hx2 hby2 hL2 HPU
  obtain ⟨q0, q1, q2, q3, q4, q5⟩ := (unhide HB2).six
  go_wp2_with fail
  refine (unhide HGE).mono ?_
  rintro e w3 ⟨ao3, cap3, L3, rfl, hlo3, hab3, hx3⟩
  have HX4 := hide (((unhide HX2).trans hx3).alloc (.cells #[.int .i64 (c : Int), .slice ao3 L3.length cap3, .int .i64 1, .int .i64 1, .int .i64 3, .int .i64 2] 24))
  have HB4 := hide (Blk.new w3 #[.int .i64 (c : Int), .slice ao3 L3.length cap3, .int .i64 1, .int .i64 1, .int .i64 3, .int .i64 2] 24)
  have HL4 := hide ((hlo3.ext ((Ext.refl w3).alloc (.cells #[.int .i64 (c : Int), .slice ao3 L3.length cap3, .int .i64 1, .int .i64 1, .int .i64 3, .int .i64 2] 24))).lr)
  have hlen3 : L3.length ≤ 7 ∧ ((L3.length : Nat) : Int) = cntI W H := by
    have h9 := congrArg List.length hab3
    rw [absL_len] at h9
    rw [h9]
    exact ⟨(unhide HLEV).2.2, (unhide HLEV).2.1⟩
  have HEL : Hid (∀ i (h : i < L3.length), ∃ A B : Nat, L3[i].1 = (A : Int) ∧ L3[i].2.1 = (B : Int) ∧ L3[i].2.2.2 = repB p (A * B) ∧ 1 ≤ A ∧ A ≤ 64 ∧ 1 ≤ B ∧ B ≤ 64) := by
    intro i hi
    have h9 : absE L3[i] ∈ genL (plI c W H p) := by rw [← hab3]; exact List.mem_map.2 ⟨_, List.getElem_mem hi, rfl⟩
    obtain ⟨A, B, h8, hA, hB⟩ := (unhide HLEV).1 _ h9
    have hA2 := pow_side hA
    have hB2 := pow_side hB
    exact ⟨A, B, congrArg (fun z => z.1) h8, congrArg (fun z => z.2.1) h8, congrArg (fun z => z.2.2) h8, by omega, by omega, by omega, by omega⟩
  have HLEN := hide hlen3.2
  have hlen7 := hlen3.1
  clear hx3 hlo3 hab3 hlen3 HLEV HB2 HX2 q0 q1 q2 q3 q4 q5 HGE
  go_upto_region 9 with fail
  generalize w3.alloc (.cells #[.int .i64 (c : Int), .slice ao3 L3.length cap3, .int .i64 1, .int .i64 1, .int .i64 3, .int .i64 2] 24) = w4 at HX4 HB4 HL4 ⊢
  generalize w3.heap.size = b12 at *
  obtain ⟨q0, q1, q2, q3, q4, q5⟩ := (unhide HB4).six
  go_wp2
  go_loopw [73] (fun i wr => ∃ k : Nat, k ≤ L3.length ∧ i = .int .i64 (k : Int) ∧ Hid (Ext w4 wr)) (fun i _ => L3.length - (intOf i).toNat)
  case atStart => exact ⟨0, by omega, rfl, Ext.refl _⟩
  case round =>
    obtain ⟨k, hk, rfl, hxr⟩ := hrel
    clear q0 q1 q2 q3 q4 q5
    by_cases hkl : k < L3.length
    · have hkl2 : (k : Int) < (L3.length : Int) := by omega
      obtain ⟨b, off, bo3, bc3, he, hsl, d0, d1, d2, hrow⟩ := ((unhide HL4).ext (unhide hxr)).at k hkl
      subst he
      obtain ⟨A, B, eA, eB, eR, A1, A2, B1, B2⟩ := unhide HEL k hkl
      rw [eA] at d0
      rw [eB] at d1
      rw [eR] at d2 hrow
      have hAB : 1 * 1 ≤ A * B ∧ A * B ≤ 64 * 64 := ⟨Nat.mul_le_mul A1 B1, Nat.mul_le_mul A2 B2⟩
      obtain ⟨m, hm⟩ : ∃ m, m = A * B := ⟨_, rfl⟩
      rw [← hm] at hAB
      have hmul : IntKind.i64.wrap ((A : Int) * (B : Int)) = (m : Int) := by
        have : (A : Int) * (B : Int) = (m : Int) := by rw [hm]; push_cast; rfl
        rw [this]
        simp [IntKind.wrap, IntKind.bits, IntKind.signed]
        omega
      rw [← hm] at d2 hrow
      have hrl : (repB p m).length = s * m := by rw [repB_len, hpl, Nat.mul_comm]
      rw [hrl] at d2 hrow
      have hbm : Byt (repB p m) := rep_byt (unhide HPB) _
      obtain ⟨z, hz⟩ : ∃ z, z = s * m := ⟨_, rfl⟩
      rw [← hz] at d2 hrow
      have HR : Hid (∀ wx, Ext wr wx → Calls Try.prog 25 #[.slice bo s bcap, .int .i64 (m : Int)] wx fun e w' => ∃ g, e = .returned (.slice (some ⟨g, 0, none⟩) z z) ∧ Hid (Row .u8 w' (.slice (some ⟨g, 0, none⟩) z z) (repB p m)) ∧ Ext wx w') := fun wx hx => by
        have h9 := unhide HRE wx m (by omega) (by omega) (((unhide HX4).trans (unhide hxr)).trans hx)
        rw [← hz] at h9
        exact h9
      have HE : Hid (∀ wx g, Ext wr wx → Hid (Row .u8 wx (.slice (some ⟨g, 0, none⟩) z z) (repB p m)) → Calls Try.prog 13 #[.slice bo3 z bc3, .slice (some ⟨g, 0, none⟩) z z] wx fun e w' => e = .returned (.bool true) ∧ w' = wx) := fun wx g hx hr => by
        have h9 := equal_any bo3 (some ⟨g, 0, none⟩) bc3 z (repB p m) (repB p m) wx (by rw [hrl, ← hz]; exact hrow.ext hx) (by rw [hrl, ← hz]; exact unhide hr) hbm hbm
        rw [hrl, ← hz] at h9
        rw [decide_eq_true rfl] at h9
        exact h9
      have HX5 := hide (((unhide hxr)).alloc (.cells #[.int .i64 (A : Int), .int .i64 (B : Int), .slice bo3 z bc3] 51))
      have HY5 := hide ((Ext.refl wr).alloc (.cells #[.int .i64 (A : Int), .int .i64 (B : Int), .slice bo3 z bc3] 51))
      have HB5 := hide (Blk.new wr #[.int .i64 (A : Int), .int .i64 (B : Int), .slice bo3 z bc3] 51)
      have hsb : ¬ bcap < s := by omega
      have hsb2 : (s : Int) ≤ (bcap : Int) := by omega
      have hsb3 : (0 : Int) ≤ (s : Int) := by omega
      clear eA eB eR hm hAB hz hrow hbm hrl hsl A1 A2 B1 B2 HEL
      go_upto_region 14 with fail
      clear d0 d1 d2
      generalize wr.alloc (.cells #[.int .i64 (A : Int), .int .i64 (B : Int), .slice bo3 z bc3] 51) = w5 at HX5 HY5 HB5 ⊢
      generalize wr.heap.size = b15 at *
      have HCL : Hid (∀ wx, Ext w5 wx → wx.cell? ⟨b15, 0, none⟩ = some (.int .i64 (A : Int)) ∧ wx.cell? ⟨b15, 1, none⟩ = some (.int .i64 (B : Int)) ∧ wx.cell? ⟨b15, 2, none⟩ = some (.slice bo3 z bc3)) := fun wx hx => ((unhide HB5).ext hx).three
      have HR5 : Hid (∀ wx, Ext w5 wx → _) := fun wx hx => unhide HR wx ((unhide HY5).trans hx)
      have HE5 : Hid (∀ wx g, Ext w5 wx → _) := fun wx g hx => unhide HE wx g ((unhide HY5).trans hx)
      go_cut [89] from 77 to 89 (fun v wc => ∃ w6, w6 = wc ∧ v = .bool false ∧ Hid (Ext w5 wc))
      case first =>
        go_region_held3 (fun wx => wx.cell? ⟨b15, 0, none⟩ = some (.int .i64 (A : Int)) ∧ wx.cell? ⟨b15, 1, none⟩ = some (.int .i64 (B : Int)) ∧ wx.cell? ⟨b15, 2, none⟩ = some (.slice bo3 z bc3))
          (first | with_reducible exact unhide HCL _ bx | with_reducible exact unhide HCL _ (ext_0 w5))
          (first
            | (go_at_call 25; with_reducible refine (unhide HR5 _ (ext_0 w5)).mono ?_; rintro e wp ⟨g, rfl, hrp, hxp⟩; have bx := (ext_0 w5).trans hxp; clear hxp)
            | (go_at_call 13; with_reducible refine (unhide HE5 _ _ bx hrp).mono ?_; rintro e we ⟨rfl, rfl⟩))
        all_goals go_wp2
        all_goals go_meet
        all_goals exact ⟨_, rfl, rfl, bx⟩
      case rest =>
      obtain ⟨w6, rfl, rfl, hx6⟩ := hcut
      have HX6 := hide ((unhide HX5).trans (unhide hx6))
      clear hx6 HCL HR5 HE5 HR HE HX5 HY5 HB5
      go_wp2
      go_roundw
      case rel => exact ⟨k + 1, by omega, by go_num, HX6⟩
      case measure => simp [intOf]; omega
    · obtain rfl : k = L3.length := by omega
      obtain ⟨q0, q1, q2, q3, q4, q5⟩ := ((unhide HB4).ext (unhide hxr)).six
      have HX7 := hide ((unhide HX4).trans (unhide hxr))
      have HXD := hide (fun m => (Ext.refl wr).drewN m)
      have HCN : Hid (∀ m, Calls Try.prog 26 #[.int .i64 (W : Int), .int .i64 (H : Int)] (wr.drewN m) fun e w' => e = .returned (.int .i64 (L3.length : Int)) ∧ w' = wr.drewN m) := fun m => by
        have h9 := count_any (W : Int) (H : Int) (wr.drewN m)
        rw [← unhide HLEN] at h9
        exact h9
      go_upto_region 17 with fail
      go_quiet (first | (go_at_call 26; refine Calls.quiet_of_same (unhide HCN _)))
      go_wp2
      go_ret
      exact ⟨by simp, (unhide HX7).trans (unhide HXD _)⟩

set_option maxRecDepth 10000
theorem plain_owes (H : Type) (enc : TypeId × Value → H) (W : World) (base : Nat) (args : Array Value) (ds : List (DataW H)) (p : List MemPlace) : Owes H enc Try.prog 6 Try.f6 Rows.imagePlainSpec W base args ds p := by
  intro hval hA hsz
  rw [Try.params6] at hA hval hsz
  obtain ⟨v0, vs0, d0, ds0, p0, q0, hargs, rfl, rfl, h0, r0⟩ := trodAll_cons hA
  obtain ⟨v1, vs1, d1, ds1, p1, q1, rfl, rfl, rfl, h1, r1⟩ := trodAll_cons r0
  obtain ⟨v2, vs2, d2, ds2, p2, q2, rfl, rfl, rfl, h2, r2⟩ := trodAll_cons r1
  obtain ⟨rfl, rfl, rfl⟩ := trodAll_nil r2
  obtain rfl : args = #[v0, v1, v2] := by cases args; simp_all
  obtain ⟨x, rfl, rfl, rfl, wx⟩ := open_int Try.underlying3 (hval 0 3 v0 rfl rfl) h0
  obtain ⟨y, rfl, rfl, rfl, wy⟩ := open_int Try.underlying3 (hval 1 3 v1 rfl rfl) h1
  obtain ⟨xs, hrow, hwf, hlen⟩ := open_row (j := 2) Try.underlying27 Try.underlying5 (by kernel_rfl) (hval 2 27 v2 rfl rfl) h2 hsz rfl rfl
  exact ⟨⟨rfl, rfl, rfl⟩, plain_walk x y (bounds_i64 wx) (bounds_i64 wy) _ xs hrow (fun z hz => bounds_u8 (hwf z hz))⟩

set_option maxRecDepth 100000 in
theorem plain_lifted (os : Os) (started : os.Started) (H : Type) (enc : TypeId × Value → H) :
    ReturnsInHanded {} Try.checked os 6 .any (Rows.imagePlainSpec.pre6 enc Try.prog Try.f6 [] false) (Rows.imagePlainSpec.post enc Try.prog Try.f6 false true false false) :=
  lift_law (C := Try.checked) own laidOut started (by kernel_rfl) Try.func6 (T := 4) rfl Try.underlying4 rfl (by kernel_rfl)
    (ChangeSpec.witness6 (enc := enc) (C := Try.checked) false ⟨#[], #[.int .i64 0, .int .i64 0, .slice none 0 0], []⟩ 8 (by kernel_rfl) (by kernel_rfl) (by kernel_rfl) (by kernel_rfl)) (plain_owes H enc)

theorem imagePlain_holds : Rows.ImagePlainSaid :=
  OpenClaim.holds_of_wide 6 Try.f6 rfl rfl rfl rfl rfl rfl rfl ⟨rfl, rfl, rfl, rfl, rfl⟩ rfl rfl rfl rfl rfl (by kernel_rfl) Try.func6 (by kernel_rfl)
    (of_decide_eq_true (by kernel_rfl)) (by unfold Func.isWrapper; rw [if_neg (of_decide_eq_false (by kernel_rfl))]; exact ⟨rfl, rfl⟩)
    (fun os started H enc _ => plain_lifted os started H enc)
#print axioms imagePlain_holds
end Go.Proofs.Ytahnmlopekgimaa
