/-
  bytes.Repeat: a pixel's bytes, again and again.
-/
import Derived.Test.YtahnmlopekgimaaIX
import Derived.Test.YtahnmlopekgimaaIH
import Derived.Test.YtahnmlopekgimaaShelf
import Derived.Lib.MakeNoZero
namespace Go.Proofs.Ytahnmlopekgimaa
open Go.RowKit
set_option linter.unusedVariables false
set_option linter.unusedSimpArgs false

/-- Block g is being filled: its first bytes are xs; there is room for n. -/
def RpI (w wr : World) (g n : Nat) (xs : List Int) : Prop := ∃ cur, wr.heap[g]? = some (.cells cur 5 (0, 0)) ∧ n ≤ cur.size ∧ cur.toList.take xs.length = xs.map (Value.int .u8) ∧ Ext w wr ∧ w.heap.size ≤ g
theorem RpI.cell {w wr : World} {g n : Nat} {xs : List Int} (h : RpI w wr g n xs) (i : Nat) (hi : i < xs.length) : wr.cell? ⟨g, i, none⟩ = some (.int .u8 xs[i]) := by
  obtain ⟨cur, h1, h2, h3, h4, h5⟩ := h
  have hB : Blk wr g cur 5 := h1
  refine hB.cell ?_
  have e := congrArg (fun l => l[i]?) h3
  simp only [List.getElem?_take, hi, if_true, List.getElem?_map] at e
  rw [← Array.getElem?_toList, e]
  simp [hi]
theorem RpI.row {w wr : World} {g n cap : Nat} {xs : List Int} (h : RpI w wr g n xs) (hc : xs.length ≤ cap) (hm : cap ≤ maxLen) : Row .u8 wr (.slice (some ⟨g, 0, none⟩) xs.length cap) xs := by
  by_cases h0 : xs = []
  · subst h0
    exact .inl ⟨rfl, _, _, rfl, (fun h => by cases h), hm⟩
  · refine .inr ⟨h0, g, 0, cap, rfl, hc, hm, fun i hi => ?_⟩
    rw [Nat.zero_add, h.cell i hi]
    simp [hi]
theorem rp_copy {w wr : World} {g n : Nat} {xs : List Int} (h : RpI w wr g n xs) (ys : List Int) (a : Addr) (hsrc : ∀ j v, (ys.map (Value.int .u8))[j]? = some v → wr.cell? (a.add j) = some v) (dl dc sl sc : Nat) (hk : ys.length = Nat.min sl dl) (hfit : xs.length + ys.length ≤ n) :
    ∃ w', (∀ ty, (Builtin.copy_ #[27, 27] ty #[.slice (some ⟨g, xs.length, none⟩) dl dc, .slice (some a) sl sc]).run Try.prog wr = .ok (goInt ys.length) w') ∧ RpI w w' g n (xs ++ ys) := by
  obtain ⟨cur, h1, h2, h3, h4, h5⟩ := h
  have hl2 : (ys.map (Value.int .u8)).length = ys.length := by simp
  have hrun := fun ty => run_copy_row (P := Try.prog) wr 27 27 ty 5 g xs.length dl dc a sl sc cur 5 (ys.map (Value.int .u8)) Try.underlying27 size8 h1 (by rw [hl2]; exact hk) hsrc (by rw [hl2]; omega) (ints_oneCell _ _)
  rw [hl2] at hrun
  refine ⟨_, hrun, _, setRow_heap wr g cur (cur.toList.take xs.length ++ ys.map (Value.int .u8) ++ cur.toList.drop (xs.length + ys.length)).toArray 5 (0, 0) h1, ?_, ?_, ?_, h5⟩
  · simp
    omega
  · rw [h3, List.map_append]
    refine List.take_left' ?_
    simp
  · refine h4.grown (row := some g) ⟨rfl, rfl, rfl, by simp [World.setRow], fun k _ hk => setRow_other wr g k _ (fun e => hk (by rw [e]))⟩ h4.size ?_
    intro k hk
    cases hk
    exact h5
theorem repB_add (p : List Int) (a b : Nat) : repB p (a + b) = repB p a ++ repB p b := by
  unfold repB
  rw [← List.flatten_append, List.replicate_append_replicate]
theorem repB_take (p : List Int) (a d : Nat) (h : d ≤ a) : (repB p a).take (d * p.length) = repB p d := by
  obtain ⟨e, rfl⟩ : ∃ e, a = d + e := ⟨a - d, by omega⟩
  rw [repB_add]
  exact List.take_left' (repB_len p d)

set_option maxRecDepth 10000 in
set_option maxHeartbeats 300000 in
theorem repeat_any {w : World} (ao : Option Addr) (cap : Nat) (p : List Int) (c : Nat) (hr : Row .u8 w (.slice ao p.length cap) p) (hp : 1 ≤ p.length ∧ p.length ≤ 4) (hc : 1 ≤ c ∧ c ≤ 4096) :
    Calls Try.prog 25 #[.slice ao p.length cap, .int .i64 (c : Int)] w fun e w' => ∃ g, e = .returned (.slice (some ⟨g, 0, none⟩) (p.length * c) (p.length * c)) ∧ RpI w w' g (p.length * c) (repB p c) := by
  obtain ⟨l, hl⟩ : ∃ l, l = p.length := ⟨_, rfl⟩
  obtain ⟨n, hn⟩ : ∃ n, n = l * c := ⟨_, rfl⟩
  have hn2 : l * c ≤ 4 * 4096 := Nat.mul_le_mul (by omega) hc.2
  have hn1 : 1 * 1 ≤ l * c := Nat.mul_le_mul (by omega) hc.1
  obtain ⟨b, off, rfl, hcell⟩ := hr.at 0 (by omega)
  have HR := hide hr
  have HCE := hide hcell
  have HL := hide hl
  have HN := hide hn
  have hMul := Try.bits_Mul l c (by omega) (by omega) w
  rw [← hn, Nat.div_eq_of_lt (by omega : n < 18446744073709551616), Nat.mod_eq_of_lt (by omega : n < 18446744073709551616)] at hMul
  have HMU := hide hMul
  have u1 : IntKind.u64.wrap (l : Int) = (l : Int) := by rw [IntKind.wrap_u64]; omega
  have u2 : IntKind.u64.wrap (c : Int) = (c : Int) := by rw [IntKind.wrap_u64]; omega
  have u3 : IntKind.i64.wrap (n : Int) = (n : Int) := by simp [IntKind.wrap, IntKind.bits, IntKind.signed]; omega
  have b1 : ((c : Int) == 0) = false := by simp; omega
  have b2 : ¬ (c : Int) < 0 := by omega
  have b3 : ((l : Int) == 0) = false := by simp; omega
  have b4 : ¬ (9223372036854775807 : Int) < (n : Int) := by omega
  have hn3 : n ≤ 16384 := by omega
  rw [← hl, ← hn]
  have hl4 : 1 ≤ l ∧ l ≤ 4 := by omega
  have hn0 : 1 ≤ n := by omega
  clear hr hcell hMul hn1 hn2 hl hn hp
  go_enter Try.func25, Try.ntmps25
  go_wp2_with fail
  refine (unhide HMU).mono ?_
  rintro e w1 ⟨rfl, rfl⟩
  go_upto_region 11 with fail
  clear u1 u2 b1 b2 b3 b4
  by_cases hbig : 8192 < n
  · have h1 : (8192 : Int) < (n : Int) := by omega
    have b5 : ¬ (l : Int) = 0 := by omega
    obtain ⟨m, hm, hm1, hm2⟩ : ∃ m : Nat, wrap64 (8192 / (l : Int) * (l : Int)) = ((m * l : Nat) : Int) ∧ 1 ≤ m ∧ m * l ≤ 8192 := by
      obtain rfl | rfl | rfl | rfl : l = 1 ∨ l = 2 ∨ l = 3 ∨ l = 4 := by omega
      · exact ⟨8192, by simp [wrap64], by omega, by omega⟩
      · exact ⟨4096, by simp [wrap64], by omega, by omega⟩
      · exact ⟨2730, by simp [wrap64], by omega, by omega⟩
      · exact ⟨2048, by simp [wrap64], by omega, by omega⟩
    obtain ⟨q, hq⟩ : ∃ q, q = m * l := ⟨_, rfl⟩
    rw [← hq] at hm hm2
    have HQ := hide hq
    have HM := hide hm
    have hq1 : 1 * 1 ≤ m * l := Nat.mul_le_mul hm1 hl4.1
    have hq0 : 1 ≤ q := by omega
    clear hq hm hq1
    go_upto_region 14 with fail
    rw [unhide HM]
    have b6 : ((q : Int) == 0) = false := by simp; omega
    go_upto_region 16 with fail
    clear h1 b5 b6 HM hbig
    obtain ⟨cs, hrunM, hle, hmax⟩ := Lib.run_makeNoZero (P := Try.prog) w1 #[3] 27 5 Try.underlying27 n (by omega)
    have hcall : (callFunc 51 #[.int .i64 (n : Int)]).run Try.prog w1 = .ok (.value (.slice (some ⟨w1.heap.size, 0, none⟩) n cs.size)) ((w1.alloc (.cells cs 5)).drewN 2) := by
      rw [run_callFunc_extern Try.func51 (by kernel_rfl) (by kernel_rfl) (by kernel_rfl) (e := Extern.BytealgMakeNoZero.makeNoZero #[3] #[27]) (by kernel_rfl), hrunM]
      rfl
    have hI0 : RpI w1 ((w1.alloc (.cells cs 5)).drewN 2) w1.heap.size n [] := ⟨cs, Blk.drewN (Blk.new w1 cs 5) 2, hle, rfl, ((Ext.refl w1).alloc _).drewN 2, Nat.le_refl _⟩
    have HI0 := hide hI0
    clear hrunM hI0
    have i0 : (0 : Int) ≤ (n : Int) := by omega
    have i1 : (n : Int) ≤ (cs.size : Int) := by omega
    have i2 : ¬ cs.size < n := by omega
    go_upto_region 17 with fail
    clear hcall i0 i1 i2 hle hmax
    generalize (w1.alloc (.cells cs 5)).drewN 2 = w2 at HI0 ⊢
    obtain ⟨w3, hr3, hI3⟩ := rp_copy (unhide HI0) p ⟨b, off, none⟩ (fun j v hv => by
      have hx2 : Ext w1 w2 := by obtain ⟨_, _, _, _, h, _⟩ := unhide HI0; exact h
      obtain ⟨b', off', e9, hcc⟩ := ((unhide HR).ext hx2).at 0 (by have := unhide HL; omega)
      cases e9
      have hj : j < p.length := by
        have := (List.getElem?_eq_some_iff.1 hv).1
        simpa using this
      rw [Addr.add_lit, hcc j hj]
      rw [List.getElem?_map, List.getElem?_eq_getElem hj] at hv
      exact hv) n n l cap (by rw [← unhide HL]; exact (Nat.min_eq_left (by have h3 : l * 1 ≤ l * c := Nat.mul_le_mul_left l hc.1; have := unhide HN; omega)).symm) (by rw [← unhide HL]; have h3 : l * 1 ≤ l * c := Nat.mul_le_mul_left l hc.1; have := unhide HN; simp; omega)
    rw [← unhide HL, List.length_nil] at hr3
    rw [List.nil_append] at hI3
    have HI3 : Hid (RpI w1 w3 w1.heap.size n (repB p 1)) := by
      have e9 : repB p 1 = p := by simp [repB]
      show RpI _ _ _ _ _
      rw [e9]
      exact hI3
    clear HI0 hI3
    go_upto_region 18 with fail
    clear hr3
    go_loopw [10] (fun s10 wr => ∃ a bp : Nat, 1 ≤ a ∧ a ≤ c ∧ 1 ≤ bp ∧ bp ≤ n ∧ s10 = .int .i64 (bp : Int) ∧ Hid (bp = a * l) ∧ Hid (RpI w1 wr w1.heap.size n (repB p a))) (fun s10 _ => n - (intOf s10).toNat)
    case atStart => exact ⟨1, l, Nat.le_refl _, hc.1, hl4.1, by have h3 : l * 1 ≤ l * c := Nat.mul_le_mul_left l hc.1; have := unhide HN; omega, by go_num, (Nat.one_mul l).symm, HI3⟩
    case round =>
      clear HI3
      obtain ⟨a, bp, ha1, hac, hb1, hbn, rfl, HA, HI⟩ := hrel
      by_cases hlt : bp < n
      · have hkn : (bp : Int) < (n : Int) := by omega
        go_upto_region 19 with fail
        obtain ⟨e, hee, he1, he2⟩ : ∃ e : Nat, e = min a m ∧ 1 ≤ e ∧ e ≤ a := ⟨_, rfl, by omega, by omega⟩
        obtain ⟨z, hz⟩ : ∃ z, z = e * l := ⟨_, rfl⟩
        have hzq : (z : Int) = if (q : Int) < (bp : Int) then (q : Int) else (bp : Int) := by
          have h4 := unhide HA
          have h5 := unhide HQ
          by_cases hqm : q < bp
          · rw [if_pos (by omega), hz, hee]
            have : m ≤ a := Nat.le_of_lt (Nat.lt_of_mul_lt_mul_right (a := l) (by omega))
            rw [Nat.min_eq_right this, h5]
          · rw [if_neg (by omega), hz, hee]
            have : a ≤ m := Nat.le_of_mul_le_mul_right (c := l) (by omega) (by omega)
            rw [Nat.min_eq_left this, h4]
        go_cut [11] (fun v11 wc => v11 = .int .i64 (z : Int) ∧ wr = wc)
        case first =>
          by_cases hqm : (q : Int) < (bp : Int)
          · rw [if_pos hqm] at hzq
            have HZ := hide hzq
            clear hzq hz hee
            go_wp2
            go_meet
            exact ⟨by rw [unhide HZ], rfl⟩
          · rw [if_neg hqm] at hzq
            have HZ := hide hzq
            clear hzq hz hee
            go_wp2
            go_meet
            exact ⟨by rw [unhide HZ], rfl⟩
        case rest =>
        obtain ⟨rfl, rfl⟩ := hcut
        have hzb : z ≤ bp := by split at hzq <;> omega
        clear hzq hee
        go_upto_region 20 with fail
        obtain ⟨d, hd1, hdc, hde, hdk⟩ : ∃ d : Nat, 1 ≤ d ∧ a + d ≤ c ∧ d ≤ e ∧ d * l = Nat.min z (n - bp) := by
          have h4 := unhide HA
          have h5 := unhide HN
          have h6 : n - bp = (c - a) * l := by rw [h4, h5, Nat.sub_mul, Nat.mul_comm l c]
          refine ⟨min e (c - a), ?_, by omega, by omega, ?_⟩
          · have : a ≠ c := fun e9 => by rw [e9, Nat.mul_comm c l, ← h5] at h4; omega
            omega
          · rw [h6, hz]
            rcases Nat.le_total e (c - a) with h7 | h7
            · rw [Nat.min_eq_left h7]
              exact (Nat.min_eq_left (Nat.mul_le_mul_right l h7)).symm
            · rw [Nat.min_eq_right h7]
              exact (Nat.min_eq_right (Nat.mul_le_mul_right l h7)).symm
        have hID : RpI w1 wr.drew w1.heap.size n (repB p a) := by
          obtain ⟨cur, y1, y2, y3, y4, y5⟩ := unhide HI
          exact ⟨cur, y1, y2, y3, y4.drew, y5⟩
        have hla : (repB p a).length = bp := by rw [repB_len, ← unhide HL, unhide HA]
        have hld : (repB p d).length = d * l := by rw [repB_len, ← unhide HL]
        have hda : d ≤ a := by omega
        have hfit : bp + d * l ≤ n := by
          have h8 : Nat.min z (n - bp) ≤ n - bp := Nat.min_le_right _ _
          omega
        obtain ⟨w6, hr6, hI6⟩ := rp_copy hID (repB p d) ⟨w1.heap.size, 0, none⟩ (fun j v hv => by
          have hj : j < (repB p d).length := by
            have := (List.getElem?_eq_some_iff.1 hv).1
            simpa using this
          have hja : j < (repB p a).length := by
            have := Nat.mul_le_mul_right l hda
            rw [hld] at hj
            rw [hla, unhide HA]
            omega
          rw [Addr.add_lit, Nat.zero_add, hID.cell j hja]
          rw [List.getElem?_map, List.getElem?_eq_getElem hj] at hv
          rw [← hv]
          have e9 := repB_take p a d hda
          have : (repB p d)[j] = (repB p a)[j] := by
            have e8 : ((repB p a).take (d * p.length))[j]? = (repB p d)[j]? := by rw [e9]
            rw [List.getElem?_take, if_pos (by rw [← unhide HL, ← hld]; exact hj), List.getElem?_eq_getElem hja, List.getElem?_eq_getElem hj] at e8
            exact (Option.some.inj e8).symm
          rw [this]
          rfl) (n - bp) (n - bp) z n (by rw [hld]; exact hdk) (by rw [hla, hld]; exact hfit)
        rw [hla, hld] at hr6
        rw [← repB_add] at hI6
        obtain ⟨k, hk⟩ : ∃ k, k = d * l := ⟨_, rfl⟩
        rw [← hk] at hr6 hfit
        have hk1 : 1 ≤ k := by rw [hk]; exact Nat.mul_le_mul hd1 hl4.1
        have HR6 := hide hr6
        have HI6 := hide hI6
        have HK := hide hk
        have HWK : Hid (IntKind.i64.wrap ((bp : Int) + (k : Int)) = (bp : Int) + (k : Int)) := by
          show _ = _
          simp [IntKind.wrap, IntKind.bits, IntKind.signed]
          omega
        clear hr6 hI6 hk hdk hz hla hld hID
        refine wp_region_noPanic ?_
        refine wp_region_held_drew (S := fun wx => True) (by kernel_rfl) trivial (fun HS => ?_)
        refine wpAnyH_take (i := 0) (oi := { dst := some 67, op := Op.move (Operand.tmp 10), type := 3, pos := _, after := _, guard := none }) (v := .int .i64 (bp : Int)) rfl (by kernel_rfl) (by kernel_rfl) (by kernel_rfl) (fun _ _ _ h => h) (Or.inl ⟨by rfl, fun _ _ => rfl⟩) HS ?_
        simp only [Act.put, List.setIfInBounds_toArray, List.set_cons_zero, List.set_cons_succ]
        refine wpAnyH_take (i := 1) (oi := { dst := some 68, op := Op.move (Operand.tmp 9), type := 27, pos := _, after := _, guard := none }) (v := .slice (some ⟨w1.heap.size, 0, none⟩) n n) rfl (by kernel_rfl) (by kernel_rfl) (by kernel_rfl) (fun _ _ _ h => h) (Or.inl ⟨by rfl, fun _ _ => rfl⟩) HS ?_
        simp only [Act.put, List.setIfInBounds_toArray, List.set_cons_zero, List.set_cons_succ]
        refine wpAnyH_take (i := 2) (oi := { dst := some 69, op := Op.move (Operand.tmp 10), type := 3, pos := _, after := _, guard := none }) (v := .int .i64 (bp : Int)) rfl (by kernel_rfl) (by kernel_rfl) (by kernel_rfl) (fun _ _ _ h => h) (Or.inl ⟨by rfl, fun _ _ => rfl⟩) HS ?_
        simp only [Act.put, List.setIfInBounds_toArray, List.set_cons_zero, List.set_cons_succ]
        refine wpAnyH_take (i := 3) (oi := { dst := some 70, op := Op.slice 27 (Operand.tmp 68) (some (Operand.tmp 69)) none none, type := 27, pos := _, after := _, guard := none }) (v := .slice (some ⟨w1.heap.size, bp, none⟩) (n - bp) (n - bp)) rfl (by kernel_rfl) (by kernel_rfl) (by kernel_rfl) (fun _ _ _ h => h) (Or.inl ⟨by rfl, fun wx hx => by go_simp; try omega⟩) HS ?_
        simp only [Act.put, List.setIfInBounds_toArray, List.set_cons_zero, List.set_cons_succ]
        refine wpAnyH_take (i := 4) (oi := { dst := some 71, op := Op.move (Operand.tmp 9), type := 27, pos := _, after := _, guard := none }) (v := .slice (some ⟨w1.heap.size, 0, none⟩) n n) rfl (by kernel_rfl) (by kernel_rfl) (by kernel_rfl) (fun _ _ _ h => h) (Or.inl ⟨by rfl, fun _ _ => rfl⟩) HS ?_
        simp only [Act.put, List.setIfInBounds_toArray, List.set_cons_zero, List.set_cons_succ]
        refine wpAnyH_take (i := 5) (oi := { dst := some 72, op := Op.move (Operand.tmp 11), type := 3, pos := _, after := _, guard := none }) (v := .int .i64 (z : Int)) rfl (by kernel_rfl) (by kernel_rfl) (by kernel_rfl) (fun _ _ _ h => h) (Or.inl ⟨by rfl, fun _ _ => rfl⟩) HS ?_
        simp only [Act.put, List.setIfInBounds_toArray, List.set_cons_zero, List.set_cons_succ]
        refine wpAnyH_take (i := 6) (oi := { dst := some 73, op := Op.slice 27 (Operand.tmp 71) none (some (Operand.tmp 72)) none, type := 27, pos := _, after := _, guard := none }) (v := .slice (some ⟨w1.heap.size, 0, none⟩) z n) rfl (by kernel_rfl) (by kernel_rfl) (by kernel_rfl) (fun _ _ _ h => h) (Or.inl ⟨by rfl, fun wx hx => by go_simp; try omega⟩) HS ?_
        simp only [Act.put, List.setIfInBounds_toArray, List.set_cons_zero, List.set_cons_succ]
        refine wpAnyH_ready (rs := [7]) (by kernel_rfl) (by simp) (AllReadyH.cons (o := { dst := some 74, op := Op.call { callee := Callee.builtin Builtin.copy, args := #[Operand.tmp 70, Operand.tmp 73], argTypes := #[27, 27] }, type := 3, pos := _, after := _, guard := none }) rfl (fun KK hK => ?_) AllReadyH.nil)
        have hr6 := unhide HR6 3
        go_simp
        refine hK.out _ _ trivial (fun _ => ?_)
        clear hK KK
        try simp only [Act.put, List.setIfInBounds_toArray, List.set_cons_zero, List.set_cons_succ]
        refine wpAnyH_take (i := 8) (oi := { dst := some 75, op := Op.binOp BinOp.add 3 (Operand.tmp 67) (Operand.tmp 74) 3, type := 3, pos := _, after := _, guard := none }) (v := .int .i64 ((bp : Int) + (k : Int))) rfl (by kernel_rfl) (by kernel_rfl) (by kernel_rfl) (fun _ _ _ h => h) (Or.inl ⟨by rfl, fun wx hx => by have hw9 := unhide HWK; go_simp⟩) HS ?_
        simp only [Act.put, List.setIfInBounds_toArray, List.set_cons_zero, List.set_cons_succ]
        refine wpAnyH_take (i := 9) (oi := { dst := some 10, op := Op.assign (Operand.tmp 75), type := 3, pos := _, after := _, guard := none }) (v := .int .i64 ((bp : Int) + (k : Int))) rfl (by kernel_rfl) (by kernel_rfl) (by kernel_rfl) (fun _ _ _ h => h) (Or.inl ⟨by rfl, fun _ _ => rfl⟩) HS ?_
        simp only [Act.put, List.setIfInBounds_toArray, List.set_cons_zero, List.set_cons_succ]
        refine wpAnyH_done (by kernel_rfl) ?_ _
        refine NoPanic.normal ?_
        go_wp2
        go_roundw
        case rel => exact ⟨a + d, bp + k, by omega, hdc, by omega, hfit, by go_num, (by show bp + k = (a + d) * l; rw [Nat.add_mul, ← unhide HA, ← unhide HK]), HI6⟩
        case measure => simp [intOf]; omega
      · have hkn : ¬ (bp : Int) < (n : Int) := by omega
        have hbn2 : bp = n := by omega
        have hac2 : a = c := by
          have h4 := unhide HA
          have h5 := unhide HN
          rw [hbn2, h5, Nat.mul_comm a l] at h4
          exact (Nat.eq_of_mul_eq_mul_left (by omega) h4).symm
        rw [hac2] at HI
        clear hbn2 hac2
        go_wp2
        go_ret
        exact ⟨w1.heap.size, rfl, unhide HI⟩

  · have h1 : ¬ (8192 : Int) < (n : Int) := by omega
    have HQ : Hid (n = c * l) := by show _ = _; rw [unhide HN, Nat.mul_comm]
    go_upto_region 16 with fail
    clear h1 hbig
    obtain ⟨cs, hrunM, hle, hmax⟩ := Lib.run_makeNoZero (P := Try.prog) w1 #[3] 27 5 Try.underlying27 n (by omega)
    have hcall : (callFunc 51 #[.int .i64 (n : Int)]).run Try.prog w1 = .ok (.value (.slice (some ⟨w1.heap.size, 0, none⟩) n cs.size)) ((w1.alloc (.cells cs 5)).drewN 2) := by
      rw [run_callFunc_extern Try.func51 (by kernel_rfl) (by kernel_rfl) (by kernel_rfl) (e := Extern.BytealgMakeNoZero.makeNoZero #[3] #[27]) (by kernel_rfl), hrunM]
      rfl
    have hI0 : RpI w1 ((w1.alloc (.cells cs 5)).drewN 2) w1.heap.size n [] := ⟨cs, Blk.drewN (Blk.new w1 cs 5) 2, hle, rfl, ((Ext.refl w1).alloc _).drewN 2, Nat.le_refl _⟩
    have HI0 := hide hI0
    clear hrunM hI0
    have i0 : (0 : Int) ≤ (n : Int) := by omega
    have i1 : (n : Int) ≤ (cs.size : Int) := by omega
    have i2 : ¬ cs.size < n := by omega
    go_upto_region 17 with fail
    clear hcall i0 i1 i2 hle hmax
    generalize (w1.alloc (.cells cs 5)).drewN 2 = w2 at HI0 ⊢
    obtain ⟨w3, hr3, hI3⟩ := rp_copy (unhide HI0) p ⟨b, off, none⟩ (fun j v hv => by
      have hx2 : Ext w1 w2 := by obtain ⟨_, _, _, _, h, _⟩ := unhide HI0; exact h
      obtain ⟨b', off', e9, hcc⟩ := ((unhide HR).ext hx2).at 0 (by have := unhide HL; omega)
      cases e9
      have hj : j < p.length := by
        have := (List.getElem?_eq_some_iff.1 hv).1
        simpa using this
      rw [Addr.add_lit, hcc j hj]
      rw [List.getElem?_map, List.getElem?_eq_getElem hj] at hv
      exact hv) n n l cap (by rw [← unhide HL]; exact (Nat.min_eq_left (by have h3 : l * 1 ≤ l * c := Nat.mul_le_mul_left l hc.1; have := unhide HN; omega)).symm) (by rw [← unhide HL]; have h3 : l * 1 ≤ l * c := Nat.mul_le_mul_left l hc.1; have := unhide HN; simp; omega)
    rw [← unhide HL, List.length_nil] at hr3
    rw [List.nil_append] at hI3
    have HI3 : Hid (RpI w1 w3 w1.heap.size n (repB p 1)) := by
      have e9 : repB p 1 = p := by simp [repB]
      show RpI _ _ _ _ _
      rw [e9]
      exact hI3
    clear HI0 hI3
    go_upto_region 18 with fail
    clear hr3
    go_loopw [10] (fun s10 wr => ∃ a bp : Nat, 1 ≤ a ∧ a ≤ c ∧ 1 ≤ bp ∧ bp ≤ n ∧ s10 = .int .i64 (bp : Int) ∧ Hid (bp = a * l) ∧ Hid (RpI w1 wr w1.heap.size n (repB p a))) (fun s10 _ => n - (intOf s10).toNat)
    case atStart => exact ⟨1, l, Nat.le_refl _, hc.1, hl4.1, by have h3 : l * 1 ≤ l * c := Nat.mul_le_mul_left l hc.1; have := unhide HN; omega, by go_num, (Nat.one_mul l).symm, HI3⟩
    case round =>
      clear HI3
      obtain ⟨a, bp, ha1, hac, hb1, hbn, rfl, HA, HI⟩ := hrel
      by_cases hlt : bp < n
      · have hkn : (bp : Int) < (n : Int) := by omega
        go_upto_region 19 with fail
        obtain ⟨e, hee, he1, he2⟩ : ∃ e : Nat, e = min a c ∧ 1 ≤ e ∧ e ≤ a := ⟨_, rfl, by omega, by omega⟩
        obtain ⟨z, hz⟩ : ∃ z, z = e * l := ⟨_, rfl⟩
        have hzq : (z : Int) = if (n : Int) < (bp : Int) then (n : Int) else (bp : Int) := by
          have h4 := unhide HA
          have h5 := unhide HQ
          by_cases hqm : n < bp
          · rw [if_pos (by omega), hz, hee]
            have : c ≤ a := Nat.le_of_lt (Nat.lt_of_mul_lt_mul_right (a := l) (by omega))
            rw [Nat.min_eq_right this, h5]
          · rw [if_neg (by omega), hz, hee]
            have : a ≤ c := Nat.le_of_mul_le_mul_right (c := l) (by omega) (by omega)
            rw [Nat.min_eq_left this, h4]
        go_cut [11] (fun v11 wc => v11 = .int .i64 (z : Int) ∧ wr = wc)
        case first =>
          by_cases hqm : (n : Int) < (bp : Int)
          · rw [if_pos hqm] at hzq
            have HZ := hide hzq
            clear hzq hz hee
            go_wp2
            go_meet
            exact ⟨by rw [unhide HZ], rfl⟩
          · rw [if_neg hqm] at hzq
            have HZ := hide hzq
            clear hzq hz hee
            go_wp2
            go_meet
            exact ⟨by rw [unhide HZ], rfl⟩
        case rest =>
        obtain ⟨rfl, rfl⟩ := hcut
        have hzb : z ≤ bp := by split at hzq <;> omega
        clear hzq hee
        go_upto_region 20 with fail
        obtain ⟨d, hd1, hdc, hde, hdk⟩ : ∃ d : Nat, 1 ≤ d ∧ a + d ≤ c ∧ d ≤ e ∧ d * l = Nat.min z (n - bp) := by
          have h4 := unhide HA
          have h5 := unhide HN
          have h6 : n - bp = (c - a) * l := by rw [h4, h5, Nat.sub_mul, Nat.mul_comm l c]
          refine ⟨min e (c - a), ?_, by omega, by omega, ?_⟩
          · have : a ≠ c := fun e9 => by rw [e9, Nat.mul_comm c l, ← h5] at h4; omega
            omega
          · rw [h6, hz]
            rcases Nat.le_total e (c - a) with h7 | h7
            · rw [Nat.min_eq_left h7]
              exact (Nat.min_eq_left (Nat.mul_le_mul_right l h7)).symm
            · rw [Nat.min_eq_right h7]
              exact (Nat.min_eq_right (Nat.mul_le_mul_right l h7)).symm
        have hID : RpI w1 wr.drew w1.heap.size n (repB p a) := by
          obtain ⟨cur, y1, y2, y3, y4, y5⟩ := unhide HI
          exact ⟨cur, y1, y2, y3, y4.drew, y5⟩
        have hla : (repB p a).length = bp := by rw [repB_len, ← unhide HL, unhide HA]
        have hld : (repB p d).length = d * l := by rw [repB_len, ← unhide HL]
        have hda : d ≤ a := by omega
        have hfit : bp + d * l ≤ n := by
          have h8 : Nat.min z (n - bp) ≤ n - bp := Nat.min_le_right _ _
          omega
        obtain ⟨w6, hr6, hI6⟩ := rp_copy hID (repB p d) ⟨w1.heap.size, 0, none⟩ (fun j v hv => by
          have hj : j < (repB p d).length := by
            have := (List.getElem?_eq_some_iff.1 hv).1
            simpa using this
          have hja : j < (repB p a).length := by
            have := Nat.mul_le_mul_right l hda
            rw [hld] at hj
            rw [hla, unhide HA]
            omega
          rw [Addr.add_lit, Nat.zero_add, hID.cell j hja]
          rw [List.getElem?_map, List.getElem?_eq_getElem hj] at hv
          rw [← hv]
          have e9 := repB_take p a d hda
          have : (repB p d)[j] = (repB p a)[j] := by
            have e8 : ((repB p a).take (d * p.length))[j]? = (repB p d)[j]? := by rw [e9]
            rw [List.getElem?_take, if_pos (by rw [← unhide HL, ← hld]; exact hj), List.getElem?_eq_getElem hja, List.getElem?_eq_getElem hj] at e8
            exact (Option.some.inj e8).symm
          rw [this]
          rfl) (n - bp) (n - bp) z n (by rw [hld]; exact hdk) (by rw [hla, hld]; exact hfit)
        rw [hla, hld] at hr6
        rw [← repB_add] at hI6
        obtain ⟨k, hk⟩ : ∃ k, k = d * l := ⟨_, rfl⟩
        rw [← hk] at hr6 hfit
        have hk1 : 1 ≤ k := by rw [hk]; exact Nat.mul_le_mul hd1 hl4.1
        have HR6 := hide hr6
        have HI6 := hide hI6
        have HK := hide hk
        have HWK : Hid (IntKind.i64.wrap ((bp : Int) + (k : Int)) = (bp : Int) + (k : Int)) := by
          show _ = _
          simp [IntKind.wrap, IntKind.bits, IntKind.signed]
          omega
        clear hr6 hI6 hk hdk hz hla hld hID
        refine wp_region_noPanic ?_
        refine wp_region_held_drew (S := fun wx => True) (by kernel_rfl) trivial (fun HS => ?_)
        refine wpAnyH_take (i := 0) (oi := { dst := some 67, op := Op.move (Operand.tmp 10), type := 3, pos := _, after := _, guard := none }) (v := .int .i64 (bp : Int)) rfl (by kernel_rfl) (by kernel_rfl) (by kernel_rfl) (fun _ _ _ h => h) (Or.inl ⟨by rfl, fun _ _ => rfl⟩) HS ?_
        simp only [Act.put, List.setIfInBounds_toArray, List.set_cons_zero, List.set_cons_succ]
        refine wpAnyH_take (i := 1) (oi := { dst := some 68, op := Op.move (Operand.tmp 9), type := 27, pos := _, after := _, guard := none }) (v := .slice (some ⟨w1.heap.size, 0, none⟩) n n) rfl (by kernel_rfl) (by kernel_rfl) (by kernel_rfl) (fun _ _ _ h => h) (Or.inl ⟨by rfl, fun _ _ => rfl⟩) HS ?_
        simp only [Act.put, List.setIfInBounds_toArray, List.set_cons_zero, List.set_cons_succ]
        refine wpAnyH_take (i := 2) (oi := { dst := some 69, op := Op.move (Operand.tmp 10), type := 3, pos := _, after := _, guard := none }) (v := .int .i64 (bp : Int)) rfl (by kernel_rfl) (by kernel_rfl) (by kernel_rfl) (fun _ _ _ h => h) (Or.inl ⟨by rfl, fun _ _ => rfl⟩) HS ?_
        simp only [Act.put, List.setIfInBounds_toArray, List.set_cons_zero, List.set_cons_succ]
        refine wpAnyH_take (i := 3) (oi := { dst := some 70, op := Op.slice 27 (Operand.tmp 68) (some (Operand.tmp 69)) none none, type := 27, pos := _, after := _, guard := none }) (v := .slice (some ⟨w1.heap.size, bp, none⟩) (n - bp) (n - bp)) rfl (by kernel_rfl) (by kernel_rfl) (by kernel_rfl) (fun _ _ _ h => h) (Or.inl ⟨by rfl, fun wx hx => by go_simp; try omega⟩) HS ?_
        simp only [Act.put, List.setIfInBounds_toArray, List.set_cons_zero, List.set_cons_succ]
        refine wpAnyH_take (i := 4) (oi := { dst := some 71, op := Op.move (Operand.tmp 9), type := 27, pos := _, after := _, guard := none }) (v := .slice (some ⟨w1.heap.size, 0, none⟩) n n) rfl (by kernel_rfl) (by kernel_rfl) (by kernel_rfl) (fun _ _ _ h => h) (Or.inl ⟨by rfl, fun _ _ => rfl⟩) HS ?_
        simp only [Act.put, List.setIfInBounds_toArray, List.set_cons_zero, List.set_cons_succ]
        refine wpAnyH_take (i := 5) (oi := { dst := some 72, op := Op.move (Operand.tmp 11), type := 3, pos := _, after := _, guard := none }) (v := .int .i64 (z : Int)) rfl (by kernel_rfl) (by kernel_rfl) (by kernel_rfl) (fun _ _ _ h => h) (Or.inl ⟨by rfl, fun _ _ => rfl⟩) HS ?_
        simp only [Act.put, List.setIfInBounds_toArray, List.set_cons_zero, List.set_cons_succ]
        refine wpAnyH_take (i := 6) (oi := { dst := some 73, op := Op.slice 27 (Operand.tmp 71) none (some (Operand.tmp 72)) none, type := 27, pos := _, after := _, guard := none }) (v := .slice (some ⟨w1.heap.size, 0, none⟩) z n) rfl (by kernel_rfl) (by kernel_rfl) (by kernel_rfl) (fun _ _ _ h => h) (Or.inl ⟨by rfl, fun wx hx => by go_simp; try omega⟩) HS ?_
        simp only [Act.put, List.setIfInBounds_toArray, List.set_cons_zero, List.set_cons_succ]
        refine wpAnyH_ready (rs := [7]) (by kernel_rfl) (by simp) (AllReadyH.cons (o := { dst := some 74, op := Op.call { callee := Callee.builtin Builtin.copy, args := #[Operand.tmp 70, Operand.tmp 73], argTypes := #[27, 27] }, type := 3, pos := _, after := _, guard := none }) rfl (fun KK hK => ?_) AllReadyH.nil)
        have hr6 := unhide HR6 3
        go_simp
        refine hK.out _ _ trivial (fun _ => ?_)
        clear hK KK
        try simp only [Act.put, List.setIfInBounds_toArray, List.set_cons_zero, List.set_cons_succ]
        refine wpAnyH_take (i := 8) (oi := { dst := some 75, op := Op.binOp BinOp.add 3 (Operand.tmp 67) (Operand.tmp 74) 3, type := 3, pos := _, after := _, guard := none }) (v := .int .i64 ((bp : Int) + (k : Int))) rfl (by kernel_rfl) (by kernel_rfl) (by kernel_rfl) (fun _ _ _ h => h) (Or.inl ⟨by rfl, fun wx hx => by have hw9 := unhide HWK; go_simp⟩) HS ?_
        simp only [Act.put, List.setIfInBounds_toArray, List.set_cons_zero, List.set_cons_succ]
        refine wpAnyH_take (i := 9) (oi := { dst := some 10, op := Op.assign (Operand.tmp 75), type := 3, pos := _, after := _, guard := none }) (v := .int .i64 ((bp : Int) + (k : Int))) rfl (by kernel_rfl) (by kernel_rfl) (by kernel_rfl) (fun _ _ _ h => h) (Or.inl ⟨by rfl, fun _ _ => rfl⟩) HS ?_
        simp only [Act.put, List.setIfInBounds_toArray, List.set_cons_zero, List.set_cons_succ]
        refine wpAnyH_done (by kernel_rfl) ?_ _
        refine NoPanic.normal ?_
        go_wp2
        go_roundw
        case rel => exact ⟨a + d, bp + k, by omega, hdc, by omega, hfit, by go_num, (by show bp + k = (a + d) * l; rw [Nat.add_mul, ← unhide HA, ← unhide HK]), HI6⟩
        case measure => simp [intOf]; omega
      · have hkn : ¬ (bp : Int) < (n : Int) := by omega
        have hbn2 : bp = n := by omega
        have hac2 : a = c := by
          have h4 := unhide HA
          have h5 := unhide HN
          rw [hbn2, h5, Nat.mul_comm a l] at h4
          exact (Nat.eq_of_mul_eq_mul_left (by omega) h4).symm
        rw [hac2] at HI
        clear hbn2 hac2
        go_wp2
        go_ret
        exact ⟨w1.heap.size, rfl, unhide HI⟩
end Go.Proofs.Ytahnmlopekgimaa
