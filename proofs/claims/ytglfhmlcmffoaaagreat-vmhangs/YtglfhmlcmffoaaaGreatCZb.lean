/-
  What can be come to: the walks of next and Reach.
-/
import Derived.Test.YtglfhmlcmffoaaaGreatCZaJ
import Derived.Test.YtglfhmlcmffoaaaGreatVFeJ
import Derived.Test.YtglfhmlcmffoaaaGreatCEqJ
import Derived.Deep.OwnRows
namespace Go.Proofs.YtglfhmlcmffoaaaGreat
open Go.RowKit
set_option linter.unusedVariables false
set_option linter.unusedSimpArgs false

set_option maxRecDepth 10000 in
set_option maxHeartbeats 2000000 in
theorem next_any (I : Nat → Int) (k : Nat) (hk : k ≤ 5000) (w : World) : Calls Tryz.prog 36 #[.agg (insA I), .int .i64 (k : Int)] w fun e w' => NewI w w' e (nextP I k) := by
  obtain ⟨c0, c1, c2, c3, c4, c5, c6, c7⟩ := cellI I w 59
  have E := hide (show nextP I k = if I 0 = 10 then [I 5] else if I 0 = 11 then [I 5, (k : Int) + 1] else if I 0 = 12 then [] else [(k : Int) + 1] from rfl)
  generalize nextP I k = y at *
  generalize I 0 = o at *
  generalize I 5 = a5 at *
  go_enter Tryz.func36, Tryz.ntmps36
  go_wp2
  all_goals
    go_ret
    have e := unhide E
    simp only [beq_iff_eq, beq_eq_false_iff_ne, ne_eq] at *
    repeat first | rw [if_pos (by omega)] at e | rw [if_neg (by omega)] at e
    subst e
    first
    | exact ⟨none, 0, rfl, Own.nil _ _ _ _, (Ext.refl w).alloc _⟩
    | exact NewI.of w _ [a5] (by simp)
    | exact NewI.of w _ [a5, (k : Int) + 1] (by simp)
    | exact NewI.of w _ [(k : Int) + 1] (by simp)

theorem infoBool : (Tryz.prog.info? 4).map (fun i => (i.zero, i.size, i.bytes)) = some (some (.bool false), 1, 1) := by kernel_rfl

set_option maxRecDepth 10000 in
set_option maxHeartbeats 4000000 in
theorem reach_bad (C : Cod) (v : Value) (w : World) (h : IR w v C.ins) (hm : mayP C = false) : Calls Tryz.prog 22 #[.agg #[.int .i64 (C).stage, v, .int .i64 (C).regs, .int .i64 (C).attr, .int .i64 (C).unif, .int .i64 (C).vary]] w fun e w' => e = .returned (.slice none 0 0) ∧ Ext w w' := by
  have HV := hide h
  obtain ⟨ao, ca, rfl, hn0, hlc, hcm, hat⟩ := h
  clear hat hn0
  have HB := hide (Blk.new w #[.int .i64 (C).stage, .slice ao C.ins.length ca, .int .i64 (C).regs, .int .i64 (C).attr, .int .i64 (C).unif, .int .i64 (C).vary] 24)
  have HX := hide ((Ext.refl w).alloc (.cells #[.int .i64 (C).stage, .slice ao C.ins.length ca, .int .i64 (C).regs, .int .i64 (C).attr, .int .i64 (C).unif, .int .i64 (C).vary] 24))
  go_enter Tryz.func22, Tryz.ntmps22
  go_wp2_with (first
    | refine wpList_load_row rfl 24 (.tmp 1) rfl w.heap.size rfl 24 #[.int .i64 (C).stage, .slice ao C.ins.length ca, .int .i64 (C).regs, .int .i64 (C).attr, .int .i64 (C).unif, .int .i64 (C).vary] (0, 0) _ (unhide HB) Tryz.underlying24 rfl size6 ?_
    | (go_at_call 9999))
  refine (may_any C _ _ ((unhide HV).ext (unhide HX))).mono ?_
  rintro e w1 ⟨rfl, hx1⟩
  have HX1 := hide ((unhide HX).trans hx1)
  rw [hm]
  go_wp2
  go_ret
  exact ⟨rfl, unhide HX1⟩

set_option maxRecDepth 10000 in
set_option maxHeartbeats 8000000 in
theorem reach_ok (C : Cod) (v : Value) (w : World) (h : IR w v C.ins) (hm : mayP C = true) : Calls Tryz.prog 22 #[.agg #[.int .i64 (C).stage, v, .int .i64 (C).regs, .int .i64 (C).attr, .int .i64 (C).unif, .int .i64 (C).vary]] w fun e w' => ∃ g, e = .returned (.slice (some ⟨g, 0, none⟩) (C.ins.length + 1) (C.ins.length + 1)) ∧ Blk w' g (bcells (reachP C.ins)) 4 ∧ w.heap.size ≤ g ∧ Ext w w' := by
  have HV := hide h
  obtain ⟨hl, _⟩ := may_regs hm
  have HN := hide (fun k hk => may_next hm k hk)
  obtain ⟨ao, ca, rfl, hn0, hlc, hcm, hat⟩ := h
  clear hat hn0
  have HB := hide (Blk.new w #[.int .i64 (C).stage, .slice ao C.ins.length ca, .int .i64 (C).regs, .int .i64 (C).attr, .int .i64 (C).unif, .int .i64 (C).vary] 24)
  have HX := hide ((Ext.refl w).alloc (.cells #[.int .i64 (C).stage, .slice ao C.ins.length ca, .int .i64 (C).regs, .int .i64 (C).attr, .int .i64 (C).unif, .int .i64 (C).vary] 24))
  have HM := hide hm
  clear hm
  go_enter Tryz.func22, Tryz.ntmps22
  go_wp2_with (first
    | refine wpList_load_row rfl 24 (.tmp 1) rfl w.heap.size rfl 24 #[.int .i64 (C).stage, .slice ao C.ins.length ca, .int .i64 (C).regs, .int .i64 (C).attr, .int .i64 (C).unif, .int .i64 (C).vary] (0, 0) _ (unhide HB) Tryz.underlying24 rfl size6 ?_
    | (go_at_call 9999))
  refine (may_any C _ _ ((unhide HV).ext (unhide HX))).mono ?_
  rintro e w1 ⟨rfl, hx1⟩
  have HB1 := hide ((unhide HB).ext hx1)
  have HX1 := hide ((unhide HX).trans hx1)
  rw [unhide HM]
  clear hx1 HB HX HM
  obtain ⟨i0, hi, hz0, hz1, hz2⟩ := info_all infoBool
  obtain ⟨z0, z1, z2, z3, z4, z5⟩ := cellC (unhide HB1)
  go_upto_region 4 with (first | (refine wpList_make_row _ rfl _ _ 55 rfl 4 i0 (.bool false) Tryz.underlying55 hi hz0 hz1 rfl .i64 .i64 (C.ins.length + 1) ?b1 ?b2 ?b3 ?b4 ?_))
  case b1 => go_num
  case b2 => go_num
  case b3 => rw [hz2]; omega
  case b4 => omega
  rw [bcells_made]
  have HB2 := hide ((unhide HB1).alloc (.cells (bcells (List.replicate (C.ins.length + 1) false)) 4))
  have HX2 := hide ((unhide HX1).alloc (.cells (bcells (List.replicate (C.ins.length + 1) false)) 4))
  have HC2 := hide (Blk.new w1 (bcells (List.replicate (C.ins.length + 1) false)) 4)
  have hg := (unhide HB1).lt
  have hxs := (unhide HX1).size
  generalize w1.alloc (.cells (bcells (List.replicate (C.ins.length + 1) false)) 4) = w2 at HB2 HX2 HC2 ⊢
  generalize w1.heap.size = g at *
  clear HB1 HX1 z0 z1 z2 z3 z4 z5 hi hz0 hz1 hz2
  have HB3 := hide ((unhide HB2).other (r := g) 0 (.bool true) (by omega))
  have HX3 := hide (extSet (i := 0) (v := .bool true) (unhide HX2) hxs)
  have HC3 := hide ((unhide HC2).set 0 (.bool true))
  rw [bcells_set] at HC3
  have c0 := (unhide HC2).cell (bcells_at (r := List.replicate (C.ins.length + 1) false) (i := 0) (by simp))
  have f0 := (unhide HC2).free 0
  go_upto_region 5 with fail
  generalize w2.setCell _ _ = w3 at HB3 HX3 HC3 ⊢
  clear c0 f0 HB2 HX2 HC2
  obtain ⟨z0, z1, z2, z3, z4, z5⟩ := cellC (unhide HB3)
  go_wp2
  clear z0 z1 z2 z3 z4 z5
  go_loopw [21] (fun iv wr => ∃ k : Nat, k ≤ C.ins.length ∧ iv = .int .i64 (k : Int) ∧ Blk wr g (bcells (reachTo C.ins k)) 4 ∧ Ext w wr) (fun iv _ => C.ins.length - (intOf iv).toNat)
  case atStart => exact ⟨0, Nat.zero_le _, rfl, unhide HC3, unhide HX3⟩
  case round =>
    clear HB3 HX3 HC3
    obtain ⟨k, hk, rfl, hb, hx⟩ := hrel
    have D := hide (And.intro hb hx)
    clear hb hx
    by_cases hlt : k < C.ins.length
    · have hkn : (k : Int) < (C.ins.length : Int) := by omega
      obtain ⟨_, _, e1, _, _, _, hat⟩ := (unhide HV).ext (unhide D).2
      have e1' := (Value.slice.inj e1).1
      subst e1'
      obtain ⟨b, off, rfl, hrg⟩ := hat k hlt
      have HRG := hide hrg
      have HNK := hide (unhide HN k hlt)
      have HRK := hide (show reachTo C.ins (k + 1) = stepR (reachTo C.ins k) C.ins[k] k by rw [reachTo]; simp [hlt])
      have HRL := hide (reachTo_len C.ins k)
      clear hrg hat e1
      generalize C.ins[k] = I at *
      obtain ⟨R2, hR2⟩ : ∃ R, reachTo C.ins (k + 1) = R := ⟨_, rfl⟩
      rw [hR2] at HRK
      have HR2 := hide hR2
      clear hR2
      generalize reachTo C.ins k = R at *
      go_upto_region 8 with (first
        | (refine wpList_load_mid rfl 59 (.tmp 24) rfl b (off + k * 16) rfl (insA I).toList _ (unhide HRG) Tryz.underlying59 rfl sizeI16 ?_; rw [Array.toArray_toList])
        | refine wpList_storeLast rfl 59 (.tmp 5) (.tmp 25) rfl _ wr.heap.size rfl rfl (insA I) rfl 16 sizeI16 rfl rfl (insA_one I) ?_)
      have HI4 := hide (Blk.new wr (insA I) 59)
      have D4 := hide (And.intro ((unhide D).1.alloc (.cells (insA I) 59)) ((unhide D).2.alloc (.cells (insA I) 59)))
      generalize wr.alloc (.cells (insA I) 59) = w4 at HI4 D4 ⊢
      generalize wr.heap.size = B4 at *
      have ck := (unhide D4).1.cell (bcells_at (r := R) (i := k) (by rw [unhide HRL]; omega))
      have ES : Hid (R2 = if R.getD k false then markL R (nextP I k) else R) := by rw [Hid, unhide HRK]; rfl
      clear D HRG HRK
      generalize R.getD k false = rk at *
      cases rk
      · have EK : Hid (R2 = R) := by rw [Hid, unhide ES]; rfl
        go_wp2
        go_roundw
        case rel => exact ⟨k + 1, by omega, by go_num, by rw [unhide HR2, unhide EK]; exact (unhide D4).1, (unhide D4).2⟩
        case measure => simp [intOf]; omega
      · have EK : Hid (R2 = markL R (nextP I k)) := by rw [Hid, unhide ES]; rfl
        clear ES
        go_wp2_with (first
          | refine wpList_load_row rfl 59 (.tmp 5) rfl B4 rfl 59 (insA I) (0, 0) _ (unhide HI4) Tryz.underlying59 rfl sizeI16 ?_
          | (go_at_call 9999))
        refine (next_any I k (by omega) _).mono ?_
        rintro e w5 ⟨ao5, cap5, rfl, hown5, hx5⟩
        have D5 := hide (show Blk w5 g (bcells R) 4 ∧ Ext w w5 ∧ Row .i64 w5 (.slice ao5 (nextP I k).length cap5) (nextP I k) from ⟨(unhide D4).1.ext hx5, (unhide D4).2.trans hx5, hown5.row⟩)
        have hrl : (nextP I k).length ≤ 9223372036854775807 := by
          obtain ⟨_, _, _, _, h9, h10⟩ := hown5.row.shape
          unfold maxLen at h10
          omega
        clear hown5 hx5 D4 HI4 ck
        generalize nextP I k = xs at *
        go_wp2
        go_loopw [35] (fun iv wq => ∃ j : Nat, j ≤ xs.length ∧ iv = .int .i64 (j : Int) ∧ Blk wq g (bcells (markL R (xs.take j))) 4 ∧ Ext w wq ∧ Row .i64 wq (.slice ao5 xs.length cap5) xs) (fun iv _ => xs.length - (intOf iv).toNat)
        case atStart => exact ⟨0, Nat.zero_le _, rfl, unhide D5⟩
        case round =>
          clear D5
          obtain ⟨j, hj, rfl, hb, hx, hr⟩ := hrel
          have D := hide (And.intro hb (And.intro hx hr))
          clear hb hx hr
          by_cases hjt : j < xs.length
          · obtain ⟨b2, off2, ea, hc⟩ := (unhide D).2.2.at j hjt
            subst ea
            have c1 := hc j hjt
            obtain ⟨r0, r1⟩ := unhide HNK xs[j] (List.getElem_mem hjt)
            have HT := hide (markL_take R xs j hjt)
            have HML := hide (markL_len R (xs.take j))
            obtain ⟨R4, hR4⟩ : ∃ R4, markL R (xs.take (j + 1)) = R4 := ⟨_, rfl⟩
            rw [hR4] at HT
            have HR4 := hide hR4
            clear hR4
            generalize markL R (xs.take j) = R3 at *
            generalize xs[j] = x at *
            clear hc
            obtain ⟨y, rfl⟩ : ∃ y : Nat, x = (y : Int) := ⟨x.toNat, by omega⟩
            have cy := (unhide D).1.cell (bcells_at (r := R3) (i := y) (by rw [unhide HML, unhide HRL]; omega))
            have fy := (unhide D).1.free y
            have hyn : (y : Int) < (C.ins.length : Int) + 1 := by omega
            have D6 := hide (show Blk (wr.setCell ⟨g, y, none⟩ (.bool true)) g (bcells R4) 4 ∧ Ext w (wr.setCell ⟨g, y, none⟩ (.bool true)) ∧ Row .i64 (wr.setCell ⟨g, y, none⟩ (.bool true)) (.slice (some ⟨b2, off2, none⟩) xs.length cap5) xs from by
              refine ⟨?_, extSet (unhide D).2.1 hxs, (unhide D).2.2.grown (grownBy_set _ _ _ _) ((unhide D).1.no (bcells_no _))⟩
              rw [unhide HT, ← bcells_set, Int.toNat_natCast]
              exact (unhide D).1.set y _)
            go_upto_region 13 with fail
            generalize wr.setCell _ _ = w7 at D6 ⊢
            go_wp2
            go_roundw
            case rel => exact ⟨j + 1, by omega, by go_num, by rw [unhide HR4]; exact unhide D6⟩
            case measure => simp [intOf]; omega
          · obtain rfl : j = xs.length := by omega
            go_wp2
            go_roundw
            case rel =>
              have h1 := (unhide D).1
              rw [List.take_length, ← unhide EK, ← unhide HR2] at h1
              exact ⟨k + 1, by omega, by go_num, h1, (unhide D).2.1⟩
            case measure => simp [intOf]; omega
    · obtain rfl : k = C.ins.length := by omega
      go_wp2
      go_ret
      exact ⟨g, rfl, (unhide D).1, hxs, (unhide D).2⟩
end Go.Proofs.YtglfhmlcmffoaaaGreat
