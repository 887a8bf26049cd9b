/-
  The statement CodeComes: whichever way jumps go, only what can be come to is come to. No conditions.
-/
import Derived.Test.YtclkpahihfeacabCZb
import Derived.Test.YtclkpahihfeacabFrC
namespace Go.Proofs.Ytclkpahihfeacab
open Go.ChangeShapes Go.WideShapes Go.ChangeAt Go.RowKit
set_option linter.unusedVariables false
set_option linter.unusedSimpArgs false

/-- The slice value v holds n truths. -/
def BS (w : World) (v : Value) (n : Nat) : Prop := ∃ ao cap, v = .slice ao n cap ∧ n ≤ maxLen ∧ ∀ i, i < n → ∃ b off z, ao = some ⟨b, off, none⟩ ∧ w.cell? ⟨b, off + i, none⟩ = some (.bool z)
theorem BS.ext {w w' : World} {v : Value} {n : Nat} (h : BS w v n) (hx : Ext w w') : BS w' v n := by
  obtain ⟨ao, cap, e, hn, hc⟩ := h
  refine ⟨ao, cap, e, hn, fun i hi => ?_⟩
  obtain ⟨b, off, z, e2, h2⟩ := hc i hi
  refine ⟨b, off, z, e2, ?_⟩
  rw [World.cell?_of_block (w := w) (hx.block b (World.block_lt_of_cell? w _ h2))]
  exact h2
theorem cells_boolC : Try.prog.cellsOf 4 = 1 := by kernel_rfl
section
variable {H : Type} {enc : TypeId × Value → H}
theorem open_bools {W : World} {base : Nat} {v : Value} {d : DataW H} {p : List MemPlace} (hv : Value.okWide Try.prog W .any base 25 v) (h : DataW.Trod enc Try.prog W 0 (fun _ => true) true 25 v d p) : ∃ n, BS W v n := by
  obtain ⟨a, len, cap, rfl⟩ := okWide_slice Try.underlying25 hv
  obtain ⟨fuel, hf⟩ := h
  rcases Deep.open_slice Try.underlying25 hf with ⟨hcs, _⟩ | ⟨x, l, c, m, n, D, Pl, hcs, _, hl, hm, hmm, hx, hel⟩
  · simp [Value.cells] at hcs
    obtain ⟨rfl, rfl, rfl⟩ := hcs
    exact ⟨0, none, 0, rfl, Nat.zero_le _, fun i hi => by omega⟩
  · simp [Value.cells] at hcs
    obtain ⟨rfl, rfl, rfl⟩ := hcs
    simp only [if_true] at hmm
    subst hmm
    refine ⟨len, _, _, rfl, Nat.le_trans hl hm, fun i hi => ?_⟩
    obtain ⟨cs', h1, h2⟩ := hel i (by omega)
    rw [cells_boolC] at h1
    obtain ⟨_, hl2, hce⟩ := World.cells?_some h1
    obtain ⟨z, rfl, _⟩ := DataW.trod_bool Try.underlying4 h2
    have h3 := hce 0 (by omega)
    obtain ⟨cs0, g1, g2⟩ := hel 0 (by omega)
    rw [cells_boolC] at g1
    obtain ⟨_, _, gce⟩ := World.cells?_some g1
    obtain ⟨z0, rfl, _⟩ := DataW.trod_bool Try.underlying4 g2
    have g3 := gce 0 (by omega)
    obtain ⟨b, off, spot⟩ := x
    have hs : spot = none := by simpa [Addr.add] using World.cell?_spot g3
    subst hs
    refine ⟨b, off, z, rfl, ?_⟩
    rw [Addr.add_lit, Addr.add_lit] at h3
    simpa using h3
end

set_option maxRecDepth 10000 in
set_option maxHeartbeats 8000000 in
theorem codeComes_walk (C : Cod) (v u : Value) (nz : Nat) (w : World) (h : IR w v C.ins) (hz : BS w u nz) : Calls Try.prog 3 #[.agg #[.int .i64 (C).stage, v, .int .i64 (C).regs, .int .i64 (C).attr, .int .i64 (C).unif, .int .i64 (C).vary], u] w fun e w' => e = .returned (.bool true) ∧ Ext w w' := by
  have HV := hide h
  have HZ := hide hz
  obtain ⟨ao, ca, rfl, hn0, hlc, hcm, hat⟩ := h
  obtain ⟨zo, zc, rfl, hzn, _⟩ := hz
  unfold maxLen at hzn
  clear hat hn0
  have HB := hide (Blk.new w #[.int .i64 (C).stage, .slice ao C.ins.length ca, .int .i64 (C).regs, .int .i64 (C).attr, .int .i64 (C).unif, .int .i64 (C).vary] 24)
  have HX := hide ((Ext.refl w).alloc (.cells #[.int .i64 (C).stage, .slice ao C.ins.length ca, .int .i64 (C).regs, .int .i64 (C).attr, .int .i64 (C).unif, .int .i64 (C).vary] 24))
  go_enter Try.func3, Try.ntmps3
  go_wp2_with (go_at_call 9999)
  refine (wakes_any _).mono ?_
  rintro e w1 ⟨rfl, hx1⟩
  have HB1 := hide ((unhide HB).ext hx1)
  have HX1 := hide ((unhide HX).trans hx1)
  clear hx1 HB HX
  go_wp2_with (first
    | refine wpList_load_row rfl 24 (.tmp 2) rfl w.heap.size rfl 24 #[.int .i64 (C).stage, .slice ao C.ins.length ca, .int .i64 (C).regs, .int .i64 (C).attr, .int .i64 (C).unif, .int .i64 (C).vary] (0, 0) _ (unhide HB1) Try.underlying24 rfl size6 ?_
    | (go_at_call 9999))
  refine (few_any C _ w1 ((unhide HV).ext (unhide HX1))).mono ?_
  rintro e w2 ⟨am, cm, rfl, hio, hx2⟩
  have hir := few_ir hio
  obtain ⟨F, hF⟩ : ∃ F, fewC C = F := ⟨_, rfl⟩
  rw [hF] at hir ⊢
  have HB2 := hide ((unhide HB1).ext hx2)
  have HX2 := hide ((unhide HX1).trans hx2)
  have HI2 := hide (show IR (w2.setRow w.heap.size #[.int .i64 (F).stage, .slice am F.ins.length cm, .int .i64 (F).regs, .int .i64 (F).attr, .int .i64 (F).unif, .int .i64 (F).vary]) (.slice am F.ins.length cm) F.ins from by
    have h9 := (hio.kept9 (grownBy_row w2 w.heap.size #[.int .i64 (F).stage, .slice am F.ins.length cm, .int .i64 (F).regs, .int .i64 (F).attr, .int .i64 (F).unif, .int .i64 (F).vary]) (hio.neB (unhide HB2) (by decide)))
    have h8 := few_ir h9
    rw [hF] at h8
    exact h8)
  have HB3 : Hid (Blk (w2.setRow w.heap.size #[.int .i64 (F).stage, .slice am F.ins.length cm, .int .i64 (F).regs, .int .i64 (F).attr, .int .i64 (F).unif, .int .i64 (F).vary]) w.heap.size #[.int .i64 (F).stage, .slice am F.ins.length cm, .int .i64 (F).regs, .int .i64 (F).attr, .int .i64 (F).unif, .int .i64 (F).vary] 24) := (unhide HB2).rowC
  have HX3 : Hid (Ext w (w2.setRow w.heap.size #[.int .i64 (F).stage, .slice am F.ins.length cm, .int .i64 (F).regs, .int .i64 (F).attr, .int .i64 (F).unif, .int .i64 (F).vary])) := extRow (unhide HX2) (Nat.le_refl _)
  clear hio hx2 hF HB1 HX1 hir HV
  go_upto_region 4 with (refine wpList_store_row rfl 24 (.tmp 2) (.tmp 13) rfl w.heap.size #[.int .i64 (F).stage, .slice am F.ins.length cm, .int .i64 (F).regs, .int .i64 (F).attr, .int .i64 (F).unif, .int .i64 (F).vary] rfl rfl 24 _ (unhide HB2) size6 rfl (by simp [Value.oneCell']) ?_)
  generalize w2.setRow w.heap.size #[.int .i64 (F).stage, .slice am F.ins.length cm, .int .i64 (F).regs, .int .i64 (F).attr, .int .i64 (F).unif, .int .i64 (F).vary] = w3 at HI2 HB3 HX3 ⊢
  clear HB2 HX2
  go_wp2_with (first
    | refine wpList_load_row rfl 24 (.tmp 2) rfl w.heap.size rfl 24 #[.int .i64 (F).stage, .slice am F.ins.length cm, .int .i64 (F).regs, .int .i64 (F).attr, .int .i64 (F).unif, .int .i64 (F).vary] (0, 0) _ (unhide HB3) Try.underlying24 rfl size6 ?_
    | (go_at_call 9999))
  cases hm : mayP F
  case false =>
    refine (reach_bad F _ w3 (unhide HI2) hm).mono ?_
    rintro e w4 ⟨rfl, hx4⟩
    have HB4 := hide ((unhide HB3).ext hx4)
    have HI4 := hide ((unhide HI2).ext hx4)
    have HX4 := hide ((unhide HX3).trans hx4)
    clear hx4 HB3 HI2 HX3
    go_wp2_with (first
      | refine wpList_load_row rfl 24 (.tmp 2) rfl w.heap.size rfl 24 #[.int .i64 (F).stage, .slice am F.ins.length cm, .int .i64 (F).regs, .int .i64 (F).attr, .int .i64 (F).unif, .int .i64 (F).vary] (0, 0) _ (unhide HB4) Try.underlying24 rfl size6 ?_
      | (go_at_call 9999))
    refine (check_any F _ w4 (unhide HI4)).mono ?_
    rintro e w5 ⟨rfl, hx5⟩
    have HX5 := hide ((unhide HX4).trans hx5)
    clear hx5
    rw [hm]
    have hch : chkI false = 260 := rfl
    rw [hch]
    go_wp2
    go_ret
    exact ⟨rfl, unhide HX5⟩
  case true =>
  have HRX := hide (reach_next F.ins (may_nextD hm))
  have HNX := hide (may_nextD hm)
  obtain ⟨hl, _⟩ := may_regs hm
  have HM := hide hm
  refine (reach_ok F _ w3 (unhide HI2) hm).mono ?_
  clear hm
  rintro e w4 ⟨g, rfl, hg4, _, hx4⟩
  have HG4 := hide hg4
  have HB4 := hide ((unhide HB3).ext hx4)
  have HI4 := hide ((unhide HI2).ext hx4)
  have HX4 := hide ((unhide HX3).trans hx4)
  clear hx4 HB3 HI2 HX3 hg4
  go_wp2_with (first
    | refine wpList_load_row rfl 24 (.tmp 2) rfl w.heap.size rfl 24 #[.int .i64 (F).stage, .slice am F.ins.length cm, .int .i64 (F).regs, .int .i64 (F).attr, .int .i64 (F).unif, .int .i64 (F).vary] (0, 0) _ (unhide HB4) Try.underlying24 rfl size6 ?_
    | (go_at_call 9999))
  refine (check_any F _ w4 (unhide HI4)).mono ?_
  rintro e w5 ⟨rfl, hx5⟩
  have HG5 := hide ((unhide HG4).ext hx5)
  have HB5 := hide ((unhide HB4).ext hx5)
  have HI5 := hide ((unhide HI4).ext hx5)
  have HX5 := hide ((unhide HX4).trans hx5)
  have HZ5 := hide ((unhide HZ).ext (unhide HX5))
  clear hx5 HG4 HB4 HI4 HX4 HZ
  rw [unhide HM]
  have hch : chkI true = 0 := rfl
  rw [hch]
  clear hch HM
  go_wp2
  go_loopw [6, 7] (fun av sv wr => ∃ a s : Nat, s ≤ a ∧ a ≤ F.ins.length ∧ av = .int .i64 (a : Int) ∧ sv = .int .i64 (s : Int) ∧ Ext w5 wr ∧ (reachP F.ins).getD a false = true) (fun av _ _ => F.ins.length - (intOf av).toNat)
  case atStart => exact ⟨0, 0, Nat.le_refl _, Nat.zero_le _, rfl, rfl, Ext.refl _, reach_start _⟩
  case round =>
    obtain ⟨a, s, hsa, han, rfl, rfl, hx, hr⟩ := hrel
    have XW := hide hx
    have X := hide ((unhide HX5).trans hx)
    obtain ⟨z0, z1, z2, z3, z4, z5⟩ := cellC ((unhide HB5).ext hx)
    have ck := ((unhide HG5).ext hx).cell (bcells_at (r := reachP F.ins) (i := a) (by unfold reachP; rw [reachTo_len]; omega))
    rw [hr] at ck
    have HR := hide hr
    clear hx hr
    have hs4 : (s : Int) ≤ (F.ins.length : Int) := by omega
    by_cases hlt : a < F.ins.length
    · have hkn : (a : Int) < (F.ins.length : Int) := by omega
      have HNX := hide (show ∀ x ∈ nextP F.ins[a] a, (a : Int) < x ∧ x ≤ (F.ins.length : Int) ∧ (reachP F.ins).getD x.toNat false = true from fun x hx => by
        have e : F.ins.getD a zI = F.ins[a] := by simp [hlt]
        rw [← e] at hx
        exact ⟨(unhide HNX a hlt x hx).1, (unhide HNX a hlt x hx).2, unhide HRX a hlt (unhide HR) x hx⟩)
      obtain ⟨_, _, e1, _, _, _, hat⟩ := (unhide HI5).ext (unhide XW)
      have e1' := (Value.slice.inj e1).1
      subst e1'
      obtain ⟨b, off, rfl, hrg⟩ := hat a hlt
      have HRG := hide hrg
      clear hrg hat e1
      generalize F.ins[a] = I at *
      go_upto_region 11 with fail
      go_upto_region 12 with (first
        | (refine wpList_load_mid rfl 36 (.tmp 42) rfl b (off + a * 16) rfl (insA I).toList _ (unhide HRG) Try.underlying36 rfl size16 ?_; rw [Array.toArray_toList])
        | refine wpList_storeLast rfl 36 (.tmp 8) (.tmp 43) rfl _ wr.heap.size rfl rfl (insA I) rfl 16 size16 rfl rfl (insA_one I) ?_)
      have HI6 := hide (Blk.new wr (insA I) 36)
      have X6 := hide ((unhide X).alloc (.cells (insA I) 36))
      have XW6 := hide ((unhide XW).alloc (.cells (insA I) 36))
      clear X XW HRG z0 z1 z2 z3 z4 z5 ck
      have X := X6
      have XW := XW6
      clear X6 XW6
      generalize wr.alloc (.cells (insA I) 36) = w6 at HI6 X XW ⊢
      generalize wr.heap.size = B6 at *
      obtain ⟨_, _, ez, _, hzt⟩ := (unhide HZ5).ext (unhide XW)
      have ez' := (Value.slice.inj ez).1
      subst ez'
      clear ez
      obtain ⟨i0, i1, i2, i3, i4, i5, i6, i7⟩ := cellJ (unhide HI6)
      obtain ⟨o, ho⟩ : ∃ o, I 0 = o := ⟨_, rfl⟩
      obtain ⟨a5, ha5⟩ : ∃ o, I 5 = o := ⟨_, rfl⟩
      rw [ho] at i0
      rw [ha5] at i5
      have EO := hide ho
      have EA := hide ha5
      clear ho ha5 i1 i2 i3 i4 i6 i7 HI6
      by_cases hs : s < nz
      · have hsn : (s : Int) < (nz : Int) := by omega
        obtain ⟨bz, oz, z, rfl, cz⟩ := hzt s hs
        clear hzt
        cases z
        case false =>
          rcases (by omega : o = 10 ∨ o = 11 ∨ o = 12 ∨ (¬ o = 10 ∧ ¬ o = 11 ∧ ¬ o = 12)) with rfl | rfl | rfl | ⟨n10, n11, n12⟩
          · have EN : Hid (nextP I a = [a5]) := by rw [Hid]; unfold nextP; rw [unhide EO, unhide EA]; simp
            obtain ⟨nx0, nx1, nr⟩ := unhide HNX a5 (by rw [unhide EN]; simp)
            obtain ⟨y, rfl⟩ : ∃ y : Nat, a5 = (y : Int) := ⟨a5.toNat, by omega⟩
            rw [Int.toNat_natCast] at nr
            have HNR := hide nr
            clear nr
            go_wp2
            go_roundw
            case rel => exact ⟨y, s + 1, by omega, by omega, by first | rfl | go_num, by go_num, unhide XW, unhide HNR⟩
            case measure => simp [intOf]; omega
          · have EN : Hid (nextP I a = [a5, (a : Int) + 1]) := by rw [Hid]; unfold nextP; rw [unhide EO, unhide EA]; simp
            obtain ⟨nx0, nx1, nr⟩ := unhide HNX ((a : Int) + 1) (by rw [unhide EN]; simp)
            rw [show ((a : Int) + 1).toNat = a + 1 by omega] at nr
            have HNR := hide nr
            clear nr
            go_wp2
            go_roundw
            case rel => exact ⟨a + 1, s + 1, by omega, by omega, by go_num, by go_num, unhide XW, unhide HNR⟩
            case measure => simp [intOf]; omega
          · have EN : Hid (nextP I a = []) := by rw [Hid]; unfold nextP; rw [unhide EO, unhide EA]; simp
            go_wp2
            go_ret
            exact ⟨rfl, unhide X⟩
          · have EN : Hid (nextP I a = [(a : Int) + 1]) := by rw [Hid]; unfold nextP; rw [unhide EO, unhide EA]; rw [if_neg n10, if_neg n11, if_neg n12]
            have p0 : (o == 10) = false := beq_eq_false_iff_ne.2 n10
            have p1 : (o == 11) = false := beq_eq_false_iff_ne.2 n11
            have p2 : (o == 12) = false := beq_eq_false_iff_ne.2 n12
            obtain ⟨nx0, nx1, nr⟩ := unhide HNX ((a : Int) + 1) (by rw [unhide EN]; simp)
            rw [show ((a : Int) + 1).toNat = a + 1 by omega] at nr
            have HNR := hide nr
            clear nr
            go_wp2
            go_roundw
            case rel => exact ⟨a + 1, s + 1, by omega, by omega, by go_num, by go_num, unhide XW, unhide HNR⟩
            case measure => simp [intOf]; omega
        case true =>
          rcases (by omega : o = 10 ∨ o = 11 ∨ o = 12 ∨ (¬ o = 10 ∧ ¬ o = 11 ∧ ¬ o = 12)) with rfl | rfl | rfl | ⟨n10, n11, n12⟩
          · have EN : Hid (nextP I a = [a5]) := by rw [Hid]; unfold nextP; rw [unhide EO, unhide EA]; simp
            obtain ⟨nx0, nx1, nr⟩ := unhide HNX a5 (by rw [unhide EN]; simp)
            obtain ⟨y, rfl⟩ : ∃ y : Nat, a5 = (y : Int) := ⟨a5.toNat, by omega⟩
            rw [Int.toNat_natCast] at nr
            have HNR := hide nr
            clear nr
            go_wp2
            go_roundw
            case rel => exact ⟨y, s + 1, by omega, by omega, by first | rfl | go_num, by go_num, unhide XW, unhide HNR⟩
            case measure => simp [intOf]; omega
          · have EN : Hid (nextP I a = [a5, (a : Int) + 1]) := by rw [Hid]; unfold nextP; rw [unhide EO, unhide EA]; simp
            obtain ⟨nx0, nx1, nr⟩ := unhide HNX a5 (by rw [unhide EN]; simp)
            obtain ⟨y, rfl⟩ : ∃ y : Nat, a5 = (y : Int) := ⟨a5.toNat, by omega⟩
            rw [Int.toNat_natCast] at nr
            have HNR := hide nr
            clear nr
            go_wp2
            go_roundw
            case rel => exact ⟨y, s + 1, by omega, by omega, by first | rfl | go_num, by go_num, unhide XW, unhide HNR⟩
            case measure => simp [intOf]; omega
          · have EN : Hid (nextP I a = []) := by rw [Hid]; unfold nextP; rw [unhide EO, unhide EA]; simp
            go_wp2
            go_ret
            exact ⟨rfl, unhide X⟩
          · have EN : Hid (nextP I a = [(a : Int) + 1]) := by rw [Hid]; unfold nextP; rw [unhide EO, unhide EA]; rw [if_neg n10, if_neg n11, if_neg n12]
            have p0 : (o == 10) = false := beq_eq_false_iff_ne.2 n10
            have p1 : (o == 11) = false := beq_eq_false_iff_ne.2 n11
            have p2 : (o == 12) = false := beq_eq_false_iff_ne.2 n12
            obtain ⟨nx0, nx1, nr⟩ := unhide HNX ((a : Int) + 1) (by rw [unhide EN]; simp)
            rw [show ((a : Int) + 1).toNat = a + 1 by omega] at nr
            have HNR := hide nr
            clear nr
            go_wp2
            go_roundw
            case rel => exact ⟨a + 1, s + 1, by omega, by omega, by go_num, by go_num, unhide XW, unhide HNR⟩
            case measure => simp [intOf]; omega
      · have hsn : ¬ (s : Int) < (nz : Int) := by omega
        clear hzt
        rcases (by omega : o = 10 ∨ o = 11 ∨ o = 12 ∨ (¬ o = 10 ∧ ¬ o = 11 ∧ ¬ o = 12)) with rfl | rfl | rfl | ⟨n10, n11, n12⟩
        · have EN : Hid (nextP I a = [a5]) := by rw [Hid]; unfold nextP; rw [unhide EO, unhide EA]; simp
          obtain ⟨nx0, nx1, nr⟩ := unhide HNX a5 (by rw [unhide EN]; simp)
          obtain ⟨y, rfl⟩ : ∃ y : Nat, a5 = (y : Int) := ⟨a5.toNat, by omega⟩
          rw [Int.toNat_natCast] at nr
          have HNR := hide nr
          clear nr
          go_wp2
          go_roundw
          case rel => exact ⟨y, s + 1, by omega, by omega, by first | rfl | go_num, by go_num, unhide XW, unhide HNR⟩
          case measure => simp [intOf]; omega
        · have EN : Hid (nextP I a = [a5, (a : Int) + 1]) := by rw [Hid]; unfold nextP; rw [unhide EO, unhide EA]; simp
          obtain ⟨nx0, nx1, nr⟩ := unhide HNX ((a : Int) + 1) (by rw [unhide EN]; simp)
          rw [show ((a : Int) + 1).toNat = a + 1 by omega] at nr
          have HNR := hide nr
          clear nr
          go_wp2
          go_roundw
          case rel => exact ⟨a + 1, s + 1, by omega, by omega, by go_num, by go_num, unhide XW, unhide HNR⟩
          case measure => simp [intOf]; omega
        · have EN : Hid (nextP I a = []) := by rw [Hid]; unfold nextP; rw [unhide EO, unhide EA]; simp
          go_wp2
          go_ret
          exact ⟨rfl, unhide X⟩
        · have EN : Hid (nextP I a = [(a : Int) + 1]) := by rw [Hid]; unfold nextP; rw [unhide EO, unhide EA]; rw [if_neg n10, if_neg n11, if_neg n12]
          have p0 : (o == 10) = false := beq_eq_false_iff_ne.2 n10
          have p1 : (o == 11) = false := beq_eq_false_iff_ne.2 n11
          have p2 : (o == 12) = false := beq_eq_false_iff_ne.2 n12
          obtain ⟨nx0, nx1, nr⟩ := unhide HNX ((a : Int) + 1) (by rw [unhide EN]; simp)
          rw [show ((a : Int) + 1).toNat = a + 1 by omega] at nr
          have HNR := hide nr
          clear nr
          go_wp2
          go_roundw
          case rel => exact ⟨a + 1, s + 1, by omega, by omega, by go_num, by go_num, unhide XW, unhide HNR⟩
          case measure => simp [intOf]; omega
    · obtain rfl : a = F.ins.length := by omega
      go_wp2
      go_ret
      exact ⟨rfl, unhide X⟩

set_option maxRecDepth 100000 in
theorem comes16_owes (H : Type) (enc : TypeId × Value → H) (W : World) (base : Nat) (args : Array Value) (ds : List (DataW H)) (p : List MemPlace) : Owes H enc Try.prog 3 Try.f3 Rows.codeComesSpec W base args ds p := by
  intro hval hA hsz
  rw [Try.params3] at hA hval hsz
  obtain ⟨v0, vs0, d0, ds0, p0, q0, hargs, rfl, rfl, h0, r0⟩ := trodAll_cons hA
  obtain ⟨v1, vs1, d1, ds1, p1, q1, rfl, rfl, rfl, h1, r1⟩ := trodAll_cons r0
  obtain ⟨rfl, rfl, rfl⟩ := trodAll_nil r1
  obtain rfl : args = #[v0, v1] := by cases args; simp_all
  obtain ⟨C, u, rfl, hC, hok⟩ := open_codA (hval 0 24 v0 rfl rfl) h0
  obtain ⟨n, hn⟩ := open_bools (hval 1 25 v1 rfl rfl) h1
  exact ⟨⟨rfl, rfl, rfl⟩, codeComes_walk C u v1 n W hC hn⟩

set_option maxRecDepth 100000 in
theorem comes16_lifted (os : Os) (started : os.Started) (H : Type) (enc : TypeId × Value → H) :
    ReturnsInHanded {} Try.checked os 3 .any (Rows.codeComesSpec.pre6 enc Try.prog Try.f3 [] false) (Rows.codeComesSpec.post enc Try.prog Try.f3 false true false false) :=
  lift_law (C := Try.checked) own laidOut started (by kernel_rfl) Try.func3 (T := 4) rfl Try.underlying4 rfl (by kernel_rfl)
    (ChangeSpec.witness6 (enc := enc) (C := Try.checked) false ⟨#[], #[.agg #[.int .i64 0, .slice none 0 0, .int .i64 0, .int .i64 0, .int .i64 0, .int .i64 0], .slice none 0 0], []⟩ 8 (by kernel_rfl) (by kernel_rfl) (by kernel_rfl) (by kernel_rfl)) (comes16_owes H enc)

theorem codeComes_holds : Rows.CodeComesSaid :=
  OpenClaim.holds_of_wide 3 Try.f3 rfl rfl rfl rfl rfl rfl rfl ⟨rfl, rfl, rfl, rfl, rfl⟩ rfl rfl rfl rfl rfl (by kernel_rfl) Try.func3 (by kernel_rfl)
    (of_decide_eq_true (by kernel_rfl)) (by unfold Func.isWrapper; rw [if_neg (of_decide_eq_false (by kernel_rfl))]; exact ⟨rfl, rfl⟩)
    (fun os started H enc _ => comes16_lifted os started H enc)
#print axioms codeComes_holds
end Go.Proofs.Ytclkpahihfeacab
