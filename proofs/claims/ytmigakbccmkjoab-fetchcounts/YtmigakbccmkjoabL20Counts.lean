/-
  Proved: FetchCounts answers true for every mode and number, and turns nothing that was there: how many primitives there are, of which size; that triangles of strips and fans share two vertices.
-/
import Derived.Test.YtmigakbccmkjoabFr
import Derived.Test.YtmigakbccmkjoabFEq
import Derived.Test.YtmigakbccmkjoabFEt
import Derived.Test.YtmigakbccmkjoabQt
import Derived.Deep.Cut
import Derived.Deep.DeepCutAuto
namespace Go.Proofs.Ytmigakbccmkjoab
open Go.ChangeShapes Go.WideShapes Go.ChangeAt Go.RowKit
set_option linter.unusedVariables false
set_option linter.unusedSimpArgs false

theorem infoIntF : (Try.prog.info? 3).map (fun i => (i.zero, i.size, i.bytes)) = some (some (.int .i64 0), 1, 8) := by kernel_rfl

set_option maxRecDepth 10000 in
set_option maxHeartbeats 8000000 in
theorem fcounts_walk (m n : Int) (W : World) (hI : I64 n) :
    Calls Try.prog 4 #[.int .i64 m, .int .i64 n] W fun e w' => e = .returned (.bool true) ∧ Ext W w' := by
  obtain ⟨i0, hi, hz0, hz1, hz2⟩ : ∃ i, Try.prog.info? 3 = some i ∧ i.zero = some (.int .i64 0) ∧ i.size = 1 ∧ i.bytes = 8 := info_partsG infoIntF
  unfold I64 at hI
  obtain ⟨N, hN⟩ : ∃ N : Nat, (if n < 0 then 0 else n) % 257 = (N : Int) := ⟨((if n < 0 then 0 else n) % 257).toNat, by split <;> omega⟩
  have hNb : N ≤ 256 := by split at hN <;> omega
  have HN := hide hN
  clear hN
  go_enter Try.func4, Try.ntmps4
  go_wp2_with fail
  refine (wakes20_any _).mono ?_
  rintro e w1 ⟨rfl, hx1⟩
  have X1 := hide hx1
  clear hx1
  go_upto_region 4 with fail
  rw [unhide HN]
  generalize (if n < 0 then 0 else n) = nn at *
  go_wp2_with (first | (at_make; refine wpList_make_Zeros _ rfl _ _ 28 rfl W.heap.size 3 i0 .i64 Try.underlying28 hi hz0 hz1 _ _ _ _ N rfl rfl rfl rfl ?b1 ?b2 ?b3 ?_))
  case b1 => rw [hz2]; omega
  case b2 => unfold maxLen; omega
  case b3 => exact (unhide X1).size
  intro w2 hown hgrow
  have hx2 : Ext w1 w2 := grown_below hgrow (Nat.le_refl _) (fun k h => by cases h)
  have H2 := hide (And.intro hown ((unhide X1).trans hx2))
  have hgb : W.heap.size ≤ w1.heap.size := (unhide X1).size
  clear hown hgrow hx2 X1
  go_wp2_with fail
  go_loopw [25] (fun iv wr => ∃ k : Nat, k ≤ N ∧ iv = .int .i64 (k : Int) ∧ Own .i64 wr W.heap.size 3 (.slice (some ⟨w1.heap.size, 0, none⟩) N N) (upto k ++ List.replicate (N - k) 0) ∧ Ext W wr) (fun iv _ => N - (intOf iv).toNat)
  case atStart => exact ⟨0, Nat.zero_le _, rfl, by simpa [upto] using (unhide H2).1, (unhide H2).2⟩
  case round =>
    clear H2
    obtain ⟨k, hk, rfl, hown, hX⟩ := hrel
    have D := hide (And.intro hown hX)
    clear hown hX
    by_cases hlt : k < N
    · have hlt2 : (k : Int) < (N : Int) := by omega
      have c0 := (unhide D).1.cellAt k (by simp [upto_len]; omega)
      have f0 := (unhide D).1.frozenAt k
      generalize (upto k ++ List.replicate (N - k) 0)[k]'_ = z at c0
      have hst := (unhide D).1.stored k (k : Int)
      rw [upto_set N k hlt] at hst
      have D2 := hide (And.intro hst (ext_set (i := k) (v := .int .i64 (k : Int)) (unhide D).2 hgb))
      clear hst D
      go_wp2
      go_roundw
      case rel => exact ⟨k + 1, by omega, by push_cast; rfl, unhide D2⟩
      case measure => simp [intOf]; omega
    · have hlt2 : ¬ (k : Int) < (N : Int) := by omega
      obtain rfl : k = N := by omega
      have hrow := (unhide D).1.row
      rw [Nat.sub_self, List.replicate_zero, List.append_nil] at hrow
      have HROW := hide hrow
      have HXW := hide (unhide D).2
      clear hrow D
      by_cases hm : modB m = true
      · have HP := hide (prims_ok _ (upto k) m wr (unhide HROW) hm (by rw [upto_len]; exact hNb))
        have hm0 : 0 ≤ m ∧ m ≤ 6 := of_decide_eq_true hm
        have dm0 : decide (m < 0) = false := by simp; omega
        have dm6 : decide (6 < m) = false := by simp; omega
        have hpl : (prmL m (upto k)).length = (shpN m k).toNat := by simp [prmL, upto_len]
        have HPG := hide (fun (q : Nat) (hq : (q : Int) < shpN m k) => show (prmL m (upto k)).getD q nul = prmF m (upto k) q from by
          unfold prmL
          rw [upto_len]
          have : q < (shpN m k).toNat := by omega
          simp [this])
        have HPL := hide hpl
        have HIX := hide (fun a0 a1 a2 a3 a4 a5 a6 w => ix7 m a0 a1 a2 a3 a4 a5 a6 hm w)
        have HM := hide hm
        clear hpl hm
        go_wp2_with fail
        refine (unhide HP).mono ?_
        rintro e w5 ⟨ao, cap, rfl, hgo, hx5⟩
        have H5 := hide (And.intro hgo ((unhide HXW).trans hx5))
        clear hgo hx5 HP HXW HROW
        go_upto_if 53 with fail
        obtain ⟨lp, hlp⟩ : ∃ lp, lp = if k < 2 then 0 else (k : Int) := ⟨_, rfl⟩
        have HLP := hide hlp
        clear hlp
        go_cut [9] (fun v wc => v = .int .i64 lp ∧ wc = w5)
        case first =>
          by_cases hk2 : k < 2
          · have g : ¬ (2 : Int) ≤ (k : Int) := by omega
            go_wp2
            go_meet
            exact ⟨by rw [unhide HLP, if_pos hk2], rfl⟩
          · have g : (2 : Int) ≤ (k : Int) := by omega
            go_wp2
            go_meet
            exact ⟨by rw [unhide HLP, if_neg hk2], rfl⟩
        case rest =>
        obtain ⟨rfl, hwc⟩ := hcut
        obtain rfl := hwc.symm
        go_upto_region 16 with fail
        obtain ⟨L, hL⟩ : ∃ L, L = (shpN m k).toNat := ⟨_, rfl⟩
        have HL := hide hL
        rw [← hL] at HPL
        clear hL
        go_cut [10] (fun v wc => v = .int .i64 (L : Int) ∧ wc = w5)
        case first =>
          have HFIN := hide (fun a3 a5 (h3 : a3 = max ((k : Int) - 1) 0) (h5 : a5 = max ((k : Int) - 2) 0) => show pick7 m (k : Int) ((k : Int) / 2) lp a3 ((k : Int) / 3) a5 a5 = (L : Int) from by
            rw [unhide HL]
            rcases mod_cases (unhide HM) with rfl | rfl | rfl | rfl | rfl | rfl | rfl
            · show (k : Int) = (((k : Int)).toNat : Int); omega
            · show (k : Int) / 2 = (((k : Int) / 2).toNat : Int); omega
            · show lp = ((if k < 2 then (0 : Int) else k).toNat : Int); rw [unhide HLP]; split <;> omega
            · show a3 = (((k : Int) - 1).toNat : Int); omega
            · show (k : Int) / 3 = (((k : Int) / 3).toNat : Int); omega
            · show a5 = (((k : Int) - 2).toNat : Int); omega
            · show a5 = (((k : Int) - 2).toNat : Int); omega)
          have hIX := unhide HIX
          rcases (by omega : k = 0 ∨ k = 1 ∨ 2 ≤ k) with rfl | rfl | h2
          · have h := hide (unhide HFIN 0 0 (by omega) (by omega))
            go_wp2
            all_goals
              go_meet
              exact ⟨by rw [← unhide h]; rfl, rfl⟩
          · have h := hide (unhide HFIN 0 0 (by omega) (by omega))
            go_wp2
            all_goals
              go_meet
              exact ⟨by rw [← unhide h]; rfl, rfl⟩
          · have h3 : (2 : Int) ≤ (k : Int) := by omega
            have h := unhide HFIN ((k : Int) - 1) ((k : Int) - 2) (by omega) (by omega)
            have h := hide h
            go_wp2
            all_goals
              go_meet
              exact ⟨by rw [← unhide h], rfl⟩
        case rest =>
        obtain ⟨rfl, hwc⟩ := hcut
        obtain rfl := hwc.symm
        have hsz : ∀ q : Nat, (q : Int) < shpN m k → pick7 m 1 2 2 2 3 3 3 = (shpC m k : Int) := by
          intro q hq
          rcases mod_cases (unhide HM) with rfl | rfl | rfl | rfl | rfl | rfl | rfl
          · rfl
          · rfl
          · by_cases h2 : k < 2
            · have e2 : shpN 2 k = 0 := by show (if k < 2 then (0 : Int) else k) = 0; rw [if_pos h2]
              omega
            · have e1 : shpC 2 k = 2 := by show (if k < 2 then 0 else 2) = 2; rw [if_neg h2]
              rw [e1]
              rfl
          · rfl
          · rfl
          · rfl
          · rfl
        have HSZ := hide hsz
        have HLT := hide (show ∀ q : Nat, q < L → (q : Int) < shpN m k from fun q h => by have := unhide HL; omega)
        have hL256 : L ≤ 256 := by have := shpN_le m k; have := unhide HL; omega
        have hcap : L ≤ cap := by
          obtain ⟨_, _, e, _, h, _⟩ := GO.shape (unhide H5).1
          have h2 := unhide HPL
          cases e
          omega
        have HGO := hide (fun (q : Nat) (hq : q < L) (wx : World) (hx : Ext w5 wx) => show ∃ g, ao = some ⟨g, 0, none⟩ ∧ wx.cell? ⟨g, q * 4, none⟩ = some (.int .i64 (prmF m (upto k) q 0)) ∧ wx.cell? ⟨g, q * 4 + 1, none⟩ = some (.int .i64 (prmF m (upto k) q 1)) ∧ wx.cell? ⟨g, q * 4 + 2, none⟩ = some (.int .i64 (prmF m (upto k) q 2)) ∧ wx.cell? ⟨g, q * 4 + 3, none⟩ = some (.int .i64 (prmF m (upto k) q 3)) from by
          have hq2 : q < (prmL m (upto k)).length := by rw [unhide HPL]; exact hq
          obtain ⟨g, hg, hb, hl, hc⟩ := GO.at pEnc_len (GO.ext (unhide H5).1 hx) q hq2
          have e := unhide HPG q (by have := unhide HL; omega)
          rw [List.getD_eq_getElem?_getD, List.getElem?_eq_getElem hq2, Option.getD_some] at e
          rw [e] at hc
          exact ⟨g, hg, hc 0 _ (by omega) rfl, hc 1 _ (by omega) rfl, hc 2 _ (by omega) rfl, hc 3 _ (by omega) rfl⟩)
        have hIX := unhide HIX
        rw [unhide HPL]
        have HX5 := hide (unhide H5).2
        have HTU := hide (fun q hq => prm_upto m (unhide HM) k q hq)
        have HIN := hide (fun (q j : Nat) (hq : (q : Int) < shpN m k) hj => shpP_in m (unhide HM) k q j hq hj)
        have HSH := hide (fun hm q h0 hq => prm_share m hm k q h0 hq)
        have hC3 := shpC_3 m k
        clear hsz HPG HPL HIX H5
        go_wp2_with fail
        generalize hsz7 : pick7 m 1 2 2 2 3 3 3 = sz at *
        clear hIX hsz7
        go_loopw [78] (fun iv wr => ∃ q : Nat, q ≤ L ∧ iv = .int .i64 (q : Int) ∧ Ext w5 wr) (fun iv _ => L - (intOf iv).toNat)
        case atStart => exact ⟨0, Nat.zero_le _, rfl, Ext.refl _⟩
        case round =>
          obtain ⟨q, hq, rfl, hX⟩ := hrel
          have HXR := hide hX
          clear hX
          by_cases hql : q < L
          · have hql2 : (q : Int) < (L : Int) := by omega
            have hq1 := unhide HLT q hql
            obtain ⟨g, hg, z0, z1, z2, z3⟩ := unhide HGO q hql wr (unhide HXR)
            subst hg
            obtain ⟨t0, ts⟩ := unhide HTU q hq1
            have hs := unhide HSZ q hq1
            have HSR := hide (fun hm5 (h0 : 0 < q) => unhide HSH hm5 q h0 hq1)
            have HV := hide (fun j (hj : j < 3) => show (j < shpC m k → 0 ≤ prmF m (upto k) q (j + 1) ∧ prmF m (upto k) q (j + 1) < (k : Int)) ∧ (¬ j < shpC m k → prmF m (upto k) q (j + 1) = 0) from by
              rw [ts j hj]
              exact ⟨fun h => by rw [if_pos h]; exact unhide HIN q j hq1 h, fun h => by rw [if_neg h]⟩)
            have d0 : (prmF m (upto k) q 0 != sz) = false := by rw [t0, hs]; simp
            have HS := hide hs
            obtain ⟨y, hy⟩ : ∃ y, y = prmF m (upto k) q := ⟨_, rfl⟩
            rw [← hy] at z0 z1 z2 z3 d0
            simp only [← hy] at HV HSR
            have HY := hide hy
            clear hy t0 ts hs
            have hB := Blk.new wr #[.int .i64 (y 0), .int .i64 (y 1), .int .i64 (y 2), .int .i64 (y 3)] 35
            have H6 := hide (And.intro hB ((unhide HXR).alloc (.cells #[.int .i64 (y 0), .int .i64 (y 1), .int .i64 (y 2), .int .i64 (y 3)] 35)))
            clear hB
            have hIX3 := fun (j : Nat) (hj : j < 3) wx => ix3 (y 1) (y 2) (y 3) j hj wx
            have HIX3 := hide hIX3
            obtain ⟨cn, hcn⟩ : ∃ cn, cn = shpC m k := ⟨_, rfl⟩
            rw [← hcn] at HS hC3
            simp only [← hcn] at HV
            clear hIX3
            go_wp2_with fail
            have hsx : sz = (cn : Int) := unhide HS
            subst hsx
            generalize hbq : wr.heap.size = bq at H6 ⊢
            obtain ⟨W6, hW6⟩ : ∃ W6, wr.alloc (.cells #[.int .i64 (y 0), .int .i64 (y 1), .int .i64 (y 2), .int .i64 (y 3)] 35) = W6 := ⟨_, rfl⟩
            rw [hW6] at H6 ⊢
            have hx6 : Ext wr W6 := by rw [← hW6]; exact (Ext.refl wr).alloc _
            have HX6 := hide hx6
            clear hW6 hx6 hbq z0 z1 z2 z3
            go_loopw [89] (fun iv wx => ∃ j : Nat, j ≤ 3 ∧ iv = .int .i64 (j : Int) ∧ wx = W6) (fun iv _ => 3 - (intOf iv).toNat)
            case atStart => exact ⟨0, by omega, rfl, rfl⟩
            case round =>
              obtain ⟨j, hj, rfl, hwx⟩ := hrel
              obtain rfl := hwx.symm
              by_cases hjt : j < 3
              · have hjt2 : (j : Int) < 3 := by omega
                have r := unhide HIX3 j hjt
                have hyj : (if j = 0 then y 1 else if j = 1 then y 2 else y 3) = y (j + 1) := by
                  rcases (by omega : j = 0 ∨ j = 1 ∨ j = 2) with rfl | rfl | rfl <;> rfl
                rw [hyj] at r
                obtain ⟨hv1, hv2⟩ := unhide HV j hjt
                generalize y (j + 1) = vj at r hv1 hv2
                clear hyj
                by_cases hjc : j < cn
                · obtain ⟨g0, g1⟩ := hv1 hjc
                  have e1 : decide ((j : Int) < (cn : Int)) = true := by simp; omega
                  have e2 : decide (vj < 0) = false := by simp; omega
                  have e3 : decide ((k : Int) ≤ vj) = false := by simp; omega
                  have e4 : decide ((cn : Int) ≤ (j : Int)) = false := by simp; omega
                  clear hv1 hv2
                  go_wp2
                  go_roundw
                  case rel => exact ⟨_, _, _, _, ⟨j + 1, by omega, by push_cast; rfl⟩, rfl, rfl, rfl, rfl⟩
                  case measure => simp [intOf]; omega
                · have g0 := hv2 hjc
                  have e1 : decide ((j : Int) < (cn : Int)) = false := by simp; omega
                  have e4 : decide ((cn : Int) ≤ (j : Int)) = true := by simp; omega
                  have e5 : (vj != 0) = false := by simp [g0]
                  clear hv1 hv2 g0
                  go_wp2
                  go_roundw
                  case rel => exact ⟨_, _, _, _, ⟨j + 1, by omega, by push_cast; rfl⟩, rfl, rfl, rfl, rfl⟩
                  case measure => simp [intOf]; omega
              · obtain rfl : j = 3 := by omega
                rw [show ((3 : Nat) : Int) = 3 from rfl]
                have XQ := hide ((unhide HXR).trans (unhide HX6))
                by_cases h0 : q = 0
                · subst h0
                  rw [show ((0 : Nat) : Int) = 0 from rfl]
                  go_upto_region 29 with fail
                  go_quiet (fail)
                  go_wp2
                  go_roundw
                  case rel => exact ⟨1, by omega, by simp, (unhide XQ).drewN _⟩
                  case measure => simp [intOf]; omega
                · obtain ⟨q', hq'⟩ : ∃ q', q = q' + 1 := ⟨q - 1, by omega⟩
                  have e0 : (0 : Int) < (q : Int) := by omega
                  have e00 : 0 < q := by omega
                  by_cases hm5 : m = 5 ∨ m = 6
                  · obtain ⟨g2, hg2, p0, p1, p2, p3⟩ := unhide HGO q' (by omega) W6 (unhide XQ)
                    cases hg2
                    have hqw : IntKind.i64.wrap ((q : Int) - 1) = (q' : Int) := by
                      simp [IntKind.wrap, IntKind.bits, IntKind.signed]
                      omega
                    have hql3 : (q' : Int) < (L : Int) := by omega
                    have hsh := unhide HSR hm5 (by omega)
                    rw [show q - 1 = q' by omega] at hsh
                    obtain ⟨y', hy'⟩ : ∃ y', y' = prmF m (upto k) q' := ⟨_, rfl⟩
                    rw [← hy'] at p0 p1 p2 p3 hsh
                    have HSHR := hide (fun wx => shared_any y y' wx)
                    rw [hsh] at HSHR
                    have l0 := cell_later p0
                    have l1 := cell_later p1
                    have l2 := cell_later p2
                    have l3 := cell_later p3
                    have n0 := cell_later (show W6.cell? ⟨bq, 0, none⟩ = some (.int .i64 (y 0)) from (unhide H6).1.cell rfl)
                    have n1 := cell_later (show W6.cell? ⟨bq, 1, none⟩ = some (.int .i64 (y 1)) from (unhide H6).1.cell rfl)
                    have n2 := cell_later (show W6.cell? ⟨bq, 2, none⟩ = some (.int .i64 (y 2)) from (unhide H6).1.cell rfl)
                    have n3 := cell_later (show W6.cell? ⟨bq, 3, none⟩ = some (.int .i64 (y 3)) from (unhide H6).1.cell rfl)
                    have hne := Later.some W6
                    clear p0 p1 p2 p3 hsh hy' hq'
                    rcases hm5 with rfl | rfl
                    all_goals
                      go_upto_region 29 with fail
                      refine wp_region_later (by kernel_rfl) (by kernel_rfl) ?_
                      repeat (go_big_quiet_step (first | (go_at_call 8; with_reducible refine calls_later (unhide HSHR _))))
                      refine wpQuiet_nil ?_
                      rintro _ ⟨x, rfl⟩
                      have X9 := hide ((unhide XQ).trans x.ext)
                      generalize x.w = w9 at X9 ⊢
                      go_wp2
                      go_roundw
                      case rel => exact ⟨q + 1, by omega, by push_cast; rfl, unhide X9⟩
                      case measure => simp [intOf]; omega
                  · have e5 : (m == 5) = false := by simp; omega
                    have e6 : (m == 6) = false := by simp; omega
                    clear hq' hm5
                    go_upto_region 29 with fail
                    go_quiet (fail)
                    go_wp2
                    go_roundw
                    case rel => exact ⟨q + 1, by omega, by push_cast; rfl, (unhide XQ).drewN _⟩
                    case measure => simp [intOf]; omega
          · have hql2 : ¬ (q : Int) < (L : Int) := by omega
            have XF := hide ((unhide HX5).trans (unhide HXR))
            go_wp2
            go_ret
            exact ⟨by simp, unhide XF⟩
      · have hm' : modB m = false := by simpa using hm
        have hm0 := of_decide_eq_false hm'
        have HP := hide (prims_no _ (upto k) m wr (unhide HROW) hm' (by rw [upto_len]; omega))
        rcases (by omega : m < 0 ∨ (¬ m < 0 ∧ 6 < m)) with g | ⟨g, g2⟩
        · have dm0 : decide (m < 0) = true := by simpa using g
          clear hm hm' hm0
          go_wp2_with fail
          refine (unhide HP).mono ?_
          rintro e w5 ⟨rfl, hx5⟩
          have X5 := hide ((unhide HXW).trans hx5)
          clear hx5 HP HXW
          go_wp2
          go_ret
          exact ⟨by simp, unhide X5⟩
        · have dm0 : decide (m < 0) = false := by simpa using g
          have dm6 : decide (6 < m) = true := by simpa using g2
          clear hm hm' hm0
          go_wp2_with fail
          refine (unhide HP).mono ?_
          rintro e w5 ⟨rfl, hx5⟩
          have X5 := hide ((unhide HXW).trans hx5)
          clear hx5 HP HXW
          go_wp2
          go_ret
          exact ⟨by simp, unhide X5⟩

set_option maxRecDepth 10000
theorem fcounts_owes (H : Type) (enc : TypeId × Value → H) (W : World) (base : Nat) (args : Array Value) (ds : List (DataW H)) (p : List MemPlace) : Owes H enc Try.prog 4 Try.f4 Rows.fetchCountsSpec W base args ds p := by
  intro hval hA hsz
  rw [Try.params4] at hA hval hsz
  obtain ⟨v0, vs0, d0, ds0, p0, q0, hargs, rfl, rfl, h0, r0⟩ := trodAll_cons hA
  obtain ⟨v1, vs1, d1, ds1, p1, q1, rfl, rfl, rfl, h1, r1⟩ := trodAll_cons r0
  obtain ⟨rfl, rfl, rfl⟩ := trodAll_nil r1
  obtain rfl : args = #[v0, v1] := by cases args; simp_all
  obtain ⟨m, rfl, rfl, rfl, wm⟩ := open_int Try.underlying3 (hval 0 3 v0 rfl rfl) h0
  obtain ⟨n, rfl, rfl, rfl, wn⟩ := open_int Try.underlying3 (hval 1 3 v1 rfl rfl) h1
  exact ⟨⟨rfl, rfl, rfl⟩, fcounts_walk m n W (bounds_i64 wn)⟩

set_option maxRecDepth 100000 in
theorem fcounts_lifted (os : Os) (started : os.Started) (H : Type) (enc : TypeId × Value → H) :
    ReturnsInHanded {} Try.checked os 4 .any (Rows.fetchCountsSpec.pre6 enc Try.prog Try.f4 [] false) (Rows.fetchCountsSpec.post enc Try.prog Try.f4 false true false false) :=
  lift_law (C := Try.checked) own laidOut started (by kernel_rfl) Try.func4 (T := 4) rfl Try.underlying4 rfl (by kernel_rfl)
    (ChangeSpec.witness6 (enc := enc) (C := Try.checked) false ⟨#[], #[.int .i64 0, .int .i64 0], []⟩ 8 (by kernel_rfl) (by kernel_rfl) (by kernel_rfl) (by kernel_rfl)) (fcounts_owes H enc)

theorem fetchCounts_holds : Rows.FetchCountsSaid :=
  OpenClaim.holds_of_wide 4 Try.f4 rfl rfl rfl rfl rfl rfl rfl ⟨rfl, rfl, rfl, rfl, rfl⟩ rfl rfl rfl rfl rfl (by kernel_rfl) Try.func4 (by kernel_rfl)
    (of_decide_eq_true (by kernel_rfl)) (by unfold Func.isWrapper; rw [if_neg (of_decide_eq_false (by kernel_rfl))]; exact ⟨rfl, rfl⟩)
    (fun os started H enc _ => fcounts_lifted os started H enc)
#print axioms fetchCounts_holds
end Go.Proofs.Ytmigakbccmkjoab

