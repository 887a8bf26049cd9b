/- Several texts in one. -/
import Derived.Test.YtdcamcpffiilbaaDoorXT1J
/-
  The document's Direct: #else.
-/
namespace Go.Proofs.YtdcamcpffiilbaaDoor
open Go.RowKit
set_option linter.unusedVariables false
set_option linter.unusedSimpArgs false

set_option maxHeartbeats 16000000 in
set_option maxRecDepth 100000 in
theorem refDirect_else {T : Nat → Prop} (ws : List Wd) (ps : List RP) (x : Tok) (r : List Tok) (first : Bool) (wo : Option Addr) (wk : Nat) (po : Option Addr) (pc : Nat) (oo : Option Addr) (on oc : Nat) (lo : Option Addr) (lc : Nat) (w : World) (hW : WR T w (.slice wo ws.length wk) ws) (hP : PR T w (.slice po ps.length pc) ps) (hT : TF T w (.slice lo (x :: r).length lc) (x :: r)) (hTl : ∀ b, T b → b < w.heap.size) (hwl : ws.length ≤ 100000) (hpl : ps.length ≤ 100000) (hll : ∀ t ∈ (x :: r), t.text.length ≤ 8192) (hn : nameR x = tElse) :
    Calls Tryd.prog 13 #[.agg #[.slice wo ws.length wk, .slice po ps.length pc, .slice oo on oc], .slice lo (x :: r).length lc, .bool first] w (DirQ2 T w oo on oc (directR keptP ws ps (x :: r) first)) := by
  obtain ⟨R, hR⟩ : ∃ R, R = directR keptP ws ps (x :: r) first := ⟨_, rfl⟩
  rw [← hR]
  have hR1 := hR
  unfold directR at hR1
  simp only at hR1
  obtain ⟨nm, hnm⟩ : ∃ nm, nameR x = nm := ⟨_, rfl⟩
  rw [hnm] at hR1 hn
  have HN2 : Hid (nm = [101, 108, 115, 101]) := hn
  clear hn
  obtain ⟨w1, hw1⟩ : ∃ w1, w1 = (w.alloc (.cells #[.slice wo ws.length wk, .slice po ps.length pc, .slice oo on oc] 47)).alloc (.cells #[.slice none 0 0, .slice none 0 0, .slice none 0 0] 47) := ⟨_, rfl⟩
  obtain ⟨g0, hg0⟩ : ∃ g0, g0 = w.heap.size := ⟨_, rfl⟩
  obtain ⟨g6, hg6⟩ : ∃ g6, g6 = w.heap.size + 1 := ⟨_, rfl⟩
  have X1 : Hid (Ext w w1) := by rw [hw1]; exact ((Ext.refl w).alloc _).alloc _
  have HB0 : Hid (Blk w1 g0 #[.slice wo ws.length wk, .slice po ps.length pc, .slice oo on oc] 47) := by rw [hw1, hg0]; exact (Blk.new _ _ _).alloc _
  have HB6 : Hid (Blk w1 g6 #[.slice none 0 0, .slice none 0 0, .slice none 0 0] 47) := by rw [hw1, hg6]; exact blkAt (by simp)
  have hgs : Hid (w.heap.size ≤ g0 ∧ w.heap.size ≤ g6 ∧ g0 < g6) := ⟨by omega, by omega, by omega⟩
  have HTL0 := hide hTl
  have HW := hide hW
  have HP := hide hP
  have HT := hide hT
  have HNM := hide hnm
  have HR1 := hide hR1
  clear hR hW hP hT hTl hnm hR1
  obtain ⟨b, off, elo, hc0⟩ := ((unhide HT).1.ext (unhide X1)).at 0 (by simp)
  subst elo
  have ck := hc0.kind
  have cx := hc0.text
  simp only [Nat.zero_mul, Nat.add_zero, List.getElem_cons_zero] at ck cx
  clear hc0
  have hlc : r.length + 1 ≤ lc ∧ lc ≤ 9223372036854775807 := by
    obtain ⟨_, _, e, _, h2, h3, _⟩ := (unhide HT).1
    cases e
    unfold maxLen at h3
    simp at h2
    omega
  have HLL : Hid (∀ t ∈ r, t.text.length ≤ 8192) := fun t ht => hll t (List.mem_cons_of_mem _ ht)
  have HTL := hide (unhide HT).tail1
  have hl : (x :: r).length = r.length + 1 := by simp
  have b0 : ((r.length : Int) + 1 == 0) = false := beq_eq_false_iff_ne.2 (by omega)
  have i0 : (0 : Int) < (r.length : Int) + 1 := by omega
  rw [hl]
  clear hll hl
  have HCN := hide (refCounts_any ps wo ws.length wk po pc oo on oc w1 ((unhide HP).ext (unhide X1)) hpl)
  obtain ⟨cn, hcn⟩ : ∃ cn, countsR ps = cn := ⟨_, rfl⟩
  rw [hcn] at HCN HR1
  obtain ⟨kb, hkb⟩ : ∃ kb, (x.kind == 1) = kb := ⟨_, rfl⟩
  have m0 := (unhide HB0).cell (i := 0) (v := .slice wo ws.length wk) rfl
  have m1 := (unhide HB0).cell (i := 1) (v := .slice po ps.length pc) rfl
  have m2 := (unhide HB0).cell (i := 2) (v := .slice oo on oc) rfl
  clear hcn
  go_enter Tryd.func13, Tryd.ntmps13
  go_upto_region 1 with fail
  rw [← hw1, ← hg6, ← hg0]
  clear hw1 hg0 hg6
  go_wp2_with fail
  refine (unhide HCN).mono ?_
  rintro e w2 ⟨rfl, hx2⟩
  have X2 := hide hx2
  have ck2 := cellExt hx2 ck
  have cx2 := cellExt hx2 cx
  clear hx2 HCN m0 m1 m2 ck cx
  go_upto_if 32 with fail
  have HKB := hide hkb
  clear hkb
  go_cut [9] from 33 to 36 (fun nv wx => nv = .string ⟨nm.toArray⟩ ∧ w2 = wx)
  case first =>
    cases kb with
    | true =>
      have hn : nm = x.text := by
        rw [← unhide HNM]
        unfold nameR
        exact if_pos (eq_of_beq (unhide HKB))
      rw [← hn] at cx2
      clear hn
      go_wp2
      go_meet
      exact ⟨rfl, rfl⟩
    | false =>
      have hn : nm = [] := by
        rw [← unhide HNM]
        unfold nameR
        exact if_neg (beq_eq_false_iff_ne.1 (unhide HKB))
      have HN0 := hide hn
      clear hn
      go_wp2
      go_meet
      exact ⟨by rw [unhide HN0], rfl⟩
  case rest =>
    obtain ⟨rfl, rfl⟩ := hcut
    clear ck2 cx2 HKB HNM b0
    go_upto_region 7 with fail
    go_cut [10] from 37 to 38 (fun rv wx => ∃ rn rk, rv = .slice rn r.length rk ∧ TF T w (.slice rn r.length rk) r ∧ w2 = wx)
    case first =>
      have i1 : (1 : Int) ≤ (r.length : Int) + 1 := by omega
      by_cases h1 : lc = 1
      · rw [if_pos h1] at HTL
        subst h1
        obtain rfl : r = [] := List.length_eq_zero_iff.1 (by omega)
        go_wp2
        go_meet
        exact ⟨_, _, rfl, unhide HTL, rfl⟩
      · rw [if_neg h1] at HTL
        go_wp2
        go_meet
        exact ⟨_, _, rfl, unhide HTL, rfl⟩
    case rest =>
      obtain ⟨rn, rk, rfl, hTr, rfl⟩ := hcut
      have HTr := hide hTr
      have hrk : r.length ≤ 9223372036854775807 := by omega
      have X02 : Hid (Ext w w2) := (unhide X1).trans (unhide X2)
      clear hTr HTL hlc i0
      have hn2 := unhide HN2
      subst hn2
      clear HN2
      have HR2 := hide ((unhide HR1).trans (if_pos (by decide)))
      clear HR1
      rcases List.eq_nil_or_concat ps with rfl | ⟨A, p, rfl⟩
      · have hRq : R = none := unhide HR2
        subst hRq
        have HB0x := hide ((unhide HB0).ext (unhide X2))
        have HB6x := hide ((unhide HB6).ext (unhide X2))
        have m0 := (unhide HB0x).cell (i := 0) (v := .slice wo ws.length wk) rfl
        have m1 := (unhide HB0x).cell (i := 1) (v := .slice po 0 pc) rfl
        have m2 := (unhide HB0x).cell (i := 2) (v := .slice oo on oc) rfl
        have n0 := (unhide HB6x).cell (i := 0) (v := .slice none 0 0) rfl
        have n1 := (unhide HB6x).cell (i := 1) (v := .slice none 0 0) rfl
        have n2 := (unhide HB6x).cell (i := 2) (v := .slice none 0 0) rfl
        have f0 := fun i => (unhide HB0x).free i
        have f6 := fun i => (unhide HB6x).free i
        have B6 := hide (blkThree (v0 := .slice wo ws.length wk) (v1 := .slice po 0 pc) (v2 := .slice oo on oc) (unhide HB6x))
        have R0 := hide ((unhide B6).cell (i := 0) (v := .slice wo ws.length wk) rfl)
        have R1 := hide ((unhide B6).cell (i := 1) (v := .slice po 0 pc) rfl)
        have R2 := hide ((unhide B6).cell (i := 2) (v := .slice oo on oc) rfl)
        have XZ := hide (extThree (b := g6) (v0 := .slice wo ws.length wk) (v1 := .slice po 0 pc) (v2 := .slice oo on oc) (unhide X02) (unhide hgs).2.1)
        go_wp2
        refine bodyPost_ret (v := .tuple #[.agg #[.slice wo ws.length wk, .slice po 0 pc, .slice oo on oc], .bool false]) (by have r0 := unhide R0; have r1 := unhide R1; have r2 := unhide R2; simp [results, Tryd.results13, go_sem, r0, r1, r2]) rfl ⟨unhide XZ, _, _, _, _, _, _, rfl⟩
      · rw [List.concat_eq_append] at HR2 HP hpl HB0 ⊢
        have hl : (A ++ [p]).length = A.length + 1 := by simp
        rw [hl] at hpl HP HB0 ⊢
        have hRq : R = if p.els = true then none else some (ws, A ++ [⟨true, p.outer && !p.counts, p.outer⟩]) := by
          rw [unhide HR2]
          simp [tElse, tEndif]
        have HRq := hide hRq
        clear hRq HR2
        obtain ⟨bl, ol, el, hlast⟩ := (((unhide HP).ext (unhide X02))).at A.length (by simp)
        subst el
        rw [show (A ++ [p])[A.length]'(by simp) = p by simp] at hlast
        have d0 := hlast.els
        have d1 := hlast.counts
        have d2 := hlast.outer
        have z0 : ((A.length : Int) + 1 == 0) = false := beq_eq_false_iff_ne.2 (by omega)
        have z1 : IntKind.i64.wrap ((A.length : Int) + 1 - 1) = A.length := by rw [Int.add_sub_cancel]; simp [IntKind.wrap, IntKind.bits, IntKind.signed] <;> omega
        have z2 : (A.length : Int) + 1 - 1 = A.length := by omega
        clear hlast
        have HB0x := hide ((unhide HB0).ext (unhide X2))
        have HB6x := hide ((unhide HB6).ext (unhide X2))
        have m0 := (unhide HB0x).cell (i := 0) (v := .slice wo ws.length wk) rfl
        have m1 := (unhide HB0x).cell (i := 1) (v := .slice (some ⟨bl, ol, none⟩) (A.length + 1) pc) rfl
        have m2 := (unhide HB0x).cell (i := 2) (v := .slice oo on oc) rfl
        have n0 := (unhide HB6x).cell (i := 0) (v := .slice none 0 0) rfl
        have n1 := (unhide HB6x).cell (i := 1) (v := .slice none 0 0) rfl
        have n2 := (unhide HB6x).cell (i := 2) (v := .slice none 0 0) rfl
        have f0 := fun i => (unhide HB0x).free i
        have f6 := fun i => (unhide HB6x).free i
        obtain ⟨pe, pn, pt⟩ := p
        simp only at d0 d1 d2 HRq
        cases pe with
        | true =>
          have hRn : R = none := unhide HRq
          subst hRn
          have B6 := hide (blkThree (v0 := .slice wo ws.length wk) (v1 := .slice (some ⟨bl, ol, none⟩) (A.length + 1) pc) (v2 := .slice oo on oc) (unhide HB6x))
          have R0 := hide ((unhide B6).cell (i := 0) (v := .slice wo ws.length wk) rfl)
          have R1 := hide ((unhide B6).cell (i := 1) (v := .slice (some ⟨bl, ol, none⟩) (A.length + 1) pc) rfl)
          have R2 := hide ((unhide B6).cell (i := 2) (v := .slice oo on oc) rfl)
          have XZ := hide (extThree (b := g6) (v0 := .slice wo ws.length wk) (v1 := .slice (some ⟨bl, ol, none⟩) (A.length + 1) pc) (v2 := .slice oo on oc) (unhide X02) (unhide hgs).2.1)
          go_wp2
          refine bodyPost_ret (v := .tuple #[.agg #[.slice wo ws.length wk, .slice (some ⟨bl, ol, none⟩) (A.length + 1) pc, .slice oo on oc], .bool false]) (by have r0 := unhide R0; have r1 := unhide R1; have r2 := unhide R2; simp [results, Tryd.results13, go_sem, r0, r1, r2]) rfl ⟨unhide XZ, _, _, _, _, _, _, rfl⟩
        | false =>
          have HRs : Hid (R = some (ws, A ++ [⟨true, pt && !pn, pt⟩])) := unhide HRq
          clear HRq
          obtain ⟨wb, hwb⟩ : ∃ wb, wb = w2.alloc (.cells #[.bool false, .bool pn, .bool pt] 66) := ⟨_, rfl⟩
          obtain ⟨gp, hgp⟩ : ∃ gp, gp = w2.heap.size := ⟨_, rfl⟩
          have XWB : Hid (Ext w2 wb) := by rw [hwb]; exact (Ext.refl _).alloc _
          have HBP : Hid (Blk wb gp #[.bool false, .bool pn, .bool pt] 66) := by rw [hwb, hgp]; exact Blk.new _ _ _
          have XB : Hid (Ext w wb) := (unhide X02).trans (unhide XWB)
          have M1 : Hid (wb.cell? ⟨g0, 1, none⟩ = some (.slice (some ⟨bl, ol, none⟩) (A.length + 1) pc)) := cellExt (unhide XWB) m1
          have HGB : Hid (g6 < wb.heap.size) := Nat.lt_of_lt_of_le (unhide HB6x).lt (unhide XWB).size
          go_wp2
          rw [← hwb, ← hgp]
          clear hwb hgp m0 m1 m2 n0 n1 n2 f0 f6 d0 d1 d2
          go_loopw [13, 14] (fun nv iv wr => ∃ (i : Nat) (N : List RP) (no : Option Addr) (nc : Nat), i ≤ A.length ∧ N = A.take i ∧ iv = .int .i64 (i : Int) ∧ nv = .slice no N.length nc ∧ GO ptC 66 3 wr wb.heap.size (.slice no N.length nc) N ∧ Ext wb wr) (fun _ iv _ => A.length - (intOf iv).toNat)
          case atStart => exact ⟨0, [], none, 0, by omega, by simp, rfl, rfl, GO.nil _ _, Ext.refl _⟩
          case round =>
            obtain ⟨i, N, no, nc, hi, hN, rfl, rfl, hG, hxr⟩ := hrel
            have HN := hide hN
            have HG := hide hG
            have XR := hide hxr
            have hNl : N.length ≤ 100000 := by rw [hN, List.length_take]; omega
            clear hN hG hxr
            by_cases hlt : i < A.length
            · obtain ⟨bq, oq, eq, hq⟩ := (((unhide HP).ext (unhide XB)).ext (unhide XR)).at i (by simp; omega)
              cases eq
              rw [show (A ++ [_])[i]'(by simp; omega) = A[i] from List.getElem_append_left hlt] at hq
              have hN2 : N ++ [A[i]] = A.take (i + 1) := by rw [unhide HN, List.take_succ_eq_append_getElem hlt]
              have HN2 := hide hN2
              obtain ⟨y, hy⟩ : ∃ y, A[i] = y := ⟨_, rfl⟩
              rw [hy] at hq HN2
              have c0 := hq.els
              have c1 := hq.counts
              have c2 := hq.outer
              have m1 := cellExt (unhide XR) (unhide M1)
              have hgr := (unhide XR).size
              clear hq hy hN2
              go_wp2_with (at_builtin; refine wpList_append_G (enc := ptC) infoPrt Tryd.underlying45 rfl (by decide) (by decide) rfl (.tmp 76) (.tmp 82) rfl wb.heap.size _ N y rfl ((unhide HG).ext ((Ext.refl _).alloc _)) _ 1 rfl _ (blkAt (by simp)) rfl (ptC_one y) (by omega) ?c2 ?_)
              case c2 =>
                simp
                omega
              intro ao2 cap2 N2 w6 hN3 hG6 hgr6 hloc
              have hx6 : Ext wb w6 := Below.trans ((unhide XR).alloc _) (grown_below hgr6 (Nat.le_trans (unhide XR).size (by simp)) (fun q hq => ((unhide HG).lt q hq).1))
              rw [unhide HN2] at hN3
              have HN3 := hide hN3
              have HG6 := hide hG6
              have X6 := hide hx6
              clear hN3 hG6 hgr6 hloc hx6
              go_wp2
              refine ⟨⟨i + 1, N2, ao2, cap2, by omega, unhide HN3, by push_cast; rfl, rfl, unhide HG6, unhide X6⟩, ?_⟩
              simp [intOf]
              omega
            · have hNe : A = N := by rw [unhide HN, List.take_of_length_le (by omega)]
              subst hNe
              clear HN
              have X2R : Hid (Ext w1 wr) := ((unhide X2).trans (unhide XWB)).trans (unhide XR)
              have X0R : Hid (Ext w wr) := (unhide XB).trans (unhide XR)
              have HB0x := hide ((unhide HB0).ext (unhide X2R))
              have HB6x := hide ((unhide HB6).ext (unhide X2R))
              have m0 := (unhide HB0x).cell (i := 0) (v := .slice wo ws.length wk) rfl
              have m1 := (unhide HB0x).cell (i := 1) (v := .slice (some ⟨bl, ol, none⟩) (A.length + 1) pc) rfl
              have m2 := (unhide HB0x).cell (i := 2) (v := .slice oo on oc) rfl
              have n0 := (unhide HB6x).cell (i := 0) (v := .slice none 0 0) rfl
              have n1 := (unhide HB6x).cell (i := 1) (v := .slice none 0 0) rfl
              have n2 := (unhide HB6x).cell (i := 2) (v := .slice none 0 0) rfl
              have f0 := fun i => (unhide HB0x).free i
              have f6 := fun i => (unhide HB6x).free i
              have p0 := ((unhide HBP).ext (unhide XR)).cell (i := 0) (v := .bool false) rfl
              have p1 := ((unhide HBP).ext (unhide XR)).cell (i := 1) (v := .bool pn) rfl
              have p2 := ((unhide HBP).ext (unhide XR)).cell (i := 2) (v := .bool pt) rfl
              have hgr := (unhide XR).size
              go_upto_region 19 with fail
              go_cut [13] from 86 to 98 (fun nv wx => ∃ (no2 : Option Addr) (nc2 : Nat) (N2 : List RP), nv = .slice no2 N2.length nc2 ∧ N2 = A ++ [⟨true, pt && !pn, pt⟩] ∧ GO ptC 66 3 wx wb.heap.size (.slice no2 N2.length nc2) N2 ∧ Ext wb wx)
              case first =>
                cases pt with
                | true =>
                  go_wp2_with (at_builtin; refine wpList_append_G (enc := ptC) infoPrt Tryd.underlying45 rfl (by decide) (by decide) rfl (.tmp 86) (.tmp 97) rfl wb.heap.size _ A ⟨true, !pn, true⟩ rfl ((unhide HG).ext ((Ext.refl _).alloc _)) _ 1 rfl _ (blkAt (by simp)) rfl (ptC_one _) (by omega) ?c2 ?_)
                  case c2 =>
                    simp
                    omega
                  intro ao2 cap2 N2 w6 hN3 hG6 hgr6 hloc
                  have hx6 : Ext wb w6 := Below.trans ((unhide XR).alloc _) (grown_below hgr6 (Nat.le_trans (unhide XR).size (by simp)) (fun q hq => ((unhide HG).lt q hq).1))
                  have HN3 := hide hN3
                  have HG6 := hide hG6
                  have X6 := hide hx6
                  clear hN3 hG6 hgr6 hloc hx6
                  go_wp2
                  go_meet
                  exact ⟨_, _, N2, rfl, unhide HN3, unhide HG6, unhide X6⟩
                | false =>
                  go_wp2_with (at_builtin; refine wpList_append_G (enc := ptC) infoPrt Tryd.underlying45 rfl (by decide) (by decide) rfl (.tmp 86) (.tmp 97) rfl wb.heap.size _ A ⟨true, false, false⟩ rfl ((unhide HG).ext ((Ext.refl _).alloc _)) _ 1 rfl _ (blkAt (by simp)) rfl (ptC_one _) (by omega) ?c2 ?_)
                  case c2 =>
                    simp
                    omega
                  intro ao2 cap2 N2 w6 hN3 hG6 hgr6 hloc
                  have hx6 : Ext wb w6 := Below.trans ((unhide XR).alloc _) (grown_below hgr6 (Nat.le_trans (unhide XR).size (by simp)) (fun q hq => ((unhide HG).lt q hq).1))
                  have HN3 := hide hN3
                  have HG6 := hide hG6
                  have X6 := hide hx6
                  clear hN3 hG6 hgr6 hloc hx6
                  go_wp2
                  go_meet
                  exact ⟨_, _, N2, rfl, unhide HN3, unhide HG6, unhide X6⟩
              case rest =>
                obtain ⟨no2, nc2, N2, rfl, hN2, hG2, hx2⟩ := hcut
                have HN2 := hide hN2
                have HG2 := hide hG2
                have XC := hide hx2
                clear hN2 hG2 hx2 m0 m1 m2 n0 n1 n2 f0 f6 p0 p1 p2 HB0x HB6x
                have X2C : Hid (Ext w1 wc) := ((unhide X2).trans (unhide XWB)).trans (unhide XC)
                have X0C : Hid (Ext w wc) := (unhide XB).trans (unhide XC)
                have HB0x := hide ((unhide HB0).ext (unhide X2C))
                have HB6x := hide ((unhide HB6).ext (unhide X2C))
                have m0 := (unhide HB0x).cell (i := 0) (v := .slice wo ws.length wk) rfl
                have m1 := (unhide HB0x).cell (i := 1) (v := .slice (some ⟨bl, ol, none⟩) (A.length + 1) pc) rfl
                have m2 := (unhide HB0x).cell (i := 2) (v := .slice oo on oc) rfl
                have n0 := (unhide HB6x).cell (i := 0) (v := .slice none 0 0) rfl
                have n1 := (unhide HB6x).cell (i := 1) (v := .slice none 0 0) rfl
                have n2 := (unhide HB6x).cell (i := 2) (v := .slice none 0 0) rfl
                have f0 := fun i => (unhide HB0x).free i
                have f6 := fun i => (unhide HB6x).free i
                have HTB : ∀ b, T b → b < wb.heap.size := fun b hb => Nat.lt_of_lt_of_le (unhide HTL0 b hb) (unhide XB).size
                have HGB2 : g6 < wb.heap.size ∧ g0 < wb.heap.size := ⟨unhide HGB, Nat.lt_trans (unhide hgs).2.2 (unhide HGB)⟩
                have HGZ := hide (((((unhide HG2).put HGB2.2 1 (.slice no2 N2.length nc2)).put HGB2.1 0 (.slice wo ws.length wk)).put HGB2.1 1 (.slice no2 N2.length nc2)).put HGB2.1 2 (.slice oo on oc))
                have HB0y := hide ((unhide HB0x).set 1 (.slice no2 N2.length nc2))
                have HB6y := hide ((unhide HB6x).other 1 (.slice no2 N2.length nc2) (r := g0) (Ne.symm (Nat.ne_of_lt (unhide hgs).2.2)))
                have XY : Hid (Ext w (wc.setCell ⟨g0, 1, none⟩ (.slice no2 N2.length nc2))) := extSet (unhide X0C) (unhide hgs).1
                have y0 := (unhide HB0y).cell (i := 0) (v := .slice wo ws.length wk) rfl
                have y1 := (unhide HB0y).cell (i := 1) (v := .slice no2 N2.length nc2) rfl
                have y2 := (unhide HB0y).cell (i := 2) (v := .slice oo on oc) rfl
                have x0 := (unhide HB6y).cell (i := 0) (v := .slice none 0 0) rfl
                have x1 := (unhide HB6y).cell (i := 1) (v := .slice none 0 0) rfl
                have x2 := (unhide HB6y).cell (i := 2) (v := .slice none 0 0) rfl
                have fy := fun i => (unhide HB6y).free i
                have hRz : R = some (ws, N2) := by rw [unhide HRs, unhide HN2]
                subst hRz
                have B6 := hide (blkThree (v0 := .slice wo ws.length wk) (v1 := .slice no2 N2.length nc2) (v2 := .slice oo on oc) (unhide HB6y))
                have R0 := hide ((unhide B6).cell (i := 0) (v := .slice wo ws.length wk) rfl)
                have R1 := hide ((unhide B6).cell (i := 1) (v := .slice no2 N2.length nc2) rfl)
                have R2 := hide ((unhide B6).cell (i := 2) (v := .slice oo on oc) rfl)
                have XZ := hide (extThree (b := g6) (v0 := .slice wo ws.length wk) (v1 := .slice no2 N2.length nc2) (v2 := .slice oo on oc) (unhide XY) (unhide hgs).2.1)
                go_wp2
                refine bodyPost_ret (v := .tuple #[.agg #[.slice wo ws.length wk, .slice no2 N2.length nc2, .slice oo on oc], .bool true]) (by have r0 := unhide R0; have r1 := unhide R1; have r2 := unhide R2; simp [results, Tryd.results13, go_sem, r0, r1, r2]) rfl ⟨unhide XZ, _, _, _, _, rfl, (unhide HW).ext (unhide XZ), (unhide HGZ).pr HTB⟩
end Go.Proofs.YtdcamcpffiilbaaDoor

/-
  The document's Direct: #endif.
-/
namespace Go.Proofs.YtdcamcpffiilbaaDoor
open Go.RowKit
set_option linter.unusedVariables false
set_option linter.unusedSimpArgs false

set_option maxHeartbeats 16000000 in
set_option maxRecDepth 100000 in
theorem refDirect_endif {T : Nat → Prop} (ws : List Wd) (ps : List RP) (x : Tok) (r : List Tok) (first : Bool) (wo : Option Addr) (wk : Nat) (po : Option Addr) (pc : Nat) (oo : Option Addr) (on oc : Nat) (lo : Option Addr) (lc : Nat) (w : World) (hW : WR T w (.slice wo ws.length wk) ws) (hP : PR T w (.slice po ps.length pc) ps) (hT : TF T w (.slice lo (x :: r).length lc) (x :: r)) (hTl : ∀ b, T b → b < w.heap.size) (hwl : ws.length ≤ 100000) (hpl : ps.length ≤ 100000) (hll : ∀ t ∈ (x :: r), t.text.length ≤ 8192) (hn : nameR x = tEndif) :
    Calls Tryd.prog 13 #[.agg #[.slice wo ws.length wk, .slice po ps.length pc, .slice oo on oc], .slice lo (x :: r).length lc, .bool first] w (DirQ2 T w oo on oc (directR keptP ws ps (x :: r) first)) := by
  obtain ⟨R, hR⟩ : ∃ R, R = directR keptP ws ps (x :: r) first := ⟨_, rfl⟩
  rw [← hR]
  have hR1 := hR
  unfold directR at hR1
  simp only at hR1
  obtain ⟨nm, hnm⟩ : ∃ nm, nameR x = nm := ⟨_, rfl⟩
  rw [hnm] at hR1 hn
  have HN2 : Hid (nm = [101, 110, 100, 105, 102]) := hn
  clear hn
  obtain ⟨w1, hw1⟩ : ∃ w1, w1 = (w.alloc (.cells #[.slice wo ws.length wk, .slice po ps.length pc, .slice oo on oc] 47)).alloc (.cells #[.slice none 0 0, .slice none 0 0, .slice none 0 0] 47) := ⟨_, rfl⟩
  obtain ⟨g0, hg0⟩ : ∃ g0, g0 = w.heap.size := ⟨_, rfl⟩
  obtain ⟨g6, hg6⟩ : ∃ g6, g6 = w.heap.size + 1 := ⟨_, rfl⟩
  have X1 : Hid (Ext w w1) := by rw [hw1]; exact ((Ext.refl w).alloc _).alloc _
  have HB0 : Hid (Blk w1 g0 #[.slice wo ws.length wk, .slice po ps.length pc, .slice oo on oc] 47) := by rw [hw1, hg0]; exact (Blk.new _ _ _).alloc _
  have HB6 : Hid (Blk w1 g6 #[.slice none 0 0, .slice none 0 0, .slice none 0 0] 47) := by rw [hw1, hg6]; exact blkAt (by simp)
  have hgs : Hid (w.heap.size ≤ g0 ∧ w.heap.size ≤ g6 ∧ g0 < g6) := ⟨by omega, by omega, by omega⟩
  have HTL0 := hide hTl
  have HW := hide hW
  have HP := hide hP
  have HT := hide hT
  have HNM := hide hnm
  have HR1 := hide hR1
  clear hR hW hP hT hTl hnm hR1
  obtain ⟨b, off, elo, hc0⟩ := ((unhide HT).1.ext (unhide X1)).at 0 (by simp)
  subst elo
  have ck := hc0.kind
  have cx := hc0.text
  simp only [Nat.zero_mul, Nat.add_zero, List.getElem_cons_zero] at ck cx
  clear hc0
  have hlc : r.length + 1 ≤ lc ∧ lc ≤ 9223372036854775807 := by
    obtain ⟨_, _, e, _, h2, h3, _⟩ := (unhide HT).1
    cases e
    unfold maxLen at h3
    simp at h2
    omega
  have HLL : Hid (∀ t ∈ r, t.text.length ≤ 8192) := fun t ht => hll t (List.mem_cons_of_mem _ ht)
  have HTL := hide (unhide HT).tail1
  have hl : (x :: r).length = r.length + 1 := by simp
  have b0 : ((r.length : Int) + 1 == 0) = false := beq_eq_false_iff_ne.2 (by omega)
  have i0 : (0 : Int) < (r.length : Int) + 1 := by omega
  rw [hl]
  clear hll hl
  have HCN := hide (refCounts_any ps wo ws.length wk po pc oo on oc w1 ((unhide HP).ext (unhide X1)) hpl)
  obtain ⟨cn, hcn⟩ : ∃ cn, countsR ps = cn := ⟨_, rfl⟩
  rw [hcn] at HCN HR1
  obtain ⟨kb, hkb⟩ : ∃ kb, (x.kind == 1) = kb := ⟨_, rfl⟩
  have m0 := (unhide HB0).cell (i := 0) (v := .slice wo ws.length wk) rfl
  have m1 := (unhide HB0).cell (i := 1) (v := .slice po ps.length pc) rfl
  have m2 := (unhide HB0).cell (i := 2) (v := .slice oo on oc) rfl
  clear hcn
  go_enter Tryd.func13, Tryd.ntmps13
  go_upto_region 1 with fail
  rw [← hw1, ← hg6, ← hg0]
  clear hw1 hg0 hg6
  go_wp2_with fail
  refine (unhide HCN).mono ?_
  rintro e w2 ⟨rfl, hx2⟩
  have X2 := hide hx2
  have ck2 := cellExt hx2 ck
  have cx2 := cellExt hx2 cx
  clear hx2 HCN m0 m1 m2 ck cx
  go_upto_if 32 with fail
  have HKB := hide hkb
  clear hkb
  go_cut [9] from 33 to 36 (fun nv wx => nv = .string ⟨nm.toArray⟩ ∧ w2 = wx)
  case first =>
    cases kb with
    | true =>
      have hn : nm = x.text := by
        rw [← unhide HNM]
        unfold nameR
        exact if_pos (eq_of_beq (unhide HKB))
      rw [← hn] at cx2
      clear hn
      go_wp2
      go_meet
      exact ⟨rfl, rfl⟩
    | false =>
      have hn : nm = [] := by
        rw [← unhide HNM]
        unfold nameR
        exact if_neg (beq_eq_false_iff_ne.1 (unhide HKB))
      have HN0 := hide hn
      clear hn
      go_wp2
      go_meet
      exact ⟨by rw [unhide HN0], rfl⟩
  case rest =>
    obtain ⟨rfl, rfl⟩ := hcut
    clear ck2 cx2 HKB HNM b0
    go_upto_region 7 with fail
    go_cut [10] from 37 to 38 (fun rv wx => ∃ rn rk, rv = .slice rn r.length rk ∧ TF T w (.slice rn r.length rk) r ∧ w2 = wx)
    case first =>
      have i1 : (1 : Int) ≤ (r.length : Int) + 1 := by omega
      by_cases h1 : lc = 1
      · rw [if_pos h1] at HTL
        subst h1
        obtain rfl : r = [] := List.length_eq_zero_iff.1 (by omega)
        go_wp2
        go_meet
        exact ⟨_, _, rfl, unhide HTL, rfl⟩
      · rw [if_neg h1] at HTL
        go_wp2
        go_meet
        exact ⟨_, _, rfl, unhide HTL, rfl⟩
    case rest =>
      obtain ⟨rn, rk, rfl, hTr, rfl⟩ := hcut
      have HTr := hide hTr
      have hrk : r.length ≤ 9223372036854775807 := by omega
      have X02 : Hid (Ext w w2) := (unhide X1).trans (unhide X2)
      clear hTr HTL hlc i0
      have hn2 := unhide HN2
      subst hn2
      clear HN2
      have HR2 := hide ((unhide HR1).trans (if_pos (by decide)))
      clear HR1
      rcases List.eq_nil_or_concat ps with rfl | ⟨A, p, rfl⟩
      · have hRq : R = none := unhide HR2
        subst hRq
        have HB0x := hide ((unhide HB0).ext (unhide X2))
        have HB6x := hide ((unhide HB6).ext (unhide X2))
        have m0 := (unhide HB0x).cell (i := 0) (v := .slice wo ws.length wk) rfl
        have m1 := (unhide HB0x).cell (i := 1) (v := .slice po 0 pc) rfl
        have m2 := (unhide HB0x).cell (i := 2) (v := .slice oo on oc) rfl
        have n0 := (unhide HB6x).cell (i := 0) (v := .slice none 0 0) rfl
        have n1 := (unhide HB6x).cell (i := 1) (v := .slice none 0 0) rfl
        have n2 := (unhide HB6x).cell (i := 2) (v := .slice none 0 0) rfl
        have f0 := fun i => (unhide HB0x).free i
        have f6 := fun i => (unhide HB6x).free i
        have B6 := hide (blkThree (v0 := .slice wo ws.length wk) (v1 := .slice po 0 pc) (v2 := .slice oo on oc) (unhide HB6x))
        have R0 := hide ((unhide B6).cell (i := 0) (v := .slice wo ws.length wk) rfl)
        have R1 := hide ((unhide B6).cell (i := 1) (v := .slice po 0 pc) rfl)
        have R2 := hide ((unhide B6).cell (i := 2) (v := .slice oo on oc) rfl)
        have XZ := hide (extThree (b := g6) (v0 := .slice wo ws.length wk) (v1 := .slice po 0 pc) (v2 := .slice oo on oc) (unhide X02) (unhide hgs).2.1)
        go_wp2
        refine bodyPost_ret (v := .tuple #[.agg #[.slice wo ws.length wk, .slice po 0 pc, .slice oo on oc], .bool false]) (by have r0 := unhide R0; have r1 := unhide R1; have r2 := unhide R2; simp [results, Tryd.results13, go_sem, r0, r1, r2]) rfl ⟨unhide XZ, _, _, _, _, _, _, rfl⟩
      · rw [List.concat_eq_append] at HR2 HP hpl HB0 ⊢
        have hl : (A ++ [p]).length = A.length + 1 := by simp
        rw [hl] at hpl HP HB0 ⊢
        have hRq : R = if False then none else some (ws, A ++ []) := by
          rw [unhide HR2]
          simp [tElse, tEndif]
        have HRq := hide hRq
        clear hRq HR2
        obtain ⟨bl, ol, el, hlast⟩ := (((unhide HP).ext (unhide X02))).at A.length (by simp)
        subst el
        rw [show (A ++ [p])[A.length]'(by simp) = p by simp] at hlast
        have d0 := hlast.els
        have d1 := hlast.counts
        have d2 := hlast.outer
        have z0 : ((A.length : Int) + 1 == 0) = false := beq_eq_false_iff_ne.2 (by omega)
        have z1 : IntKind.i64.wrap ((A.length : Int) + 1 - 1) = A.length := by rw [Int.add_sub_cancel]; simp [IntKind.wrap, IntKind.bits, IntKind.signed] <;> omega
        have z2 : (A.length : Int) + 1 - 1 = A.length := by omega
        clear hlast
        have HB0x := hide ((unhide HB0).ext (unhide X2))
        have HB6x := hide ((unhide HB6).ext (unhide X2))
        have m0 := (unhide HB0x).cell (i := 0) (v := .slice wo ws.length wk) rfl
        have m1 := (unhide HB0x).cell (i := 1) (v := .slice (some ⟨bl, ol, none⟩) (A.length + 1) pc) rfl
        have m2 := (unhide HB0x).cell (i := 2) (v := .slice oo on oc) rfl
        have n0 := (unhide HB6x).cell (i := 0) (v := .slice none 0 0) rfl
        have n1 := (unhide HB6x).cell (i := 1) (v := .slice none 0 0) rfl
        have n2 := (unhide HB6x).cell (i := 2) (v := .slice none 0 0) rfl
        have f0 := fun i => (unhide HB0x).free i
        have f6 := fun i => (unhide HB6x).free i
        have HRs : Hid (R = some (ws, A)) := (unhide HRq).trans (by rw [if_neg (by simp), List.append_nil])
        clear HRq
        obtain ⟨wb, hwb⟩ : ∃ wb, wb = w2.alloc (.cells #[.bool p.els, .bool p.counts, .bool p.outer] 66) := ⟨_, rfl⟩
        obtain ⟨gp, hgp⟩ : ∃ gp, gp = w2.heap.size := ⟨_, rfl⟩
        have XWB : Hid (Ext w2 wb) := by rw [hwb]; exact (Ext.refl _).alloc _
        have HBP : Hid (Blk wb gp #[.bool p.els, .bool p.counts, .bool p.outer] 66) := by rw [hwb, hgp]; exact Blk.new _ _ _
        have XB : Hid (Ext w wb) := (unhide X02).trans (unhide XWB)
        have M1 : Hid (wb.cell? ⟨g0, 1, none⟩ = some (.slice (some ⟨bl, ol, none⟩) (A.length + 1) pc)) := cellExt (unhide XWB) m1
        have HGB : Hid (g6 < wb.heap.size) := Nat.lt_of_lt_of_le (unhide HB6x).lt (unhide XWB).size
        go_wp2
        rw [← hwb, ← hgp]
        clear hwb hgp m0 m1 m2 n0 n1 n2 f0 f6 d0 d1 d2
        go_loopw [13, 14] (fun nv iv wr => ∃ (i : Nat) (N : List RP) (no : Option Addr) (nc : Nat), i ≤ A.length ∧ N = A.take i ∧ iv = .int .i64 (i : Int) ∧ nv = .slice no N.length nc ∧ GO ptC 66 3 wr wb.heap.size (.slice no N.length nc) N ∧ Ext wb wr) (fun _ iv _ => A.length - (intOf iv).toNat)
        case atStart => exact ⟨0, [], none, 0, by omega, by simp, rfl, rfl, GO.nil _ _, Ext.refl _⟩
        case round =>
          obtain ⟨i, N, no, nc, hi, hN, rfl, rfl, hG, hxr⟩ := hrel
          have HN := hide hN
          have HG := hide hG
          have XR := hide hxr
          have hNl : N.length ≤ 100000 := by rw [hN, List.length_take]; omega
          clear hN hG hxr
          by_cases hlt : i < A.length
          · obtain ⟨bq, oq, eq, hq⟩ := (((unhide HP).ext (unhide XB)).ext (unhide XR)).at i (by simp; omega)
            cases eq
            rw [show (A ++ [_])[i]'(by simp; omega) = A[i] from List.getElem_append_left hlt] at hq
            have hN2 : N ++ [A[i]] = A.take (i + 1) := by rw [unhide HN, List.take_succ_eq_append_getElem hlt]
            have HN2 := hide hN2
            obtain ⟨y, hy⟩ : ∃ y, A[i] = y := ⟨_, rfl⟩
            rw [hy] at hq HN2
            have c0 := hq.els
            have c1 := hq.counts
            have c2 := hq.outer
            have m1 := cellExt (unhide XR) (unhide M1)
            have hgr := (unhide XR).size
            clear hq hy hN2
            go_wp2_with (at_builtin; refine wpList_append_G (enc := ptC) infoPrt Tryd.underlying45 rfl (by decide) (by decide) rfl (.tmp 76) (.tmp 82) rfl wb.heap.size _ N y rfl ((unhide HG).ext ((Ext.refl _).alloc _)) _ 1 rfl _ (blkAt (by simp)) rfl (ptC_one y) (by omega) ?c2 ?_)
            case c2 =>
              simp
              omega
            intro ao2 cap2 N2 w6 hN3 hG6 hgr6 hloc
            have hx6 : Ext wb w6 := Below.trans ((unhide XR).alloc _) (grown_below hgr6 (Nat.le_trans (unhide XR).size (by simp)) (fun q hq => ((unhide HG).lt q hq).1))
            rw [unhide HN2] at hN3
            have HN3 := hide hN3
            have HG6 := hide hG6
            have X6 := hide hx6
            clear hN3 hG6 hgr6 hloc hx6
            go_wp2
            refine ⟨⟨i + 1, N2, ao2, cap2, by omega, unhide HN3, by push_cast; rfl, rfl, unhide HG6, unhide X6⟩, ?_⟩
            simp [intOf]
            omega
          · have hNe : A = N := by rw [unhide HN, List.take_of_length_le (by omega)]
            subst hNe
            clear HN
            have X2R : Hid (Ext w1 wr) := ((unhide X2).trans (unhide XWB)).trans (unhide XR)
            have X0R : Hid (Ext w wr) := (unhide XB).trans (unhide XR)
            have HB0x := hide ((unhide HB0).ext (unhide X2R))
            have HB6x := hide ((unhide HB6).ext (unhide X2R))
            have m0 := (unhide HB0x).cell (i := 0) (v := .slice wo ws.length wk) rfl
            have m1 := (unhide HB0x).cell (i := 1) (v := .slice (some ⟨bl, ol, none⟩) (A.length + 1) pc) rfl
            have m2 := (unhide HB0x).cell (i := 2) (v := .slice oo on oc) rfl
            have n0 := (unhide HB6x).cell (i := 0) (v := .slice none 0 0) rfl
            have n1 := (unhide HB6x).cell (i := 1) (v := .slice none 0 0) rfl
            have n2 := (unhide HB6x).cell (i := 2) (v := .slice none 0 0) rfl
            have f0 := fun i => (unhide HB0x).free i
            have f6 := fun i => (unhide HB6x).free i
            have HTB : ∀ b, T b → b < wb.heap.size := fun b hb => Nat.lt_of_lt_of_le (unhide HTL0 b hb) (unhide XB).size
            have HGB2 : g6 < wb.heap.size ∧ g0 < wb.heap.size := ⟨unhide HGB, Nat.lt_trans (unhide hgs).2.2 (unhide HGB)⟩
            have HGZ := hide (((((unhide HG).put HGB2.2 1 (.slice no A.length nc)).put HGB2.1 0 (.slice wo ws.length wk)).put HGB2.1 1 (.slice no A.length nc)).put HGB2.1 2 (.slice oo on oc))
            have HB0y := hide ((unhide HB0x).set 1 (.slice no A.length nc))
            have HB6y := hide ((unhide HB6x).other 1 (.slice no A.length nc) (r := g0) (Ne.symm (Nat.ne_of_lt (unhide hgs).2.2)))
            have XY : Hid (Ext w (wr.setCell ⟨g0, 1, none⟩ (.slice no A.length nc))) := extSet (unhide X0R) (unhide hgs).1
            have y0 := (unhide HB0y).cell (i := 0) (v := .slice wo ws.length wk) rfl
            have y1 := (unhide HB0y).cell (i := 1) (v := .slice no A.length nc) rfl
            have y2 := (unhide HB0y).cell (i := 2) (v := .slice oo on oc) rfl
            have x0 := (unhide HB6y).cell (i := 0) (v := .slice none 0 0) rfl
            have x1 := (unhide HB6y).cell (i := 1) (v := .slice none 0 0) rfl
            have x2 := (unhide HB6y).cell (i := 2) (v := .slice none 0 0) rfl
            have fy := fun i => (unhide HB6y).free i
            have hRz : R = some (ws, A) := unhide HRs
            subst hRz
            have B6 := hide (blkThree (v0 := .slice wo ws.length wk) (v1 := .slice no A.length nc) (v2 := .slice oo on oc) (unhide HB6y))
            have R0 := hide ((unhide B6).cell (i := 0) (v := .slice wo ws.length wk) rfl)
            have R1 := hide ((unhide B6).cell (i := 1) (v := .slice no A.length nc) rfl)
            have R2 := hide ((unhide B6).cell (i := 2) (v := .slice oo on oc) rfl)
            have XZ := hide (extThree (b := g6) (v0 := .slice wo ws.length wk) (v1 := .slice no A.length nc) (v2 := .slice oo on oc) (unhide XY) (unhide hgs).2.1)
            go_wp2
            refine bodyPost_ret (v := .tuple #[.agg #[.slice wo ws.length wk, .slice no A.length nc, .slice oo on oc], .bool true]) (by have r0 := unhide R0; have r1 := unhide R1; have r2 := unhide R2; simp [results, Tryd.results13, go_sem, r0, r1, r2]) rfl ⟨unhide XZ, _, _, _, _, rfl, (unhide HW).ext (unhide XZ), (unhide HGZ).pr HTB⟩
end Go.Proofs.YtdcamcpffiilbaaDoor

/-
  The document's Direct: #ifdef.
-/
namespace Go.Proofs.YtdcamcpffiilbaaDoor
open Go.RowKit
set_option linter.unusedVariables false
set_option linter.unusedSimpArgs false

set_option maxHeartbeats 16000000 in
set_option maxRecDepth 100000 in
theorem refDirect_ifdef {T : Nat → Prop} (ws : List Wd) (ps : List RP) (x : Tok) (r : List Tok) (first : Bool) (wo : Option Addr) (wk : Nat) (po : Option Addr) (pc : Nat) (oo : Option Addr) (on oc : Nat) (lo : Option Addr) (lc : Nat) (w : World) (hW : WR T w (.slice wo ws.length wk) ws) (hP : PR T w (.slice po ps.length pc) ps) (hT : TF T w (.slice lo (x :: r).length lc) (x :: r)) (hTl : ∀ b, T b → b < w.heap.size) (hwl : ws.length ≤ 100000) (hpl : ps.length ≤ 100000) (hll : ∀ t ∈ (x :: r), t.text.length ≤ 8192) (hn : nameR x = tIfdef) :
    Calls Tryd.prog 13 #[.agg #[.slice wo ws.length wk, .slice po ps.length pc, .slice oo on oc], .slice lo (x :: r).length lc, .bool first] w (DirQ2 T w oo on oc (directR keptP ws ps (x :: r) first)) := by
  obtain ⟨R, hR⟩ : ∃ R, R = directR keptP ws ps (x :: r) first := ⟨_, rfl⟩
  rw [← hR]
  have hR1 := hR
  unfold directR at hR1
  simp only at hR1
  obtain ⟨nm, hnm⟩ : ∃ nm, nameR x = nm := ⟨_, rfl⟩
  rw [hnm] at hR1 hn
  have HN2 : Hid (nm = [105, 102, 100, 101, 102]) := hn
  clear hn
  obtain ⟨w1, hw1⟩ : ∃ w1, w1 = (w.alloc (.cells #[.slice wo ws.length wk, .slice po ps.length pc, .slice oo on oc] 47)).alloc (.cells #[.slice none 0 0, .slice none 0 0, .slice none 0 0] 47) := ⟨_, rfl⟩
  obtain ⟨g0, hg0⟩ : ∃ g0, g0 = w.heap.size := ⟨_, rfl⟩
  obtain ⟨g6, hg6⟩ : ∃ g6, g6 = w.heap.size + 1 := ⟨_, rfl⟩
  have X1 : Hid (Ext w w1) := by rw [hw1]; exact ((Ext.refl w).alloc _).alloc _
  have HB0 : Hid (Blk w1 g0 #[.slice wo ws.length wk, .slice po ps.length pc, .slice oo on oc] 47) := by rw [hw1, hg0]; exact (Blk.new _ _ _).alloc _
  have HB6 : Hid (Blk w1 g6 #[.slice none 0 0, .slice none 0 0, .slice none 0 0] 47) := by rw [hw1, hg6]; exact blkAt (by simp)
  have hgs : Hid (w.heap.size ≤ g0 ∧ w.heap.size ≤ g6 ∧ g0 < g6) := ⟨by omega, by omega, by omega⟩
  have HTL0 := hide hTl
  have HW := hide hW
  have HP := hide hP
  have HT := hide hT
  have HNM := hide hnm
  have HR1 := hide hR1
  clear hR hW hP hT hTl hnm hR1
  obtain ⟨b, off, elo, hc0⟩ := ((unhide HT).1.ext (unhide X1)).at 0 (by simp)
  subst elo
  have ck := hc0.kind
  have cx := hc0.text
  simp only [Nat.zero_mul, Nat.add_zero, List.getElem_cons_zero] at ck cx
  clear hc0
  have hlc : r.length + 1 ≤ lc ∧ lc ≤ 9223372036854775807 := by
    obtain ⟨_, _, e, _, h2, h3, _⟩ := (unhide HT).1
    cases e
    unfold maxLen at h3
    simp at h2
    omega
  have HLL : Hid (∀ t ∈ r, t.text.length ≤ 8192) := fun t ht => hll t (List.mem_cons_of_mem _ ht)
  have HTL := hide (unhide HT).tail1
  have hl : (x :: r).length = r.length + 1 := by simp
  have b0 : ((r.length : Int) + 1 == 0) = false := beq_eq_false_iff_ne.2 (by omega)
  have i0 : (0 : Int) < (r.length : Int) + 1 := by omega
  rw [hl]
  clear hll hl
  have HCN := hide (refCounts_any ps wo ws.length wk po pc oo on oc w1 ((unhide HP).ext (unhide X1)) hpl)
  obtain ⟨cn, hcn⟩ : ∃ cn, countsR ps = cn := ⟨_, rfl⟩
  rw [hcn] at HCN HR1
  obtain ⟨kb, hkb⟩ : ∃ kb, (x.kind == 1) = kb := ⟨_, rfl⟩
  have m0 := (unhide HB0).cell (i := 0) (v := .slice wo ws.length wk) rfl
  have m1 := (unhide HB0).cell (i := 1) (v := .slice po ps.length pc) rfl
  have m2 := (unhide HB0).cell (i := 2) (v := .slice oo on oc) rfl
  clear hcn
  go_enter Tryd.func13, Tryd.ntmps13
  go_upto_region 1 with fail
  rw [← hw1, ← hg6, ← hg0]
  clear hw1 hg0 hg6
  go_wp2_with fail
  refine (unhide HCN).mono ?_
  rintro e w2 ⟨rfl, hx2⟩
  have X2 := hide hx2
  have ck2 := cellExt hx2 ck
  have cx2 := cellExt hx2 cx
  clear hx2 HCN m0 m1 m2 ck cx
  go_upto_if 32 with fail
  have HKB := hide hkb
  clear hkb
  go_cut [9] from 33 to 36 (fun nv wx => nv = .string ⟨nm.toArray⟩ ∧ w2 = wx)
  case first =>
    cases kb with
    | true =>
      have hn : nm = x.text := by
        rw [← unhide HNM]
        unfold nameR
        exact if_pos (eq_of_beq (unhide HKB))
      rw [← hn] at cx2
      clear hn
      go_wp2
      go_meet
      exact ⟨rfl, rfl⟩
    | false =>
      have hn : nm = [] := by
        rw [← unhide HNM]
        unfold nameR
        exact if_neg (beq_eq_false_iff_ne.1 (unhide HKB))
      have HN0 := hide hn
      clear hn
      go_wp2
      go_meet
      exact ⟨by rw [unhide HN0], rfl⟩
  case rest =>
    obtain ⟨rfl, rfl⟩ := hcut
    clear ck2 cx2 HKB HNM b0
    go_upto_region 7 with fail
    go_cut [10] from 37 to 38 (fun rv wx => ∃ rn rk, rv = .slice rn r.length rk ∧ TF T w (.slice rn r.length rk) r ∧ w2 = wx)
    case first =>
      have i1 : (1 : Int) ≤ (r.length : Int) + 1 := by omega
      by_cases h1 : lc = 1
      · rw [if_pos h1] at HTL
        subst h1
        obtain rfl : r = [] := List.length_eq_zero_iff.1 (by omega)
        go_wp2
        go_meet
        exact ⟨_, _, rfl, unhide HTL, rfl⟩
      · rw [if_neg h1] at HTL
        go_wp2
        go_meet
        exact ⟨_, _, rfl, unhide HTL, rfl⟩
    case rest =>
      obtain ⟨rn, rk, rfl, hTr, rfl⟩ := hcut
      have HTr := hide hTr
      have hrk : r.length ≤ 9223372036854775807 := by omega
      have X02 : Hid (Ext w w2) := (unhide X1).trans (unhide X2)
      clear hTr HTL hlc i0
      have hn2 := unhide HN2
      subst hn2
      clear HN2
      have HR2 : Hid (R = if cn = true ∧ isWordL r = false then none else some (ws, ps ++ [⟨false, cn && (!r.isEmpty && (standsR ws (hd0 r).text == true)), cn⟩])) := (unhide HR1).trans ((if_neg (by decide)).trans (if_pos (by decide)))
      clear HR1
      obtain ⟨isB, hib⟩ : ∃ isB, (cn && (!r.isEmpty && (standsR ws (hd0 r).text == true))) = isB := ⟨_, rfl⟩
      rw [hib] at HR2
      have HIB := hide hib
      clear hib
      have HB0x := hide ((unhide HB0).ext (unhide X2))
      have HB6x := hide ((unhide HB6).ext (unhide X2))
      have m0 := (unhide HB0x).cell (i := 0) (v := .slice wo ws.length wk) rfl
      have m1 := (unhide HB0x).cell (i := 1) (v := .slice po ps.length pc) rfl
      have m2 := (unhide HB0x).cell (i := 2) (v := .slice oo on oc) rfl
      have n0 := (unhide HB6x).cell (i := 0) (v := .slice none 0 0) rfl
      have n1 := (unhide HB6x).cell (i := 1) (v := .slice none 0 0) rfl
      have n2 := (unhide HB6x).cell (i := 2) (v := .slice none 0 0) rfl
      have f0 := fun i => (unhide HB0x).free i
      have f6 := fun i => (unhide HB6x).free i
      go_upto_region 23 with fail
      go_cut [15] from 108 to 124 (fun iv wx => iv = .bool isB ∧ Ext w2 wx)
      case first =>
        cases cn with
        | false =>
          have e : isB = false := (unhide HIB).symm
          subst e
          go_wp2
          go_quiet (fail)
          go_wp2
          go_meet
          exact ⟨rfl, (Ext.refl _).drewN _⟩
        | true =>
          cases r with
          | nil =>
            have e : isB = false := (unhide HIB).symm
            subst e
            go_wp2
            go_quiet (fail)
            go_wp2
            go_meet
            exact ⟨rfl, (Ext.refl _).drewN _⟩
          | cons y r2 =>
            have hib := (unhide HIB).symm
            have e : isB = (standsR ws y.text == true) := hib
            obtain ⟨b4, o4, e4, h4⟩ := ((unhide HTr).1.ext (unhide X02)).at 0 (by simp)
            subst e4
            have ct := h4.text
            simp only [Nat.zero_mul, Nat.add_zero, List.getElem_cons_zero] at ct
            have HST := hide (fun wx (hx : Ext w2 wx) => refStands_any ws y.text wo wk po ps.length pc oo on oc wx (((unhide HW).ext (unhide X02)).ext hx) hwl)
            generalize standsR ws y.text = sd at *
            have HE := hide e
            have l0 := cell_later m0
            have l1 := cell_later m1
            have l2 := cell_later m2
            have l3 := cell_later ct
            have hne := Later.some w2
            have hl2 : (y :: r2).length = r2.length + 1 := by simp
            have i2 : decide ((0 : Int) < (r2.length : Int) + 1) = true := decide_eq_true (by omega)
            have i3 : (0 : Int) < (r2.length : Int) + 1 := by omega
            rw [hl2]
            clear e hib h4 m0 m1 m2 ct HIB hl2
            refine wp_region_later (by kernel_rfl) (by kernel_rfl) ?_
            repeat (go_big_quiet_step (first | (go_at_call 26; refine calls_later (unhide HST _ (Later.ext _)))))
            refine wpQuiet_nil ?_
            rintro _ ⟨x9, rfl⟩
            have hx9 := x9.ext
            generalize x9.w = w9 at hx9 ⊢
            have X9 := hide hx9
            clear x9 l0 l1 l2 l3 hne hx9
            go_wp2
            go_meet
            refine ⟨?_, unhide X9⟩
            rw [unhide HE]
            cases sd <;> rfl
      case rest =>
        obtain ⟨rfl, hxc⟩ := hcut
        obtain ⟨wb, hwb⟩ : ∃ wb, wb = wc := ⟨_, rfl⟩
        have XWB : Hid (Ext w2 wb) := by rw [hwb]; exact hxc
        have XB : Hid (Ext w wb) := (unhide X02).trans (unhide XWB)
        have M1 : Hid (wb.cell? ⟨g0, 1, none⟩ = some (.slice po ps.length pc)) := cellExt (unhide XWB) m1
        have HGB : Hid (g6 < wb.heap.size) := Nat.lt_of_lt_of_le (unhide HB6x).lt (unhide XWB).size
        clear hxc m0 m1 m2 n0 n1 n2 f0 f6 HIB HB0x HB6x
        go_wp2
        rw [← hwb]
        clear hwb
        go_loopw [16, 17] (fun nv iv wr => ∃ (i : Nat) (N : List RP) (no : Option Addr) (nc : Nat), i ≤ ps.length ∧ N = ps.take i ∧ iv = .int .i64 (i : Int) ∧ nv = .slice no N.length nc ∧ GO ptC 66 3 wr wb.heap.size (.slice no N.length nc) N ∧ Ext wb wr) (fun _ iv _ => ps.length - (intOf iv).toNat)
        case atStart => exact ⟨0, [], none, 0, by omega, by simp, rfl, rfl, GO.nil _ _, Ext.refl _⟩
        case round =>
          obtain ⟨i, N, no, nc, hi, hN, rfl, rfl, hG, hxr⟩ := hrel
          have HN := hide hN
          have HG := hide hG
          have XR := hide hxr
          have hNl : N.length ≤ 100000 := by rw [hN, List.length_take]; omega
          clear hN hG hxr
          by_cases hlt : i < ps.length
          · obtain ⟨bq, oq, eq, hq⟩ := (((unhide HP).ext (unhide XB)).ext (unhide XR)).at i (by exact hlt)
            cases eq
    
            have hN2 : N ++ [ps[i]] = ps.take (i + 1) := by rw [unhide HN, List.take_succ_eq_append_getElem hlt]
            have HN2 := hide hN2
            obtain ⟨y, hy⟩ : ∃ y, ps[i] = y := ⟨_, rfl⟩
            rw [hy] at hq HN2
            have c0 := hq.els
            have c1 := hq.counts
            have c2 := hq.outer
            have m1 := cellExt (unhide XR) (unhide M1)
            have hgr := (unhide XR).size
            clear hq hy hN2
            go_wp2_with (at_builtin; refine wpList_append_G (enc := ptC) infoPrt Tryd.underlying45 rfl (by decide) (by decide) rfl (.tmp 130) (.tmp 136) rfl wb.heap.size _ N y rfl ((unhide HG).ext ((Ext.refl _).alloc _)) _ 1 rfl _ (blkAt (by simp)) rfl (ptC_one y) (by omega) ?c2 ?_)
            case c2 =>
              simp
              omega
            intro ao2 cap2 N2 w6 hN3 hG6 hgr6 hloc
            have hx6 : Ext wb w6 := Below.trans ((unhide XR).alloc _) (grown_below hgr6 (Nat.le_trans (unhide XR).size (by simp)) (fun q hq => ((unhide HG).lt q hq).1))
            rw [unhide HN2] at hN3
            have HN3 := hide hN3
            have HG6 := hide hG6
            have X6 := hide hx6
            clear hN3 hG6 hgr6 hloc hx6
            go_wp2
            refine ⟨⟨i + 1, N2, ao2, cap2, by omega, unhide HN3, by push_cast; rfl, rfl, unhide HG6, unhide X6⟩, ?_⟩
            simp [intOf]
            omega
          · have hNe : ps = N := by rw [unhide HN, List.take_of_length_le (by omega)]
            subst hNe
            clear HN
            have hgr := (unhide XR).size
            have X2R : Hid (Ext w1 wr) := ((unhide X2).trans (unhide XWB)).trans (unhide XR)
            have HB0x := hide ((unhide HB0).ext (unhide X2R))
            have HB6x := hide ((unhide HB6).ext (unhide X2R))
            have m0 := (unhide HB0x).cell (i := 0) (v := .slice wo ws.length wk) rfl
            have m1 := (unhide HB0x).cell (i := 1) (v := .slice po ps.length pc) rfl
            have m2 := (unhide HB0x).cell (i := 2) (v := .slice oo on oc) rfl
            have n0 := (unhide HB6x).cell (i := 0) (v := .slice none 0 0) rfl
            have n1 := (unhide HB6x).cell (i := 1) (v := .slice none 0 0) rfl
            have n2 := (unhide HB6x).cell (i := 2) (v := .slice none 0 0) rfl
            have f0 := fun i => (unhide HB0x).free i
            have f6 := fun i => (unhide HB6x).free i
            go_wp2_with (at_builtin; refine wpList_append_G (enc := ptC) infoPrt Tryd.underlying45 rfl (by decide) (by decide) rfl (.tmp 138) (.tmp 142) rfl wb.heap.size _ ps ⟨false, isB, cn⟩ rfl ((unhide HG).ext ((Ext.refl _).alloc _)) _ 1 rfl _ (blkAt (by simp)) rfl (ptC_one _) (by omega) ?c2 ?_)
            case c2 =>
              simp
              omega
            intro no2 nc2 N2 w6 hN3 hG6 hgr6 hloc
            have hx6 : Ext wb w6 := Below.trans ((unhide XR).alloc _) (grown_below hgr6 (Nat.le_trans (unhide XR).size (by simp)) (fun q hq => ((unhide HG).lt q hq).1))
            rw [← hN3] at HR2
            have HR3 := hide (unhide HR2)
            have HG6 := hide hG6
            have X26 : Hid (Ext w1 w6) := ((unhide X2).trans (unhide XWB)).trans hx6
            have X06 : Hid (Ext w w6) := (unhide XB).trans hx6
            clear hN3 hG6 hgr6 hloc hx6 m0 m1 m2 n0 n1 n2 f0 f6 HB0x HB6x HR2
            have HB0x := hide ((unhide HB0).ext (unhide X26))
            have HB6x := hide ((unhide HB6).ext (unhide X26))
            have m0 := (unhide HB0x).cell (i := 0) (v := .slice wo ws.length wk) rfl
            have m1 := (unhide HB0x).cell (i := 1) (v := .slice po ps.length pc) rfl
            have m2 := (unhide HB0x).cell (i := 2) (v := .slice oo on oc) rfl
            have n0 := (unhide HB6x).cell (i := 0) (v := .slice none 0 0) rfl
            have n1 := (unhide HB6x).cell (i := 1) (v := .slice none 0 0) rfl
            have n2 := (unhide HB6x).cell (i := 2) (v := .slice none 0 0) rfl
            have f0 := fun i => (unhide HB0x).free i
            have f6 := fun i => (unhide HB6x).free i
            have HTB : ∀ b, T b → b < wb.heap.size := fun b hb => Nat.lt_of_lt_of_le (unhide HTL0 b hb) (unhide XB).size
            have HGB2 : g6 < wb.heap.size ∧ g0 < wb.heap.size := ⟨unhide HGB, Nat.lt_trans (unhide hgs).2.2 (unhide HGB)⟩
            have HGZ := hide (((((unhide HG6).put HGB2.2 1 (.slice no2 N2.length nc2)).put HGB2.1 0 (.slice wo ws.length wk)).put HGB2.1 1 (.slice no2 N2.length nc2)).put HGB2.1 2 (.slice oo on oc))
            have HB0y := hide ((unhide HB0x).set 1 (.slice no2 N2.length nc2))
            have HB6y := hide ((unhide HB6x).other 1 (.slice no2 N2.length nc2) (r := g0) (Ne.symm (Nat.ne_of_lt (unhide hgs).2.2)))
            have XY : Hid (Ext w (w6.setCell ⟨g0, 1, none⟩ (.slice no2 N2.length nc2))) := extSet (unhide X06) (unhide hgs).1
            have y0 := (unhide HB0y).cell (i := 0) (v := .slice wo ws.length wk) rfl
            have y1 := (unhide HB0y).cell (i := 1) (v := .slice no2 N2.length nc2) rfl
            have y2 := (unhide HB0y).cell (i := 2) (v := .slice oo on oc) rfl
            have x0 := (unhide HB6y).cell (i := 0) (v := .slice none 0 0) rfl
            have x1 := (unhide HB6y).cell (i := 1) (v := .slice none 0 0) rfl
            have x2 := (unhide HB6y).cell (i := 2) (v := .slice none 0 0) rfl
            have fy := fun i => (unhide HB6y).free i
            have HWD := hide (fun wx (hx : Ext w wx) => refWord_any r rn rk wx ((unhide HTr).1.ext hx))
            obtain ⟨iw, hiw⟩ : ∃ iw, isWordL r = iw := ⟨_, rfl⟩
            rw [hiw] at HWD HR3
            clear hiw
            go_upto_region 30 with fail
            cases cn with
            | false =>
              have hRz : R = some (ws, N2) := (unhide HR3).trans (if_neg (by simp))
              subst hRz
              have B6 := hide (blkThree (v0 := .slice wo ws.length wk) (v1 := .slice no2 N2.length nc2) (v2 := .slice oo on oc) (unhide HB6y))
              have R0 := hide ((unhide B6).cell (i := 0) (v := .slice wo ws.length wk) rfl)
              have R1 := hide ((unhide B6).cell (i := 1) (v := .slice no2 N2.length nc2) rfl)
              have R2 := hide ((unhide B6).cell (i := 2) (v := .slice oo on oc) rfl)
              have XZ := hide (extThree (b := g6) (v0 := .slice wo ws.length wk) (v1 := .slice no2 N2.length nc2) (v2 := .slice oo on oc) (unhide XY) (unhide hgs).2.1)
              go_region
              go_wp2
              refine bodyPost_ret (v := .tuple #[.agg #[.slice wo ws.length wk, .slice no2 N2.length nc2, .slice oo on oc], .bool true]) (by have r0 := unhide R0; have r1 := unhide R1; have r2 := unhide R2; simp [results, Tryd.results13, go_sem, r0, r1, r2]) rfl ⟨(unhide XZ).drew, _, _, _, _, rfl, (unhide HW).ext (unhide XZ).drew, ((unhide HGZ).ext (Ext.refl _).drew).pr HTB⟩
            | true =>
              cases iw with
              | true =>
                have hRz : R = some (ws, N2) := (unhide HR3).trans (if_neg (by simp))
                subst hRz
                have B6 := hide (blkThree (v0 := .slice wo ws.length wk) (v1 := .slice no2 N2.length nc2) (v2 := .slice oo on oc) (unhide HB6y))
                have R0 := hide ((unhide B6).cell (i := 0) (v := .slice wo ws.length wk) rfl)
                have R1 := hide ((unhide B6).cell (i := 1) (v := .slice no2 N2.length nc2) rfl)
                have R2 := hide ((unhide B6).cell (i := 2) (v := .slice oo on oc) rfl)
                have XZ := hide (extThree (b := g6) (v0 := .slice wo ws.length wk) (v1 := .slice no2 N2.length nc2) (v2 := .slice oo on oc) (unhide XY) (unhide hgs).2.1)
                go_region_with (first | (go_at_call 27; refine (unhide HWD _ ?hx).mono ?_; (case hx => (first | with_reducible exact (unhide XY).drew | with_reducible exact extThree (unhide XY).drew (unhide hgs).2.1)); rintro e w8 ⟨rfl, rfl⟩))
                all_goals go_wp2
                all_goals
                  refine bodyPost_ret (v := .tuple #[.agg #[.slice wo ws.length wk, .slice no2 N2.length nc2, .slice oo on oc], .bool true]) (by have r0 := unhide R0; have r1 := unhide R1; have r2 := unhide R2; simp [results, Tryd.results13, go_sem, r0, r1, r2]) rfl ⟨(unhide XZ).drew, _, _, _, _, rfl, (unhide HW).ext (unhide XZ).drew, ((unhide HGZ).ext (Ext.refl _).drew).pr HTB⟩
              | false =>
                have hRz : R = none := (unhide HR3).trans (if_pos ⟨rfl, rfl⟩)
                subst hRz
                have B6 := hide (blkThree (v0 := .slice wo ws.length wk) (v1 := .slice no2 N2.length nc2) (v2 := .slice oo on oc) (unhide HB6y))
                have R0 := hide ((unhide B6).cell (i := 0) (v := .slice wo ws.length wk) rfl)
                have R1 := hide ((unhide B6).cell (i := 1) (v := .slice no2 N2.length nc2) rfl)
                have R2 := hide ((unhide B6).cell (i := 2) (v := .slice oo on oc) rfl)
                have XZ := hide (extThree (b := g6) (v0 := .slice wo ws.length wk) (v1 := .slice no2 N2.length nc2) (v2 := .slice oo on oc) (unhide XY) (unhide hgs).2.1)
                go_region_with (first | (go_at_call 27; refine (unhide HWD _ ?hx).mono ?_; (case hx => (first | with_reducible exact (unhide XY).drew | with_reducible exact extThree (unhide XY).drew (unhide hgs).2.1)); rintro e w8 ⟨rfl, rfl⟩))
                all_goals go_wp2
                all_goals
                  refine bodyPost_ret (v := .tuple #[.agg #[.slice wo ws.length wk, .slice no2 N2.length nc2, .slice oo on oc], .bool false]) (by have r0 := unhide R0; have r1 := unhide R1; have r2 := unhide R2; simp [results, Tryd.results13, go_sem, r0, r1, r2]) rfl ⟨(unhide XZ).drew, _, _, _, _, _, _, rfl⟩
end Go.Proofs.YtdcamcpffiilbaaDoor

/-
  The document's Direct: #ifndef.
-/
namespace Go.Proofs.YtdcamcpffiilbaaDoor
open Go.RowKit
set_option linter.unusedVariables false
set_option linter.unusedSimpArgs false

set_option maxHeartbeats 16000000 in
set_option maxRecDepth 100000 in
theorem refDirect_ifndef {T : Nat → Prop} (ws : List Wd) (ps : List RP) (x : Tok) (r : List Tok) (first : Bool) (wo : Option Addr) (wk : Nat) (po : Option Addr) (pc : Nat) (oo : Option Addr) (on oc : Nat) (lo : Option Addr) (lc : Nat) (w : World) (hW : WR T w (.slice wo ws.length wk) ws) (hP : PR T w (.slice po ps.length pc) ps) (hT : TF T w (.slice lo (x :: r).length lc) (x :: r)) (hTl : ∀ b, T b → b < w.heap.size) (hwl : ws.length ≤ 100000) (hpl : ps.length ≤ 100000) (hll : ∀ t ∈ (x :: r), t.text.length ≤ 8192) (hn : nameR x = tIfndef) :
    Calls Tryd.prog 13 #[.agg #[.slice wo ws.length wk, .slice po ps.length pc, .slice oo on oc], .slice lo (x :: r).length lc, .bool first] w (DirQ2 T w oo on oc (directR keptP ws ps (x :: r) first)) := by
  obtain ⟨R, hR⟩ : ∃ R, R = directR keptP ws ps (x :: r) first := ⟨_, rfl⟩
  rw [← hR]
  have hR1 := hR
  unfold directR at hR1
  simp only at hR1
  obtain ⟨nm, hnm⟩ : ∃ nm, nameR x = nm := ⟨_, rfl⟩
  rw [hnm] at hR1 hn
  have HN2 : Hid (nm = [105, 102, 110, 100, 101, 102]) := hn
  clear hn
  obtain ⟨w1, hw1⟩ : ∃ w1, w1 = (w.alloc (.cells #[.slice wo ws.length wk, .slice po ps.length pc, .slice oo on oc] 47)).alloc (.cells #[.slice none 0 0, .slice none 0 0, .slice none 0 0] 47) := ⟨_, rfl⟩
  obtain ⟨g0, hg0⟩ : ∃ g0, g0 = w.heap.size := ⟨_, rfl⟩
  obtain ⟨g6, hg6⟩ : ∃ g6, g6 = w.heap.size + 1 := ⟨_, rfl⟩
  have X1 : Hid (Ext w w1) := by rw [hw1]; exact ((Ext.refl w).alloc _).alloc _
  have HB0 : Hid (Blk w1 g0 #[.slice wo ws.length wk, .slice po ps.length pc, .slice oo on oc] 47) := by rw [hw1, hg0]; exact (Blk.new _ _ _).alloc _
  have HB6 : Hid (Blk w1 g6 #[.slice none 0 0, .slice none 0 0, .slice none 0 0] 47) := by rw [hw1, hg6]; exact blkAt (by simp)
  have hgs : Hid (w.heap.size ≤ g0 ∧ w.heap.size ≤ g6 ∧ g0 < g6) := ⟨by omega, by omega, by omega⟩
  have HTL0 := hide hTl
  have HW := hide hW
  have HP := hide hP
  have HT := hide hT
  have HNM := hide hnm
  have HR1 := hide hR1
  clear hR hW hP hT hTl hnm hR1
  obtain ⟨b, off, elo, hc0⟩ := ((unhide HT).1.ext (unhide X1)).at 0 (by simp)
  subst elo
  have ck := hc0.kind
  have cx := hc0.text
  simp only [Nat.zero_mul, Nat.add_zero, List.getElem_cons_zero] at ck cx
  clear hc0
  have hlc : r.length + 1 ≤ lc ∧ lc ≤ 9223372036854775807 := by
    obtain ⟨_, _, e, _, h2, h3, _⟩ := (unhide HT).1
    cases e
    unfold maxLen at h3
    simp at h2
    omega
  have HLL : Hid (∀ t ∈ r, t.text.length ≤ 8192) := fun t ht => hll t (List.mem_cons_of_mem _ ht)
  have HTL := hide (unhide HT).tail1
  have hl : (x :: r).length = r.length + 1 := by simp
  have b0 : ((r.length : Int) + 1 == 0) = false := beq_eq_false_iff_ne.2 (by omega)
  have i0 : (0 : Int) < (r.length : Int) + 1 := by omega
  rw [hl]
  clear hll hl
  have HCN := hide (refCounts_any ps wo ws.length wk po pc oo on oc w1 ((unhide HP).ext (unhide X1)) hpl)
  obtain ⟨cn, hcn⟩ : ∃ cn, countsR ps = cn := ⟨_, rfl⟩
  rw [hcn] at HCN HR1
  obtain ⟨kb, hkb⟩ : ∃ kb, (x.kind == 1) = kb := ⟨_, rfl⟩
  have m0 := (unhide HB0).cell (i := 0) (v := .slice wo ws.length wk) rfl
  have m1 := (unhide HB0).cell (i := 1) (v := .slice po ps.length pc) rfl
  have m2 := (unhide HB0).cell (i := 2) (v := .slice oo on oc) rfl
  clear hcn
  go_enter Tryd.func13, Tryd.ntmps13
  go_upto_region 1 with fail
  rw [← hw1, ← hg6, ← hg0]
  clear hw1 hg0 hg6
  go_wp2_with fail
  refine (unhide HCN).mono ?_
  rintro e w2 ⟨rfl, hx2⟩
  have X2 := hide hx2
  have ck2 := cellExt hx2 ck
  have cx2 := cellExt hx2 cx
  clear hx2 HCN m0 m1 m2 ck cx
  go_upto_if 32 with fail
  have HKB := hide hkb
  clear hkb
  go_cut [9] from 33 to 36 (fun nv wx => nv = .string ⟨nm.toArray⟩ ∧ w2 = wx)
  case first =>
    cases kb with
    | true =>
      have hn : nm = x.text := by
        rw [← unhide HNM]
        unfold nameR
        exact if_pos (eq_of_beq (unhide HKB))
      rw [← hn] at cx2
      clear hn
      go_wp2
      go_meet
      exact ⟨rfl, rfl⟩
    | false =>
      have hn : nm = [] := by
        rw [← unhide HNM]
        unfold nameR
        exact if_neg (beq_eq_false_iff_ne.1 (unhide HKB))
      have HN0 := hide hn
      clear hn
      go_wp2
      go_meet
      exact ⟨by rw [unhide HN0], rfl⟩
  case rest =>
    obtain ⟨rfl, rfl⟩ := hcut
    clear ck2 cx2 HKB HNM b0
    go_upto_region 7 with fail
    go_cut [10] from 37 to 38 (fun rv wx => ∃ rn rk, rv = .slice rn r.length rk ∧ TF T w (.slice rn r.length rk) r ∧ w2 = wx)
    case first =>
      have i1 : (1 : Int) ≤ (r.length : Int) + 1 := by omega
      by_cases h1 : lc = 1
      · rw [if_pos h1] at HTL
        subst h1
        obtain rfl : r = [] := List.length_eq_zero_iff.1 (by omega)
        go_wp2
        go_meet
        exact ⟨_, _, rfl, unhide HTL, rfl⟩
      · rw [if_neg h1] at HTL
        go_wp2
        go_meet
        exact ⟨_, _, rfl, unhide HTL, rfl⟩
    case rest =>
      obtain ⟨rn, rk, rfl, hTr, rfl⟩ := hcut
      have HTr := hide hTr
      have hrk : r.length ≤ 9223372036854775807 := by omega
      have X02 : Hid (Ext w w2) := (unhide X1).trans (unhide X2)
      clear hTr HTL hlc i0
      have hn2 := unhide HN2
      subst hn2
      clear HN2
      have HR2 : Hid (R = if cn = true ∧ isWordL r = false then none else some (ws, ps ++ [⟨false, cn && (!r.isEmpty && (standsR ws (hd0 r).text == false)), cn⟩])) := (unhide HR1).trans ((if_neg (by decide)).trans (if_pos (by decide)))
      clear HR1
      obtain ⟨isB, hib⟩ : ∃ isB, (cn && (!r.isEmpty && (standsR ws (hd0 r).text == false))) = isB := ⟨_, rfl⟩
      rw [hib] at HR2
      have HIB := hide hib
      clear hib
      have HB0x := hide ((unhide HB0).ext (unhide X2))
      have HB6x := hide ((unhide HB6).ext (unhide X2))
      have m0 := (unhide HB0x).cell (i := 0) (v := .slice wo ws.length wk) rfl
      have m1 := (unhide HB0x).cell (i := 1) (v := .slice po ps.length pc) rfl
      have m2 := (unhide HB0x).cell (i := 2) (v := .slice oo on oc) rfl
      have n0 := (unhide HB6x).cell (i := 0) (v := .slice none 0 0) rfl
      have n1 := (unhide HB6x).cell (i := 1) (v := .slice none 0 0) rfl
      have n2 := (unhide HB6x).cell (i := 2) (v := .slice none 0 0) rfl
      have f0 := fun i => (unhide HB0x).free i
      have f6 := fun i => (unhide HB6x).free i
      go_upto_region 23 with fail
      go_cut [15] from 108 to 124 (fun iv wx => iv = .bool isB ∧ Ext w2 wx)
      case first =>
        cases cn with
        | false =>
          have e : isB = false := (unhide HIB).symm
          subst e
          go_wp2
          go_quiet (fail)
          go_wp2
          go_meet
          exact ⟨rfl, (Ext.refl _).drewN _⟩
        | true =>
          cases r with
          | nil =>
            have e : isB = false := (unhide HIB).symm
            subst e
            go_wp2
            go_quiet (fail)
            go_wp2
            go_meet
            exact ⟨rfl, (Ext.refl _).drewN _⟩
          | cons y r2 =>
            have hib := (unhide HIB).symm
            have e : isB = (standsR ws y.text == false) := hib
            obtain ⟨b4, o4, e4, h4⟩ := ((unhide HTr).1.ext (unhide X02)).at 0 (by simp)
            subst e4
            have ct := h4.text
            simp only [Nat.zero_mul, Nat.add_zero, List.getElem_cons_zero] at ct
            have HST := hide (fun wx (hx : Ext w2 wx) => refStands_any ws y.text wo wk po ps.length pc oo on oc wx (((unhide HW).ext (unhide X02)).ext hx) hwl)
            generalize standsR ws y.text = sd at *
            have HE := hide e
            have l0 := cell_later m0
            have l1 := cell_later m1
            have l2 := cell_later m2
            have l3 := cell_later ct
            have hne := Later.some w2
            have hl2 : (y :: r2).length = r2.length + 1 := by simp
            have i2 : decide ((0 : Int) < (r2.length : Int) + 1) = true := decide_eq_true (by omega)
            have i3 : (0 : Int) < (r2.length : Int) + 1 := by omega
            rw [hl2]
            clear e hib h4 m0 m1 m2 ct HIB hl2
            refine wp_region_later (by kernel_rfl) (by kernel_rfl) ?_
            repeat (go_big_quiet_step (first | (go_at_call 26; refine calls_later (unhide HST _ (Later.ext _)))))
            refine wpQuiet_nil ?_
            rintro _ ⟨x9, rfl⟩
            have hx9 := x9.ext
            generalize x9.w = w9 at hx9 ⊢
            have X9 := hide hx9
            clear x9 l0 l1 l2 l3 hne hx9
            go_wp2
            go_meet
            refine ⟨?_, unhide X9⟩
            rw [unhide HE]
            cases sd <;> rfl
      case rest =>
        obtain ⟨rfl, hxc⟩ := hcut
        obtain ⟨wb, hwb⟩ : ∃ wb, wb = wc := ⟨_, rfl⟩
        have XWB : Hid (Ext w2 wb) := by rw [hwb]; exact hxc
        have XB : Hid (Ext w wb) := (unhide X02).trans (unhide XWB)
        have M1 : Hid (wb.cell? ⟨g0, 1, none⟩ = some (.slice po ps.length pc)) := cellExt (unhide XWB) m1
        have HGB : Hid (g6 < wb.heap.size) := Nat.lt_of_lt_of_le (unhide HB6x).lt (unhide XWB).size
        clear hxc m0 m1 m2 n0 n1 n2 f0 f6 HIB HB0x HB6x
        go_wp2
        rw [← hwb]
        clear hwb
        go_loopw [16, 17] (fun nv iv wr => ∃ (i : Nat) (N : List RP) (no : Option Addr) (nc : Nat), i ≤ ps.length ∧ N = ps.take i ∧ iv = .int .i64 (i : Int) ∧ nv = .slice no N.length nc ∧ GO ptC 66 3 wr wb.heap.size (.slice no N.length nc) N ∧ Ext wb wr) (fun _ iv _ => ps.length - (intOf iv).toNat)
        case atStart => exact ⟨0, [], none, 0, by omega, by simp, rfl, rfl, GO.nil _ _, Ext.refl _⟩
        case round =>
          obtain ⟨i, N, no, nc, hi, hN, rfl, rfl, hG, hxr⟩ := hrel
          have HN := hide hN
          have HG := hide hG
          have XR := hide hxr
          have hNl : N.length ≤ 100000 := by rw [hN, List.length_take]; omega
          clear hN hG hxr
          by_cases hlt : i < ps.length
          · obtain ⟨bq, oq, eq, hq⟩ := (((unhide HP).ext (unhide XB)).ext (unhide XR)).at i (by exact hlt)
            cases eq
    
            have hN2 : N ++ [ps[i]] = ps.take (i + 1) := by rw [unhide HN, List.take_succ_eq_append_getElem hlt]
            have HN2 := hide hN2
            obtain ⟨y, hy⟩ : ∃ y, ps[i] = y := ⟨_, rfl⟩
            rw [hy] at hq HN2
            have c0 := hq.els
            have c1 := hq.counts
            have c2 := hq.outer
            have m1 := cellExt (unhide XR) (unhide M1)
            have hgr := (unhide XR).size
            clear hq hy hN2
            go_wp2_with (at_builtin; refine wpList_append_G (enc := ptC) infoPrt Tryd.underlying45 rfl (by decide) (by decide) rfl (.tmp 130) (.tmp 136) rfl wb.heap.size _ N y rfl ((unhide HG).ext ((Ext.refl _).alloc _)) _ 1 rfl _ (blkAt (by simp)) rfl (ptC_one y) (by omega) ?c2 ?_)
            case c2 =>
              simp
              omega
            intro ao2 cap2 N2 w6 hN3 hG6 hgr6 hloc
            have hx6 : Ext wb w6 := Below.trans ((unhide XR).alloc _) (grown_below hgr6 (Nat.le_trans (unhide XR).size (by simp)) (fun q hq => ((unhide HG).lt q hq).1))
            rw [unhide HN2] at hN3
            have HN3 := hide hN3
            have HG6 := hide hG6
            have X6 := hide hx6
            clear hN3 hG6 hgr6 hloc hx6
            go_wp2
            refine ⟨⟨i + 1, N2, ao2, cap2, by omega, unhide HN3, by push_cast; rfl, rfl, unhide HG6, unhide X6⟩, ?_⟩
            simp [intOf]
            omega
          · have hNe : ps = N := by rw [unhide HN, List.take_of_length_le (by omega)]
            subst hNe
            clear HN
            have hgr := (unhide XR).size
            have X2R : Hid (Ext w1 wr) := ((unhide X2).trans (unhide XWB)).trans (unhide XR)
            have HB0x := hide ((unhide HB0).ext (unhide X2R))
            have HB6x := hide ((unhide HB6).ext (unhide X2R))
            have m0 := (unhide HB0x).cell (i := 0) (v := .slice wo ws.length wk) rfl
            have m1 := (unhide HB0x).cell (i := 1) (v := .slice po ps.length pc) rfl
            have m2 := (unhide HB0x).cell (i := 2) (v := .slice oo on oc) rfl
            have n0 := (unhide HB6x).cell (i := 0) (v := .slice none 0 0) rfl
            have n1 := (unhide HB6x).cell (i := 1) (v := .slice none 0 0) rfl
            have n2 := (unhide HB6x).cell (i := 2) (v := .slice none 0 0) rfl
            have f0 := fun i => (unhide HB0x).free i
            have f6 := fun i => (unhide HB6x).free i
            go_wp2_with (at_builtin; refine wpList_append_G (enc := ptC) infoPrt Tryd.underlying45 rfl (by decide) (by decide) rfl (.tmp 138) (.tmp 142) rfl wb.heap.size _ ps ⟨false, isB, cn⟩ rfl ((unhide HG).ext ((Ext.refl _).alloc _)) _ 1 rfl _ (blkAt (by simp)) rfl (ptC_one _) (by omega) ?c2 ?_)
            case c2 =>
              simp
              omega
            intro no2 nc2 N2 w6 hN3 hG6 hgr6 hloc
            have hx6 : Ext wb w6 := Below.trans ((unhide XR).alloc _) (grown_below hgr6 (Nat.le_trans (unhide XR).size (by simp)) (fun q hq => ((unhide HG).lt q hq).1))
            rw [← hN3] at HR2
            have HR3 := hide (unhide HR2)
            have HG6 := hide hG6
            have X26 : Hid (Ext w1 w6) := ((unhide X2).trans (unhide XWB)).trans hx6
            have X06 : Hid (Ext w w6) := (unhide XB).trans hx6
            clear hN3 hG6 hgr6 hloc hx6 m0 m1 m2 n0 n1 n2 f0 f6 HB0x HB6x HR2
            have HB0x := hide ((unhide HB0).ext (unhide X26))
            have HB6x := hide ((unhide HB6).ext (unhide X26))
            have m0 := (unhide HB0x).cell (i := 0) (v := .slice wo ws.length wk) rfl
            have m1 := (unhide HB0x).cell (i := 1) (v := .slice po ps.length pc) rfl
            have m2 := (unhide HB0x).cell (i := 2) (v := .slice oo on oc) rfl
            have n0 := (unhide HB6x).cell (i := 0) (v := .slice none 0 0) rfl
            have n1 := (unhide HB6x).cell (i := 1) (v := .slice none 0 0) rfl
            have n2 := (unhide HB6x).cell (i := 2) (v := .slice none 0 0) rfl
            have f0 := fun i => (unhide HB0x).free i
            have f6 := fun i => (unhide HB6x).free i
            have HTB : ∀ b, T b → b < wb.heap.size := fun b hb => Nat.lt_of_lt_of_le (unhide HTL0 b hb) (unhide XB).size
            have HGB2 : g6 < wb.heap.size ∧ g0 < wb.heap.size := ⟨unhide HGB, Nat.lt_trans (unhide hgs).2.2 (unhide HGB)⟩
            have HGZ := hide (((((unhide HG6).put HGB2.2 1 (.slice no2 N2.length nc2)).put HGB2.1 0 (.slice wo ws.length wk)).put HGB2.1 1 (.slice no2 N2.length nc2)).put HGB2.1 2 (.slice oo on oc))
            have HB0y := hide ((unhide HB0x).set 1 (.slice no2 N2.length nc2))
            have HB6y := hide ((unhide HB6x).other 1 (.slice no2 N2.length nc2) (r := g0) (Ne.symm (Nat.ne_of_lt (unhide hgs).2.2)))
            have XY : Hid (Ext w (w6.setCell ⟨g0, 1, none⟩ (.slice no2 N2.length nc2))) := extSet (unhide X06) (unhide hgs).1
            have y0 := (unhide HB0y).cell (i := 0) (v := .slice wo ws.length wk) rfl
            have y1 := (unhide HB0y).cell (i := 1) (v := .slice no2 N2.length nc2) rfl
            have y2 := (unhide HB0y).cell (i := 2) (v := .slice oo on oc) rfl
            have x0 := (unhide HB6y).cell (i := 0) (v := .slice none 0 0) rfl
            have x1 := (unhide HB6y).cell (i := 1) (v := .slice none 0 0) rfl
            have x2 := (unhide HB6y).cell (i := 2) (v := .slice none 0 0) rfl
            have fy := fun i => (unhide HB6y).free i
            have HWD := hide (fun wx (hx : Ext w wx) => refWord_any r rn rk wx ((unhide HTr).1.ext hx))
            obtain ⟨iw, hiw⟩ : ∃ iw, isWordL r = iw := ⟨_, rfl⟩
            rw [hiw] at HWD HR3
            clear hiw
            go_upto_region 30 with fail
            cases cn with
            | false =>
              have hRz : R = some (ws, N2) := (unhide HR3).trans (if_neg (by simp))
              subst hRz
              have B6 := hide (blkThree (v0 := .slice wo ws.length wk) (v1 := .slice no2 N2.length nc2) (v2 := .slice oo on oc) (unhide HB6y))
              have R0 := hide ((unhide B6).cell (i := 0) (v := .slice wo ws.length wk) rfl)
              have R1 := hide ((unhide B6).cell (i := 1) (v := .slice no2 N2.length nc2) rfl)
              have R2 := hide ((unhide B6).cell (i := 2) (v := .slice oo on oc) rfl)
              have XZ := hide (extThree (b := g6) (v0 := .slice wo ws.length wk) (v1 := .slice no2 N2.length nc2) (v2 := .slice oo on oc) (unhide XY) (unhide hgs).2.1)
              go_region
              go_wp2
              refine bodyPost_ret (v := .tuple #[.agg #[.slice wo ws.length wk, .slice no2 N2.length nc2, .slice oo on oc], .bool true]) (by have r0 := unhide R0; have r1 := unhide R1; have r2 := unhide R2; simp [results, Tryd.results13, go_sem, r0, r1, r2]) rfl ⟨(unhide XZ).drew, _, _, _, _, rfl, (unhide HW).ext (unhide XZ).drew, ((unhide HGZ).ext (Ext.refl _).drew).pr HTB⟩
            | true =>
              cases iw with
              | true =>
                have hRz : R = some (ws, N2) := (unhide HR3).trans (if_neg (by simp))
                subst hRz
                have B6 := hide (blkThree (v0 := .slice wo ws.length wk) (v1 := .slice no2 N2.length nc2) (v2 := .slice oo on oc) (unhide HB6y))
                have R0 := hide ((unhide B6).cell (i := 0) (v := .slice wo ws.length wk) rfl)
                have R1 := hide ((unhide B6).cell (i := 1) (v := .slice no2 N2.length nc2) rfl)
                have R2 := hide ((unhide B6).cell (i := 2) (v := .slice oo on oc) rfl)
                have XZ := hide (extThree (b := g6) (v0 := .slice wo ws.length wk) (v1 := .slice no2 N2.length nc2) (v2 := .slice oo on oc) (unhide XY) (unhide hgs).2.1)
                go_region_with (first | (go_at_call 27; refine (unhide HWD _ ?hx).mono ?_; (case hx => (first | with_reducible exact (unhide XY).drew | with_reducible exact extThree (unhide XY).drew (unhide hgs).2.1)); rintro e w8 ⟨rfl, rfl⟩))
                all_goals go_wp2
                all_goals
                  refine bodyPost_ret (v := .tuple #[.agg #[.slice wo ws.length wk, .slice no2 N2.length nc2, .slice oo on oc], .bool true]) (by have r0 := unhide R0; have r1 := unhide R1; have r2 := unhide R2; simp [results, Tryd.results13, go_sem, r0, r1, r2]) rfl ⟨(unhide XZ).drew, _, _, _, _, rfl, (unhide HW).ext (unhide XZ).drew, ((unhide HGZ).ext (Ext.refl _).drew).pr HTB⟩
              | false =>
                have hRz : R = none := (unhide HR3).trans (if_pos ⟨rfl, rfl⟩)
                subst hRz
                have B6 := hide (blkThree (v0 := .slice wo ws.length wk) (v1 := .slice no2 N2.length nc2) (v2 := .slice oo on oc) (unhide HB6y))
                have R0 := hide ((unhide B6).cell (i := 0) (v := .slice wo ws.length wk) rfl)
                have R1 := hide ((unhide B6).cell (i := 1) (v := .slice no2 N2.length nc2) rfl)
                have R2 := hide ((unhide B6).cell (i := 2) (v := .slice oo on oc) rfl)
                have XZ := hide (extThree (b := g6) (v0 := .slice wo ws.length wk) (v1 := .slice no2 N2.length nc2) (v2 := .slice oo on oc) (unhide XY) (unhide hgs).2.1)
                go_region_with (first | (go_at_call 27; refine (unhide HWD _ ?hx).mono ?_; (case hx => (first | with_reducible exact (unhide XY).drew | with_reducible exact extThree (unhide XY).drew (unhide hgs).2.1)); rintro e w8 ⟨rfl, rfl⟩))
                all_goals go_wp2
                all_goals
                  refine bodyPost_ret (v := .tuple #[.agg #[.slice wo ws.length wk, .slice no2 N2.length nc2, .slice oo on oc], .bool false]) (by have r0 := unhide R0; have r1 := unhide R1; have r2 := unhide R2; simp [results, Tryd.results13, go_sem, r0, r1, r2]) rfl ⟨(unhide XZ).drew, _, _, _, _, _, _, rfl⟩
end Go.Proofs.YtdcamcpffiilbaaDoor
