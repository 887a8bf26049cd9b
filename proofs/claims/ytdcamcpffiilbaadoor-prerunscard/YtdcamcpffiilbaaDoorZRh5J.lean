/- Several texts in one. -/
import Derived.Test.YtdcamcpffiilbaaDoorXT1J
import Derived.Test.YtdcamcpffiilbaaDoorZRh1J
/-
  The document's Direct: what does not count, #version, what may not be.
-/
namespace Go.Proofs.YtdcamcpffiilbaaDoor
open Go.RowKit
set_option linter.unusedVariables false
set_option linter.unusedSimpArgs false

set_option maxHeartbeats 16000000 in
set_option maxRecDepth 100000 in
theorem refDirect_idle {T : Nat → Prop} (ws : List Wd) (ps : List RP) (x : Tok) (r : List Tok) (first : Bool) (wo : Option Addr) (wk : Nat) (po : Option Addr) (pc : Nat) (oo : Option Addr) (on oc : Nat) (lo : Option Addr) (lc : Nat) (w : World) (hW : WR T w (.slice wo ws.length wk) ws) (hP : PR T w (.slice po ps.length pc) ps) (hT : TF T w (.slice lo (x :: r).length lc) (x :: r)) (hTl : ∀ b, T b → b < w.heap.size) (hwl : ws.length ≤ 100000) (hpl : ps.length ≤ 100000) (hll : ∀ t ∈ (x :: r), t.text.length ≤ 8192) (helse : nameR x ≠ tElse) (hendif : nameR x ≠ tEndif) (hifdef : nameR x ≠ tIfdef) (hifndef : nameR x ≠ tIfndef) (hcn : countsR ps = false) :
    Calls Tryd.prog 13 #[.agg #[.slice wo ws.length wk, .slice po ps.length pc, .slice oo on oc], .slice lo (x :: r).length lc, .bool first] w (DirQ2 T w oo on oc (directR keptP ws ps (x :: r) first)) := by
  obtain ⟨R, hR⟩ : ∃ R, R = directR keptP ws ps (x :: r) first := ⟨_, rfl⟩
  rw [← hR]
  have hR1 := hR
  unfold directR at hR1
  simp only at hR1
  obtain ⟨nm, hnm⟩ : ∃ nm, nameR x = nm := ⟨_, rfl⟩
  rw [hnm] at hR1 helse hendif hifdef hifndef
  rw [hcn] at hR1
  have Felse : Hid (nm ≠ tElse) := helse
  have Fendif : Hid (nm ≠ tEndif) := hendif
  have Fifdef : Hid (nm ≠ tIfdef) := hifdef
  have Fifndef : Hid (nm ≠ tIfndef) := hifndef
  clear helse hendif hifdef hifndef
  have HC0 := hide hcn
  clear hcn
  obtain ⟨w1, hw1⟩ : ∃ w1, w1 = (w.alloc (.cells #[.slice wo ws.length wk, .slice po ps.length pc, .slice oo on oc] 47)).alloc (.cells #[.slice none 0 0, .slice none 0 0, .slice none 0 0] 47) := ⟨_, rfl⟩
  obtain ⟨g0, hg0⟩ : ∃ g0, g0 = w.heap.size := ⟨_, rfl⟩
  obtain ⟨g6, hg6⟩ : ∃ g6, g6 = w.heap.size + 1 := ⟨_, rfl⟩
  have X1 : Hid (Ext w w1) := by rw [hw1]; exact ((Ext.refl w).alloc _).alloc _
  have HB0 : Hid (Blk w1 g0 #[.slice wo ws.length wk, .slice po ps.length pc, .slice oo on oc] 47) := by rw [hw1, hg0]; exact (Blk.new _ _ _).alloc _
  have HB6 : Hid (Blk w1 g6 #[.slice none 0 0, .slice none 0 0, .slice none 0 0] 47) := by rw [hw1, hg6]; exact blkAt (by simp)
  have hgs : Hid (w.heap.size ≤ g0 ∧ w.heap.size ≤ g6 ∧ g0 < g6) := ⟨by omega, by omega, by omega⟩
  have HTL0 := hide hTl
  have HW := hide hW
  have HP := hide hP
  have HT := hide hT
  have HNM := hide hnm
  have HR1 := hide hR1
  clear hR hW hP hT hTl hnm hR1
  obtain ⟨b, off, elo, hc0⟩ := ((unhide HT).1.ext (unhide X1)).at 0 (by simp)
  subst elo
  have ck := hc0.kind
  have cx := hc0.text
  simp only [Nat.zero_mul, Nat.add_zero, List.getElem_cons_zero] at ck cx
  clear hc0
  have hlc : r.length + 1 ≤ lc ∧ lc ≤ 9223372036854775807 := by
    obtain ⟨_, _, e, _, h2, h3, _⟩ := (unhide HT).1
    cases e
    unfold maxLen at h3
    simp at h2
    omega
  have HLL : Hid (∀ t ∈ r, t.text.length ≤ 8192) := fun t ht => hll t (List.mem_cons_of_mem _ ht)
  have HTL := hide (unhide HT).tail1
  have hl : (x :: r).length = r.length + 1 := by simp
  have b0 : ((r.length : Int) + 1 == 0) = false := beq_eq_false_iff_ne.2 (by omega)
  have i0 : (0 : Int) < (r.length : Int) + 1 := by omega
  rw [hl]
  clear hll hl
  have HCN := hide (refCounts_any ps wo ws.length wk po pc oo on oc w1 ((unhide HP).ext (unhide X1)) hpl)
  obtain ⟨cn, hcn⟩ : ∃ cn, countsR ps = cn := ⟨_, rfl⟩
  rw [hcn] at HCN HC0
  obtain ⟨kb, hkb⟩ : ∃ kb, (x.kind == 1) = kb := ⟨_, rfl⟩
  have m0 := (unhide HB0).cell (i := 0) (v := .slice wo ws.length wk) rfl
  have m1 := (unhide HB0).cell (i := 1) (v := .slice po ps.length pc) rfl
  have m2 := (unhide HB0).cell (i := 2) (v := .slice oo on oc) rfl
  clear hcn
  go_enter Tryd.func13, Tryd.ntmps13
  go_upto_region 1 with fail
  rw [← hw1, ← hg6, ← hg0]
  clear hw1 hg0 hg6
  go_wp2_with fail
  refine (unhide HCN).mono ?_
  rintro e w2 ⟨rfl, hx2⟩
  have X2 := hide hx2
  have ck2 := cellExt hx2 ck
  have cx2 := cellExt hx2 cx
  clear hx2 HCN m0 m1 m2 ck cx
  go_upto_if 32 with fail
  have HKB := hide hkb
  clear hkb
  go_cut [9] from 33 to 36 (fun nv wx => nv = .string ⟨nm.toArray⟩ ∧ w2 = wx)
  case first =>
    cases kb with
    | true =>
      have hn : nm = x.text := by
        rw [← unhide HNM]
        unfold nameR
        exact if_pos (eq_of_beq (unhide HKB))
      rw [← hn] at cx2
      clear hn
      go_wp2
      go_meet
      exact ⟨rfl, rfl⟩
    | false =>
      have hn : nm = [] := by
        rw [← unhide HNM]
        unfold nameR
        exact if_neg (beq_eq_false_iff_ne.1 (unhide HKB))
      have HN0 := hide hn
      clear hn
      go_wp2
      go_meet
      exact ⟨by rw [unhide HN0], rfl⟩
  case rest =>
    obtain ⟨rfl, rfl⟩ := hcut
    clear ck2 cx2 HKB HNM b0
    go_upto_region 7 with fail
    go_cut [10] from 37 to 38 (fun rv wx => ∃ rn rk, rv = .slice rn r.length rk ∧ TF T w (.slice rn r.length rk) r ∧ w2 = wx)
    case first =>
      have i1 : (1 : Int) ≤ (r.length : Int) + 1 := by omega
      by_cases h1 : lc = 1
      · rw [if_pos h1] at HTL
        subst h1
        obtain rfl : r = [] := List.length_eq_zero_iff.1 (by omega)
        go_wp2
        go_meet
        exact ⟨_, _, rfl, unhide HTL, rfl⟩
      · rw [if_neg h1] at HTL
        go_wp2
        go_meet
        exact ⟨_, _, rfl, unhide HTL, rfl⟩
    case rest =>
      obtain ⟨rn, rk, rfl, hTr, rfl⟩ := hcut
      have HTr := hide hTr
      have hrk : r.length ≤ 9223372036854775807 := by omega
      have X02 : Hid (Ext w w2) := (unhide X1).trans (unhide X2)
      clear hTr HTL hlc i0
      have hc := unhide HC0
      have ec : cn = false := hc
      subst ec
      have hRq : R = some (ws, ps) := by
        rw [unhide HR1, if_neg (fun h => h.elim (unhide Felse) (unhide Fendif)), if_neg (fun h => h.elim (unhide Fifdef) (unhide Fifndef))]
        exact if_pos (by trivial)
      subst hRq
      have felse : (nm == [101, 108, 115, 101]) = false := beq_eq_false_iff_ne.2 (unhide Felse)
      have fendif : (nm == [101, 110, 100, 105, 102]) = false := beq_eq_false_iff_ne.2 (unhide Fendif)
      have fifdef : (nm == [105, 102, 100, 101, 102]) = false := beq_eq_false_iff_ne.2 (unhide Fifdef)
      have fifndef : (nm == [105, 102, 110, 100, 101, 102]) = false := beq_eq_false_iff_ne.2 (unhide Fifndef)
      have HB0x := hide ((unhide HB0).ext (unhide X2))
      have HB6x := hide ((unhide HB6).ext (unhide X2))
      have m0 := (unhide HB0x).cell (i := 0) (v := .slice wo ws.length wk) rfl
      have m1 := (unhide HB0x).cell (i := 1) (v := .slice po ps.length pc) rfl
      have m2 := (unhide HB0x).cell (i := 2) (v := .slice oo on oc) rfl
      have n0 := (unhide HB6x).cell (i := 0) (v := .slice none 0 0) rfl
      have n1 := (unhide HB6x).cell (i := 1) (v := .slice none 0 0) rfl
      have n2 := (unhide HB6x).cell (i := 2) (v := .slice none 0 0) rfl
      have f0 := fun i => (unhide HB0x).free i
      have f6 := fun i => (unhide HB6x).free i
      have B6 := hide (blkThree (v0 := .slice wo ws.length wk) (v1 := .slice po ps.length pc) (v2 := .slice oo on oc) (unhide HB6x))
      have R0 := hide ((unhide B6).cell (i := 0) (v := .slice wo ws.length wk) rfl)
      have R1 := hide ((unhide B6).cell (i := 1) (v := .slice po ps.length pc) rfl)
      have R2 := hide ((unhide B6).cell (i := 2) (v := .slice oo on oc) rfl)
      have XZ := hide (extThree (b := g6) (v0 := .slice wo ws.length wk) (v1 := .slice po ps.length pc) (v2 := .slice oo on oc) (unhide X02) (unhide hgs).2.1)
      go_wp2
      refine bodyPost_ret (v := .tuple #[.agg #[.slice wo ws.length wk, .slice po ps.length pc, .slice oo on oc], .bool true]) (by have r0 := unhide R0; have r1 := unhide R1; have r2 := unhide R2; simp [results, Tryd.results13, go_sem, r0, r1, r2]) rfl ⟨unhide XZ, _, _, _, _, rfl, (unhide HW).ext (unhide XZ), (unhide HP).ext (unhide XZ)⟩

set_option maxHeartbeats 16000000 in
set_option maxRecDepth 100000 in
theorem refDirect_other {T : Nat → Prop} (ws : List Wd) (ps : List RP) (x : Tok) (r : List Tok) (first : Bool) (wo : Option Addr) (wk : Nat) (po : Option Addr) (pc : Nat) (oo : Option Addr) (on oc : Nat) (lo : Option Addr) (lc : Nat) (w : World) (hW : WR T w (.slice wo ws.length wk) ws) (hP : PR T w (.slice po ps.length pc) ps) (hT : TF T w (.slice lo (x :: r).length lc) (x :: r)) (hTl : ∀ b, T b → b < w.heap.size) (hwl : ws.length ≤ 100000) (hpl : ps.length ≤ 100000) (hll : ∀ t ∈ (x :: r), t.text.length ≤ 8192) (helse : nameR x ≠ tElse) (hendif : nameR x ≠ tEndif) (hifdef : nameR x ≠ tIfdef) (hifndef : nameR x ≠ tIfndef) (hversion : nameR x ≠ tVersion) (hdefine : nameR x ≠ tDefine) (hundef : nameR x ≠ tUndef) (hcn : countsR ps = true) :
    Calls Tryd.prog 13 #[.agg #[.slice wo ws.length wk, .slice po ps.length pc, .slice oo on oc], .slice lo (x :: r).length lc, .bool first] w (DirQ2 T w oo on oc (directR keptP ws ps (x :: r) first)) := by
  obtain ⟨R, hR⟩ : ∃ R, R = directR keptP ws ps (x :: r) first := ⟨_, rfl⟩
  rw [← hR]
  have hR1 := hR
  unfold directR at hR1
  simp only at hR1
  obtain ⟨nm, hnm⟩ : ∃ nm, nameR x = nm := ⟨_, rfl⟩
  rw [hnm] at hR1 helse hendif hifdef hifndef hversion hdefine hundef
  rw [hcn] at hR1
  have Felse : Hid (nm ≠ tElse) := helse
  have Fendif : Hid (nm ≠ tEndif) := hendif
  have Fifdef : Hid (nm ≠ tIfdef) := hifdef
  have Fifndef : Hid (nm ≠ tIfndef) := hifndef
  have Fversion : Hid (nm ≠ tVersion) := hversion
  have Fdefine : Hid (nm ≠ tDefine) := hdefine
  have Fundef : Hid (nm ≠ tUndef) := hundef
  clear helse hendif hifdef hifndef hversion hdefine hundef
  have HC0 := hide hcn
  clear hcn
  obtain ⟨w1, hw1⟩ : ∃ w1, w1 = (w.alloc (.cells #[.slice wo ws.length wk, .slice po ps.length pc, .slice oo on oc] 47)).alloc (.cells #[.slice none 0 0, .slice none 0 0, .slice none 0 0] 47) := ⟨_, rfl⟩
  obtain ⟨g0, hg0⟩ : ∃ g0, g0 = w.heap.size := ⟨_, rfl⟩
  obtain ⟨g6, hg6⟩ : ∃ g6, g6 = w.heap.size + 1 := ⟨_, rfl⟩
  have X1 : Hid (Ext w w1) := by rw [hw1]; exact ((Ext.refl w).alloc _).alloc _
  have HB0 : Hid (Blk w1 g0 #[.slice wo ws.length wk, .slice po ps.length pc, .slice oo on oc] 47) := by rw [hw1, hg0]; exact (Blk.new _ _ _).alloc _
  have HB6 : Hid (Blk w1 g6 #[.slice none 0 0, .slice none 0 0, .slice none 0 0] 47) := by rw [hw1, hg6]; exact blkAt (by simp)
  have hgs : Hid (w.heap.size ≤ g0 ∧ w.heap.size ≤ g6 ∧ g0 < g6) := ⟨by omega, by omega, by omega⟩
  have HTL0 := hide hTl
  have HW := hide hW
  have HP := hide hP
  have HT := hide hT
  have HNM := hide hnm
  have HR1 := hide hR1
  clear hR hW hP hT hTl hnm hR1
  obtain ⟨b, off, elo, hc0⟩ := ((unhide HT).1.ext (unhide X1)).at 0 (by simp)
  subst elo
  have ck := hc0.kind
  have cx := hc0.text
  simp only [Nat.zero_mul, Nat.add_zero, List.getElem_cons_zero] at ck cx
  clear hc0
  have hlc : r.length + 1 ≤ lc ∧ lc ≤ 9223372036854775807 := by
    obtain ⟨_, _, e, _, h2, h3, _⟩ := (unhide HT).1
    cases e
    unfold maxLen at h3
    simp at h2
    omega
  have HLL : Hid (∀ t ∈ r, t.text.length ≤ 8192) := fun t ht => hll t (List.mem_cons_of_mem _ ht)
  have HTL := hide (unhide HT).tail1
  have hl : (x :: r).length = r.length + 1 := by simp
  have b0 : ((r.length : Int) + 1 == 0) = false := beq_eq_false_iff_ne.2 (by omega)
  have i0 : (0 : Int) < (r.length : Int) + 1 := by omega
  rw [hl]
  clear hll hl
  have HCN := hide (refCounts_any ps wo ws.length wk po pc oo on oc w1 ((unhide HP).ext (unhide X1)) hpl)
  obtain ⟨cn, hcn⟩ : ∃ cn, countsR ps = cn := ⟨_, rfl⟩
  rw [hcn] at HCN HC0
  obtain ⟨kb, hkb⟩ : ∃ kb, (x.kind == 1) = kb := ⟨_, rfl⟩
  have m0 := (unhide HB0).cell (i := 0) (v := .slice wo ws.length wk) rfl
  have m1 := (unhide HB0).cell (i := 1) (v := .slice po ps.length pc) rfl
  have m2 := (unhide HB0).cell (i := 2) (v := .slice oo on oc) rfl
  clear hcn
  go_enter Tryd.func13, Tryd.ntmps13
  go_upto_region 1 with fail
  rw [← hw1, ← hg6, ← hg0]
  clear hw1 hg0 hg6
  go_wp2_with fail
  refine (unhide HCN).mono ?_
  rintro e w2 ⟨rfl, hx2⟩
  have X2 := hide hx2
  have ck2 := cellExt hx2 ck
  have cx2 := cellExt hx2 cx
  clear hx2 HCN m0 m1 m2 ck cx
  go_upto_if 32 with fail
  have HKB := hide hkb
  clear hkb
  go_cut [9] from 33 to 36 (fun nv wx => nv = .string ⟨nm.toArray⟩ ∧ w2 = wx)
  case first =>
    cases kb with
    | true =>
      have hn : nm = x.text := by
        rw [← unhide HNM]
        unfold nameR
        exact if_pos (eq_of_beq (unhide HKB))
      rw [← hn] at cx2
      clear hn
      go_wp2
      go_meet
      exact ⟨rfl, rfl⟩
    | false =>
      have hn : nm = [] := by
        rw [← unhide HNM]
        unfold nameR
        exact if_neg (beq_eq_false_iff_ne.1 (unhide HKB))
      have HN0 := hide hn
      clear hn
      go_wp2
      go_meet
      exact ⟨by rw [unhide HN0], rfl⟩
  case rest =>
    obtain ⟨rfl, rfl⟩ := hcut
    clear ck2 cx2 HKB HNM b0
    go_upto_region 7 with fail
    go_cut [10] from 37 to 38 (fun rv wx => ∃ rn rk, rv = .slice rn r.length rk ∧ TF T w (.slice rn r.length rk) r ∧ w2 = wx)
    case first =>
      have i1 : (1 : Int) ≤ (r.length : Int) + 1 := by omega
      by_cases h1 : lc = 1
      · rw [if_pos h1] at HTL
        subst h1
        obtain rfl : r = [] := List.length_eq_zero_iff.1 (by omega)
        go_wp2
        go_meet
        exact ⟨_, _, rfl, unhide HTL, rfl⟩
      · rw [if_neg h1] at HTL
        go_wp2
        go_meet
        exact ⟨_, _, rfl, unhide HTL, rfl⟩
    case rest =>
      obtain ⟨rn, rk, rfl, hTr, rfl⟩ := hcut
      have HTr := hide hTr
      have hrk : r.length ≤ 9223372036854775807 := by omega
      have X02 : Hid (Ext w w2) := (unhide X1).trans (unhide X2)
      clear hTr HTL hlc i0
      have hc := unhide HC0
      have ec : cn = true := hc
      subst ec
      have hRq : R = none := by
        rw [unhide HR1, if_neg (fun h => h.elim (unhide Felse) (unhide Fendif)), if_neg (fun h => h.elim (unhide Fifdef) (unhide Fifndef)), if_neg (by simp), if_neg (unhide Fversion), if_neg (unhide Fdefine)]
        exact if_neg (fun h => unhide Fundef h.1)
      subst hRq
      have felse : (nm == [101, 108, 115, 101]) = false := beq_eq_false_iff_ne.2 (unhide Felse)
      have fendif : (nm == [101, 110, 100, 105, 102]) = false := beq_eq_false_iff_ne.2 (unhide Fendif)
      have fifdef : (nm == [105, 102, 100, 101, 102]) = false := beq_eq_false_iff_ne.2 (unhide Fifdef)
      have fifndef : (nm == [105, 102, 110, 100, 101, 102]) = false := beq_eq_false_iff_ne.2 (unhide Fifndef)
      have fversion : (nm == [118, 101, 114, 115, 105, 111, 110]) = false := beq_eq_false_iff_ne.2 (unhide Fversion)
      have fdefine : (nm == [100, 101, 102, 105, 110, 101]) = false := beq_eq_false_iff_ne.2 (unhide Fdefine)
      have fundef : (nm == [117, 110, 100, 101, 102]) = false := beq_eq_false_iff_ne.2 (unhide Fundef)
      have HB0x := hide ((unhide HB0).ext (unhide X2))
      have HB6x := hide ((unhide HB6).ext (unhide X2))
      have m0 := (unhide HB0x).cell (i := 0) (v := .slice wo ws.length wk) rfl
      have m1 := (unhide HB0x).cell (i := 1) (v := .slice po ps.length pc) rfl
      have m2 := (unhide HB0x).cell (i := 2) (v := .slice oo on oc) rfl
      have n0 := (unhide HB6x).cell (i := 0) (v := .slice none 0 0) rfl
      have n1 := (unhide HB6x).cell (i := 1) (v := .slice none 0 0) rfl
      have n2 := (unhide HB6x).cell (i := 2) (v := .slice none 0 0) rfl
      have f0 := fun i => (unhide HB0x).free i
      have f6 := fun i => (unhide HB6x).free i
      have B6 := hide (blkThree (v0 := .slice wo ws.length wk) (v1 := .slice po ps.length pc) (v2 := .slice oo on oc) (unhide HB6x))
      have R0 := hide ((unhide B6).cell (i := 0) (v := .slice wo ws.length wk) rfl)
      have R1 := hide ((unhide B6).cell (i := 1) (v := .slice po ps.length pc) rfl)
      have R2 := hide ((unhide B6).cell (i := 2) (v := .slice oo on oc) rfl)
      have XZ := hide (extThree (b := g6) (v0 := .slice wo ws.length wk) (v1 := .slice po ps.length pc) (v2 := .slice oo on oc) (unhide X02) (unhide hgs).2.1)
      go_wp2
      refine bodyPost_ret (v := .tuple #[.agg #[.slice wo ws.length wk, .slice po ps.length pc, .slice oo on oc], .bool false]) (by have r0 := unhide R0; have r1 := unhide R1; have r2 := unhide R2; simp [results, Tryd.results13, go_sem, r0, r1, r2]) rfl ⟨unhide XZ, _, _, _, _, _, _, rfl⟩

set_option maxHeartbeats 16000000 in
set_option maxRecDepth 100000 in
theorem refDirect_version {T : Nat → Prop} (ws : List Wd) (ps : List RP) (x : Tok) (r : List Tok) (first : Bool) (wo : Option Addr) (wk : Nat) (po : Option Addr) (pc : Nat) (oo : Option Addr) (on oc : Nat) (lo : Option Addr) (lc : Nat) (w : World) (hW : WR T w (.slice wo ws.length wk) ws) (hP : PR T w (.slice po ps.length pc) ps) (hT : TF T w (.slice lo (x :: r).length lc) (x :: r)) (hTl : ∀ b, T b → b < w.heap.size) (hwl : ws.length ≤ 100000) (hpl : ps.length ≤ 100000) (hll : ∀ t ∈ (x :: r), t.text.length ≤ 8192) (hn : nameR x = tVersion) (hcn : countsR ps = true) :
    Calls Tryd.prog 13 #[.agg #[.slice wo ws.length wk, .slice po ps.length pc, .slice oo on oc], .slice lo (x :: r).length lc, .bool first] w (DirQ2 T w oo on oc (directR keptP ws ps (x :: r) first)) := by
  obtain ⟨R, hR⟩ : ∃ R, R = directR keptP ws ps (x :: r) first := ⟨_, rfl⟩
  rw [← hR]
  have hR1 := hR
  unfold directR at hR1
  simp only at hR1
  obtain ⟨nm, hnm⟩ : ∃ nm, nameR x = nm := ⟨_, rfl⟩
  rw [hnm] at hR1 hn
  rw [hcn] at hR1
  have HN2 : Hid (nm = [118, 101, 114, 115, 105, 111, 110]) := hn
  have HC0 := hide hcn
  clear hn hcn
  obtain ⟨w1, hw1⟩ : ∃ w1, w1 = (w.alloc (.cells #[.slice wo ws.length wk, .slice po ps.length pc, .slice oo on oc] 47)).alloc (.cells #[.slice none 0 0, .slice none 0 0, .slice none 0 0] 47) := ⟨_, rfl⟩
  obtain ⟨g0, hg0⟩ : ∃ g0, g0 = w.heap.size := ⟨_, rfl⟩
  obtain ⟨g6, hg6⟩ : ∃ g6, g6 = w.heap.size + 1 := ⟨_, rfl⟩
  have X1 : Hid (Ext w w1) := by rw [hw1]; exact ((Ext.refl w).alloc _).alloc _
  have HB0 : Hid (Blk w1 g0 #[.slice wo ws.length wk, .slice po ps.length pc, .slice oo on oc] 47) := by rw [hw1, hg0]; exact (Blk.new _ _ _).alloc _
  have HB6 : Hid (Blk w1 g6 #[.slice none 0 0, .slice none 0 0, .slice none 0 0] 47) := by rw [hw1, hg6]; exact blkAt (by simp)
  have hgs : Hid (w.heap.size ≤ g0 ∧ w.heap.size ≤ g6 ∧ g0 < g6) := ⟨by omega, by omega, by omega⟩
  have HTL0 := hide hTl
  have HW := hide hW
  have HP := hide hP
  have HT := hide hT
  have HNM := hide hnm
  have HR1 := hide hR1
  clear hR hW hP hT hTl hnm hR1
  obtain ⟨b, off, elo, hc0⟩ := ((unhide HT).1.ext (unhide X1)).at 0 (by simp)
  subst elo
  have ck := hc0.kind
  have cx := hc0.text
  simp only [Nat.zero_mul, Nat.add_zero, List.getElem_cons_zero] at ck cx
  clear hc0
  have hlc : r.length + 1 ≤ lc ∧ lc ≤ 9223372036854775807 := by
    obtain ⟨_, _, e, _, h2, h3, _⟩ := (unhide HT).1
    cases e
    unfold maxLen at h3
    simp at h2
    omega
  have HLL : Hid (∀ t ∈ r, t.text.length ≤ 8192) := fun t ht => hll t (List.mem_cons_of_mem _ ht)
  have HTL := hide (unhide HT).tail1
  have hl : (x :: r).length = r.length + 1 := by simp
  have b0 : ((r.length : Int) + 1 == 0) = false := beq_eq_false_iff_ne.2 (by omega)
  have i0 : (0 : Int) < (r.length : Int) + 1 := by omega
  rw [hl]
  clear hll hl
  have HCN := hide (refCounts_any ps wo ws.length wk po pc oo on oc w1 ((unhide HP).ext (unhide X1)) hpl)
  obtain ⟨cn, hcn⟩ : ∃ cn, countsR ps = cn := ⟨_, rfl⟩
  rw [hcn] at HCN HC0
  obtain ⟨kb, hkb⟩ : ∃ kb, (x.kind == 1) = kb := ⟨_, rfl⟩
  have m0 := (unhide HB0).cell (i := 0) (v := .slice wo ws.length wk) rfl
  have m1 := (unhide HB0).cell (i := 1) (v := .slice po ps.length pc) rfl
  have m2 := (unhide HB0).cell (i := 2) (v := .slice oo on oc) rfl
  clear hcn
  go_enter Tryd.func13, Tryd.ntmps13
  go_upto_region 1 with fail
  rw [← hw1, ← hg6, ← hg0]
  clear hw1 hg0 hg6
  go_wp2_with fail
  refine (unhide HCN).mono ?_
  rintro e w2 ⟨rfl, hx2⟩
  have X2 := hide hx2
  have ck2 := cellExt hx2 ck
  have cx2 := cellExt hx2 cx
  clear hx2 HCN m0 m1 m2 ck cx
  go_upto_if 32 with fail
  have HKB := hide hkb
  clear hkb
  go_cut [9] from 33 to 36 (fun nv wx => nv = .string ⟨nm.toArray⟩ ∧ w2 = wx)
  case first =>
    cases kb with
    | true =>
      have hn : nm = x.text := by
        rw [← unhide HNM]
        unfold nameR
        exact if_pos (eq_of_beq (unhide HKB))
      rw [← hn] at cx2
      clear hn
      go_wp2
      go_meet
      exact ⟨rfl, rfl⟩
    | false =>
      have hn : nm = [] := by
        rw [← unhide HNM]
        unfold nameR
        exact if_neg (beq_eq_false_iff_ne.1 (unhide HKB))
      have HN0 := hide hn
      clear hn
      go_wp2
      go_meet
      exact ⟨by rw [unhide HN0], rfl⟩
  case rest =>
    obtain ⟨rfl, rfl⟩ := hcut
    clear ck2 cx2 HKB HNM b0
    go_upto_region 7 with fail
    go_cut [10] from 37 to 38 (fun rv wx => ∃ rn rk, rv = .slice rn r.length rk ∧ TF T w (.slice rn r.length rk) r ∧ w2 = wx)
    case first =>
      have i1 : (1 : Int) ≤ (r.length : Int) + 1 := by omega
      by_cases h1 : lc = 1
      · rw [if_pos h1] at HTL
        subst h1
        obtain rfl : r = [] := List.length_eq_zero_iff.1 (by omega)
        go_wp2
        go_meet
        exact ⟨_, _, rfl, unhide HTL, rfl⟩
      · rw [if_neg h1] at HTL
        go_wp2
        go_meet
        exact ⟨_, _, rfl, unhide HTL, rfl⟩
    case rest =>
      obtain ⟨rn, rk, rfl, hTr, rfl⟩ := hcut
      have HTr := hide hTr
      have hrk : r.length ≤ 9223372036854775807 := by omega
      have X02 : Hid (Ext w w2) := (unhide X1).trans (unhide X2)
      clear hTr HTL hlc i0
      have hn2 := unhide HN2
      subst hn2
      clear HN2
      have hc := unhide HC0
      have ec : cn = true := hc
      subst ec
      clear hc HC0
      have hR2 : R = if first = true ∧ r.length = 1 ∧ (hd0 r).kind = 2 ∧ (hd0 r).text = [49, 48, 48] then some (ws, ps) else none := by
        rw [unhide HR1, if_neg (by decide), if_neg (by decide), if_neg (by simp)]
        exact if_pos (by decide)
      clear HR1
      have HB0x := hide ((unhide HB0).ext (unhide X2))
      have HB6x := hide ((unhide HB6).ext (unhide X2))
      have m0 := (unhide HB0x).cell (i := 0) (v := .slice wo ws.length wk) rfl
      have m1 := (unhide HB0x).cell (i := 1) (v := .slice po ps.length pc) rfl
      have m2 := (unhide HB0x).cell (i := 2) (v := .slice oo on oc) rfl
      have n0 := (unhide HB6x).cell (i := 0) (v := .slice none 0 0) rfl
      have n1 := (unhide HB6x).cell (i := 1) (v := .slice none 0 0) rfl
      have n2 := (unhide HB6x).cell (i := 2) (v := .slice none 0 0) rfl
      have f0 := fun i => (unhide HB0x).free i
      have f6 := fun i => (unhide HB6x).free i
      have HTr2 := hide ((unhide HTr).1.ext (unhide X02))
      go_upto_region 34 with fail
      by_cases hf : first = false
      · rw [if_neg (by rw [hf]; simp)] at hR2
        have HR2 := hide hR2
        subst hf
        clear hR2
        have hRq : R = none := unhide HR2
        subst hRq
        have B6 := hide (blkThree (v0 := .slice wo ws.length wk) (v1 := .slice po ps.length pc) (v2 := .slice oo on oc) (unhide HB6x))
        have R0 := hide ((unhide B6).cell (i := 0) (v := .slice wo ws.length wk) rfl)
        have R1 := hide ((unhide B6).cell (i := 1) (v := .slice po ps.length pc) rfl)
        have R2 := hide ((unhide B6).cell (i := 2) (v := .slice oo on oc) rfl)
        have XZ := hide (extThree (b := g6) (v0 := .slice wo ws.length wk) (v1 := .slice po ps.length pc) (v2 := .slice oo on oc) (unhide X02) (unhide hgs).2.1)
        go_region
        go_wp2
        refine bodyPost_ret (v := .tuple #[.agg #[.slice wo ws.length wk, .slice po ps.length pc, .slice oo on oc], .bool false]) (by have r0 := unhide R0; have r1 := unhide R1; have r2 := unhide R2; simp [results, Tryd.results13, go_sem, r0, r1, r2]) rfl ⟨(unhide XZ).drew, _, _, _, _, _, _, rfl⟩
      have hf : first = true := by simpa using hf
      subst hf
      by_cases h1 : r.length ≠ 1
      · rw [if_neg (fun h => h1 h.2.1)] at hR2
        have HR2 := hide hR2
        have q1 : ((r.length : Int) == 1) = false := beq_eq_false_iff_ne.2 (by omega)
        clear hR2 h1
        have hRq : R = none := unhide HR2
        subst hRq
        have B6 := hide (blkThree (v0 := .slice wo ws.length wk) (v1 := .slice po ps.length pc) (v2 := .slice oo on oc) (unhide HB6x))
        have R0 := hide ((unhide B6).cell (i := 0) (v := .slice wo ws.length wk) rfl)
        have R1 := hide ((unhide B6).cell (i := 1) (v := .slice po ps.length pc) rfl)
        have R2 := hide ((unhide B6).cell (i := 2) (v := .slice oo on oc) rfl)
        have XZ := hide (extThree (b := g6) (v0 := .slice wo ws.length wk) (v1 := .slice po ps.length pc) (v2 := .slice oo on oc) (unhide X02) (unhide hgs).2.1)
        go_region
        go_wp2
        refine bodyPost_ret (v := .tuple #[.agg #[.slice wo ws.length wk, .slice po ps.length pc, .slice oo on oc], .bool false]) (by have r0 := unhide R0; have r1 := unhide R1; have r2 := unhide R2; simp [results, Tryd.results13, go_sem, r0, r1, r2]) rfl ⟨(unhide XZ).drew, _, _, _, _, _, _, rfl⟩
      obtain ⟨y, rfl⟩ : ∃ y, r = [y] := by
        match r, h1 with
        | [y], _ => exact ⟨y, rfl⟩
        | [], h => exact absurd (by simp) h
        | _ :: _ :: _, h => exact absurd (by simp) h
      obtain ⟨b4, o4, e4, h4⟩ := (unhide HTr2).at 0 (by simp)
      obtain ⟨b5, o5, e5, h5⟩ := (unhide HTr).1.at 0 (by simp)
      rw [e5] at e4
      cases e4
      subst e5
      have hb4 : b4 ≠ g6 := by
        have h7 := World.block_lt_of_cell? w _ h5.kind
        have h8 := (unhide hgs).2.1
        simp only at h7
        omega
      have hb5 : g6 ≠ b4 := Ne.symm hb4
      clear h5
      have ck := h4.kind
      have ct := h4.text
      simp only [Nat.zero_mul, Nat.add_zero, List.getElem_cons_zero] at ck ct
      have hl1 : ([y] : List Tok).length = 1 := rfl
      rw [hl1]
      clear h4 h1 hl1
      by_cases hk : y.kind ≠ 2
      · rw [if_neg (fun h => hk h.2.2.1)] at hR2
        have HR2 := hide hR2
        have q2 : (y.kind == 2) = false := beq_eq_false_iff_ne.2 hk
        clear hR2 hk
        have hRq : R = none := unhide HR2
        subst hRq
        have B6 := hide (blkThree (v0 := .slice wo ws.length wk) (v1 := .slice po ps.length pc) (v2 := .slice oo on oc) (unhide HB6x))
        have R0 := hide ((unhide B6).cell (i := 0) (v := .slice wo ws.length wk) rfl)
        have R1 := hide ((unhide B6).cell (i := 1) (v := .slice po ps.length pc) rfl)
        have R2 := hide ((unhide B6).cell (i := 2) (v := .slice oo on oc) rfl)
        have XZ := hide (extThree (b := g6) (v0 := .slice wo ws.length wk) (v1 := .slice po ps.length pc) (v2 := .slice oo on oc) (unhide X02) (unhide hgs).2.1)
        go_region
        go_wp2
        refine bodyPost_ret (v := .tuple #[.agg #[.slice wo ws.length wk, .slice po ps.length pc, .slice oo on oc], .bool false]) (by have r0 := unhide R0; have r1 := unhide R1; have r2 := unhide R2; simp [results, Tryd.results13, go_sem, r0, r1, r2]) rfl ⟨(unhide XZ).drew, _, _, _, _, _, _, rfl⟩
      have hk : y.kind = 2 := by simpa using hk
      have hk2 := hk
      rw [hk] at ck
      by_cases ht : y.text = [49, 48, 48]
      · rw [if_pos ⟨rfl, rfl, hk2, ht⟩] at hR2
        have HR2 := hide hR2
        rw [ht] at ct
        clear hR2 hk hk2 ht
        have hRq : R = some (ws, ps) := unhide HR2
        subst hRq
        have B6 := hide (blkThree (v0 := .slice wo ws.length wk) (v1 := .slice po ps.length pc) (v2 := .slice oo on oc) (unhide HB6x))
        have R0 := hide ((unhide B6).cell (i := 0) (v := .slice wo ws.length wk) rfl)
        have R1 := hide ((unhide B6).cell (i := 1) (v := .slice po ps.length pc) rfl)
        have R2 := hide ((unhide B6).cell (i := 2) (v := .slice oo on oc) rfl)
        have XZ := hide (extThree (b := g6) (v0 := .slice wo ws.length wk) (v1 := .slice po ps.length pc) (v2 := .slice oo on oc) (unhide X02) (unhide hgs).2.1)
        go_region
        go_wp2
        refine bodyPost_ret (v := .tuple #[.agg #[.slice wo ws.length wk, .slice po ps.length pc, .slice oo on oc], .bool true]) (by have r0 := unhide R0; have r1 := unhide R1; have r2 := unhide R2; simp [results, Tryd.results13, go_sem, r0, r1, r2]) rfl ⟨(unhide XZ).drew, _, _, _, _, rfl, (unhide HW).ext (unhide XZ).drew, (unhide HP).ext (unhide XZ).drew⟩
      · rw [if_neg (fun h => ht h.2.2.2)] at hR2
        have HR2 := hide hR2
        have q3 : (y.text == [49, 48, 48]) = false := beq_eq_false_iff_ne.2 ht
        clear hR2 hk hk2 ht
        have hRq : R = none := unhide HR2
        subst hRq
        have B6 := hide (blkThree (v0 := .slice wo ws.length wk) (v1 := .slice po ps.length pc) (v2 := .slice oo on oc) (unhide HB6x))
        have R0 := hide ((unhide B6).cell (i := 0) (v := .slice wo ws.length wk) rfl)
        have R1 := hide ((unhide B6).cell (i := 1) (v := .slice po ps.length pc) rfl)
        have R2 := hide ((unhide B6).cell (i := 2) (v := .slice oo on oc) rfl)
        have XZ := hide (extThree (b := g6) (v0 := .slice wo ws.length wk) (v1 := .slice po ps.length pc) (v2 := .slice oo on oc) (unhide X02) (unhide hgs).2.1)
        go_region
        go_wp2
        refine bodyPost_ret (v := .tuple #[.agg #[.slice wo ws.length wk, .slice po ps.length pc, .slice oo on oc], .bool false]) (by have r0 := unhide R0; have r1 := unhide R1; have r2 := unhide R2; simp [results, Tryd.results13, go_sem, r0, r1, r2]) rfl ⟨(unhide XZ).drew, _, _, _, _, _, _, rfl⟩
end Go.Proofs.YtdcamcpffiilbaaDoor

/-
  The document's Direct: #define.
-/
namespace Go.Proofs.YtdcamcpffiilbaaDoor
open Go.RowKit
set_option linter.unusedVariables false
set_option linter.unusedSimpArgs false

theorem blkDr {w : World} {b : Nat} {cs : Array Value} {t : TypeId} (h : Blk w b cs t) : Blk w.drew b cs t := h
theorem take_next (ws : List Wd) (i : Nat) (h : i < ws.length) (k : Byts8) : ws.take i ++ [ws[i]] = ws.take (i + 1) := (List.take_succ_eq_append_getElem h).symm
set_option maxHeartbeats 16000000 in
set_option maxRecDepth 100000 in
theorem refDirect_define {T : Nat → Prop} (ws : List Wd) (ps : List RP) (x : Tok) (r : List Tok) (first : Bool) (wo : Option Addr) (wk : Nat) (po : Option Addr) (pc : Nat) (oo : Option Addr) (on oc : Nat) (lo : Option Addr) (lc : Nat) (w : World) (hW : WR T w (.slice wo ws.length wk) ws) (hP : PR T w (.slice po ps.length pc) ps) (hT : TF T w (.slice lo (x :: r).length lc) (x :: r)) (hTl : ∀ b, T b → b < w.heap.size) (hwl : ws.length ≤ 100000) (hpl : ps.length ≤ 100000) (hll : ∀ t ∈ (x :: r), t.text.length ≤ 8192) (hn : nameR x = tDefine) (hcn : countsR ps = true) :
    Calls Tryd.prog 13 #[.agg #[.slice wo ws.length wk, .slice po ps.length pc, .slice oo on oc], .slice lo (x :: r).length lc, .bool first] w (DirQ2 T w oo on oc (directR keptP ws ps (x :: r) first)) := by
  obtain ⟨R, hR⟩ : ∃ R, R = directR keptP ws ps (x :: r) first := ⟨_, rfl⟩
  rw [← hR]
  have hR1 := hR
  unfold directR at hR1
  simp only at hR1
  obtain ⟨nm, hnm⟩ : ∃ nm, nameR x = nm := ⟨_, rfl⟩
  rw [hnm] at hR1 hn
  rw [hcn] at hR1
  have HN2 : Hid (nm = [100, 101, 102, 105, 110, 101]) := hn
  have HC0 := hide hcn
  clear hn hcn
  obtain ⟨w1, hw1⟩ : ∃ w1, w1 = (w.alloc (.cells #[.slice wo ws.length wk, .slice po ps.length pc, .slice oo on oc] 47)).alloc (.cells #[.slice none 0 0, .slice none 0 0, .slice none 0 0] 47) := ⟨_, rfl⟩
  obtain ⟨g0, hg0⟩ : ∃ g0, g0 = w.heap.size := ⟨_, rfl⟩
  obtain ⟨g6, hg6⟩ : ∃ g6, g6 = w.heap.size + 1 := ⟨_, rfl⟩
  have X1 : Hid (Ext w w1) := by rw [hw1]; exact ((Ext.refl w).alloc _).alloc _
  have HB0 : Hid (Blk w1 g0 #[.slice wo ws.length wk, .slice po ps.length pc, .slice oo on oc] 47) := by rw [hw1, hg0]; exact (Blk.new _ _ _).alloc _
  have HB6 : Hid (Blk w1 g6 #[.slice none 0 0, .slice none 0 0, .slice none 0 0] 47) := by rw [hw1, hg6]; exact blkAt (by simp)
  have hgs : Hid (w.heap.size ≤ g0 ∧ w.heap.size ≤ g6 ∧ g0 < g6) := ⟨by omega, by omega, by omega⟩
  have HTL0 := hide hTl
  have HW := hide hW
  have HP := hide hP
  have HT := hide hT
  have HNM := hide hnm
  have HR1 := hide hR1
  clear hR hW hP hT hTl hnm hR1
  obtain ⟨b, off, elo, hc0⟩ := ((unhide HT).1.ext (unhide X1)).at 0 (by simp)
  subst elo
  have ck := hc0.kind
  have cx := hc0.text
  simp only [Nat.zero_mul, Nat.add_zero, List.getElem_cons_zero] at ck cx
  clear hc0
  have hlc : r.length + 1 ≤ lc ∧ lc ≤ 9223372036854775807 := by
    obtain ⟨_, _, e, _, h2, h3, _⟩ := (unhide HT).1
    cases e
    unfold maxLen at h3
    simp at h2
    omega
  have HLL : Hid (∀ t ∈ r, t.text.length ≤ 8192) := fun t ht => hll t (List.mem_cons_of_mem _ ht)
  have HTL := hide (unhide HT).tail1
  have hl : (x :: r).length = r.length + 1 := by simp
  have b0 : ((r.length : Int) + 1 == 0) = false := beq_eq_false_iff_ne.2 (by omega)
  have i0 : (0 : Int) < (r.length : Int) + 1 := by omega
  rw [hl]
  clear hll hl
  have HCN := hide (refCounts_any ps wo ws.length wk po pc oo on oc w1 ((unhide HP).ext (unhide X1)) hpl)
  obtain ⟨cn, hcn⟩ : ∃ cn, countsR ps = cn := ⟨_, rfl⟩
  rw [hcn] at HCN HC0
  obtain ⟨kb, hkb⟩ : ∃ kb, (x.kind == 1) = kb := ⟨_, rfl⟩
  have m0 := (unhide HB0).cell (i := 0) (v := .slice wo ws.length wk) rfl
  have m1 := (unhide HB0).cell (i := 1) (v := .slice po ps.length pc) rfl
  have m2 := (unhide HB0).cell (i := 2) (v := .slice oo on oc) rfl
  clear hcn
  go_enter Tryd.func13, Tryd.ntmps13
  go_upto_region 1 with fail
  rw [← hw1, ← hg6, ← hg0]
  clear hw1 hg0 hg6
  go_wp2_with fail
  refine (unhide HCN).mono ?_
  rintro e w2 ⟨rfl, hx2⟩
  have X2 := hide hx2
  have ck2 := cellExt hx2 ck
  have cx2 := cellExt hx2 cx
  clear hx2 HCN m0 m1 m2 ck cx
  go_upto_if 32 with fail
  have HKB := hide hkb
  clear hkb
  go_cut [9] from 33 to 36 (fun nv wx => nv = .string ⟨nm.toArray⟩ ∧ w2 = wx)
  case first =>
    cases kb with
    | true =>
      have hn : nm = x.text := by
        rw [← unhide HNM]
        unfold nameR
        exact if_pos (eq_of_beq (unhide HKB))
      rw [← hn] at cx2
      clear hn
      go_wp2
      go_meet
      exact ⟨rfl, rfl⟩
    | false =>
      have hn : nm = [] := by
        rw [← unhide HNM]
        unfold nameR
        exact if_neg (beq_eq_false_iff_ne.1 (unhide HKB))
      have HN0 := hide hn
      clear hn
      go_wp2
      go_meet
      exact ⟨by rw [unhide HN0], rfl⟩
  case rest =>
    obtain ⟨rfl, rfl⟩ := hcut
    clear ck2 cx2 HKB HNM b0
    go_upto_region 7 with fail
    go_cut [10] from 37 to 38 (fun rv wx => ∃ rn rk, rv = .slice rn r.length rk ∧ TF T w (.slice rn r.length rk) r ∧ w2 = wx)
    case first =>
      have i1 : (1 : Int) ≤ (r.length : Int) + 1 := by omega
      by_cases h1 : lc = 1
      · rw [if_pos h1] at HTL
        subst h1
        obtain rfl : r = [] := List.length_eq_zero_iff.1 (by omega)
        go_wp2
        go_meet
        exact ⟨_, _, rfl, unhide HTL, rfl⟩
      · rw [if_neg h1] at HTL
        go_wp2
        go_meet
        exact ⟨_, _, rfl, unhide HTL, rfl⟩
    case rest =>
      obtain ⟨rn, rk, rfl, hTr, rfl⟩ := hcut
      have HTr := hide hTr
      have hrk : r.length ≤ 9223372036854775807 := by omega
      have X02 : Hid (Ext w w2) := (unhide X1).trans (unhide X2)
      clear hTr HTL hlc i0
      have hn2 := unhide HN2
      subst hn2
      clear HN2
      have hc := unhide HC0
      have ec : cn = true := hc
      subst ec
      clear hc HC0
      have hR2 : R = if r = [] ∨ (hd0 r).kind ≠ 1 ∨ keptP (hd0 r).text = true ∨ standsR ws (hd0 r).text = true then none else some (((hd0 r).text, r.tail) :: ws, ps) := by
        rw [unhide HR1, if_neg (by decide), if_neg (by decide), if_neg (by simp), if_neg (by decide)]
        exact if_pos (by decide)
      obtain ⟨bb, hbb⟩ : ∃ bb, (r.isEmpty || (!decide ((hd0 r).kind = 1) || (keptP (hd0 r).text || standsR ws (hd0 r).text))) = bb := ⟨_, rfl⟩
      have hR3 : R = if bb = true then none else some (((hd0 r).text, r.tail) :: ws, ps) := by
        rw [hR2, ← hbb]
        refine if_iff ?_ _ _
        simp
      have HR3 := hide hR3
      have HBB := hide hbb
      clear HR1 hR2 hR3 hbb
      have HB0x := hide ((unhide HB0).ext (unhide X2))
      have HB6x := hide ((unhide HB6).ext (unhide X2))
      have m0 := (unhide HB0x).cell (i := 0) (v := .slice wo ws.length wk) rfl
      have m1 := (unhide HB0x).cell (i := 1) (v := .slice po ps.length pc) rfl
      have m2 := (unhide HB0x).cell (i := 2) (v := .slice oo on oc) rfl
      have n0 := (unhide HB6x).cell (i := 0) (v := .slice none 0 0) rfl
      have n1 := (unhide HB6x).cell (i := 1) (v := .slice none 0 0) rfl
      have n2 := (unhide HB6x).cell (i := 2) (v := .slice none 0 0) rfl
      have f0 := fun i => (unhide HB0x).free i
      have f6 := fun i => (unhide HB6x).free i
      go_upto_region 36 with fail
      go_cut [204] from 180 to 204 (fun bv wx => bv = .bool bb ∧ Ext w2 wx)
      case first =>
        cases r with
        | nil =>
          have e : bb = true := (unhide HBB).symm
          subst e
          go_wp2
          go_quiet (fail)
          go_wp2
          go_meet
          exact ⟨rfl, (Ext.refl _).drewN _⟩
        | cons y r2 =>
          have e : bb = (!decide (y.kind = 1) || (keptP y.text || standsR ws y.text)) := (unhide HBB).symm
          obtain ⟨b4, o4, e4, h4⟩ := ((unhide HTr).1.ext (unhide X02)).at 0 (by simp)
          subst e4
          have ck := h4.kind
          have ct := h4.text
          simp only [Nat.zero_mul, Nat.add_zero, List.getElem_cons_zero] at ck ct
          have hl2 : (y :: r2).length = r2.length + 1 := by simp
          have i2 : ((r2.length : Int) + 1 == 0) = false := beq_eq_false_iff_ne.2 (by omega)
          have i3 : (0 : Int) < (r2.length : Int) + 1 := by omega
          rw [hl2]
          by_cases hk : y.kind = 1
          · rw [decide_eq_true hk] at e
            rw [hk] at ck
            have hkp : ∀ wx, Calls Tryd.prog 28 #[.string ⟨y.text.toArray⟩] wx fun e w' => e = .returned (.bool (keptP y.text)) ∧ Ext wx w' := fun wx => (refKept_any ⟨y.text.toArray⟩ wx (show y.text.length ≤ 8192 from unhide HLL y (by simp))).mono (fun e w' h => ⟨h.1, by rw [h.2]; exact Ext.refl _⟩)
            have hst := fun wx (hx : Ext w2 wx) => refStands_any ws y.text wo wk po ps.length pc oo on oc wx (((unhide HW).ext (unhide X02)).ext hx) hwl
            obtain ⟨kp, hkpe⟩ : ∃ kp, keptP y.text = kp := ⟨_, rfl⟩
            obtain ⟨sd, hsde⟩ : ∃ sd, standsR ws y.text = sd := ⟨_, rfl⟩
            rw [hkpe] at e
            rw [hsde] at e
            simp only [hkpe] at hkp
            simp only [hsde] at hst
            have HKP := hide hkp
            have HST := hide hst
            have HE := hide e
            have l0 := cell_later m0
            have l1 := cell_later m1
            have l2 := cell_later m2
            have l3 := cell_later ct
            have l4 := cell_later ck
            have hne := Later.some w2
            clear e hkp hst hkpe hsde hk h4 m0 m1 m2 ct ck HBB hl2
            cases kp with
            | true =>
              refine wp_region_later (by kernel_rfl) (by kernel_rfl) ?_
              repeat (go_big_quiet_step (first | (go_at_call 28; refine calls_later (unhide HKP _))))
              refine wpQuiet_nil ?_
              rintro _ ⟨x9, rfl⟩
              have hx9 := x9.ext
              generalize x9.w = w9 at hx9 ⊢
              have X9 := hide hx9
              clear x9 l0 l1 l2 l3 l4 hne hx9
              go_wp2
              go_meet
              exact ⟨by rw [unhide HE]; rfl, unhide X9⟩
            | false =>
              refine wp_region_later (by kernel_rfl) (by kernel_rfl) ?_
              repeat (go_big_quiet_step (first | (go_at_call 28; refine calls_later (unhide HKP _)) | (go_at_call 26; refine calls_later (unhide HST _ (Later.ext _)))))
              refine wpQuiet_nil ?_
              rintro _ ⟨x9, rfl⟩
              have hx9 := x9.ext
              generalize x9.w = w9 at hx9 ⊢
              have X9 := hide hx9
              clear x9 l0 l1 l2 l3 l4 hne hx9
              go_wp2
              go_meet
              exact ⟨by rw [unhide HE]; cases sd <;> rfl, unhide X9⟩
          · rw [decide_eq_false hk] at e
            have e2 : bb = true := e
            subst e2
            have q1 : (y.kind == 1) = false := beq_eq_false_iff_ne.2 hk
            have q2 : (y.kind != 1) = true := by simp [bne, q1]
            clear e hk h4 HBB hl2
            go_wp2
            go_quiet (fail)
            go_wp2
            go_meet
            exact ⟨rfl, (Ext.refl _).drewN _⟩
      case rest =>
        obtain ⟨rfl, hxc⟩ := hcut
        rename World => wb
        have XWB : Hid (Ext w2 wb) := hxc
        have XB : Hid (Ext w wb) := (unhide X02).trans hxc
        have X2B : Hid (Ext w1 wb) := (unhide X2).trans hxc
        clear hxc m0 m1 m2 n0 n1 n2 f0 f6 HB0x HB6x
        cases bb with
        | true =>
          have hRq : R = none := unhide HR3
          subst hRq
          have HB0x := hide ((unhide HB0).ext (unhide X2B))
          have HB6x := hide ((unhide HB6).ext (unhide X2B))
          have m0 := (unhide HB0x).cell (i := 0) (v := .slice wo ws.length wk) rfl
          have m1 := (unhide HB0x).cell (i := 1) (v := .slice po ps.length pc) rfl
          have m2 := (unhide HB0x).cell (i := 2) (v := .slice oo on oc) rfl
          have n0 := (unhide HB6x).cell (i := 0) (v := .slice none 0 0) rfl
          have n1 := (unhide HB6x).cell (i := 1) (v := .slice none 0 0) rfl
          have n2 := (unhide HB6x).cell (i := 2) (v := .slice none 0 0) rfl
          have f0 := fun i => (unhide HB0x).free i
          have f6 := fun i => (unhide HB6x).free i
          have B6 := hide (blkThree (v0 := .slice wo ws.length wk) (v1 := .slice po ps.length pc) (v2 := .slice oo on oc) (unhide HB6x))
          have R0 := hide ((unhide B6).cell (i := 0) (v := .slice wo ws.length wk) rfl)
          have R1 := hide ((unhide B6).cell (i := 1) (v := .slice po ps.length pc) rfl)
          have R2 := hide ((unhide B6).cell (i := 2) (v := .slice oo on oc) rfl)
          have XZ := hide (extThree (b := g6) (v0 := .slice wo ws.length wk) (v1 := .slice po ps.length pc) (v2 := .slice oo on oc) (unhide XB) (unhide hgs).2.1)
          go_wp2
          refine bodyPost_ret (v := .tuple #[.agg #[.slice wo ws.length wk, .slice po ps.length pc, .slice oo on oc], .bool false]) (by have r0 := unhide R0; have r1 := unhide R1; have r2 := unhide R2; simp [results, Tryd.results13, go_sem, r0, r1, r2]) rfl ⟨unhide XZ, _, _, _, _, _, _, rfl⟩
        | false =>
          cases r with
          | nil => exact absurd (unhide HBB) (by simp)
          | cons y r2 =>
            have HR4 : Hid (R = some ((y.text, r2) :: ws, ps)) := unhide HR3
            obtain ⟨b4, o4, e4, h4⟩ := ((unhide HTr).1.ext (unhide XB)).at 0 (by simp)
            subst e4
            have ct := h4.text
            simp only [Nat.zero_mul, Nat.add_zero, List.getElem_cons_zero] at ct
            have HTL := hide (unhide HTr).tail1
            have hrk2 : r2.length + 1 ≤ rk ∧ rk ≤ 9223372036854775807 := by
              obtain ⟨_, _, e, _, h2, h3, _⟩ := (unhide HTr).1
              cases e
              unfold maxLen at h3
              simp at h2
              omega
            have M0 : Hid (wb.cell? ⟨g0, 0, none⟩ = some (.slice wo ws.length wk)) := cellExt (unhide X2B) ((unhide HB0).cell (i := 0) rfl)
            have HGB : Hid (g6 < wb.heap.size) := Nat.lt_of_lt_of_le (unhide HB6).lt (unhide X2B).size
            have i3 : (0 : Int) < (r2.length : Int) + 1 := by omega
            have i4 : (1 : Int) ≤ (r2.length : Int) + 1 := by omega
            have hl2 : (y :: r2).length = r2.length + 1 := by simp
            rw [hl2]
            clear h4 HR3 HBB hl2
            go_upto_region 38 with fail
            go_cut [18] from 206 to 213 (fun nv wx => ∃ (gw : Nat) (tw : Option Addr) (tk : Nat), nv = .slice (some ⟨gw, 0, none⟩) 1 1 ∧ Blk wx gw #[.string ⟨y.text.toArray⟩, .slice tw r2.length tk] 43 ∧ TF T w (.slice tw r2.length tk) r2 ∧ wb.heap.size ≤ gw ∧ Ext wb wx)
            case first =>
              by_cases h1 : rk = 1
              · rw [if_pos h1] at HTL
                subst h1
                obtain rfl : r2 = [] := List.length_eq_zero_iff.1 (by omega)
                go_region
                go_wp2
                go_meet
                exact ⟨_, _, _, rfl, blkDr (Blk.new _ _ _), unhide HTL, Nat.le_refl _, ((Ext.refl _).alloc _).drew⟩
              · rw [if_neg h1] at HTL
                go_region
                go_wp2
                go_meet
                exact ⟨_, _, _, rfl, blkDr (Blk.new _ _ _), unhide HTL, Nat.le_refl _, ((Ext.refl _).alloc _).drew⟩
            case rest =>
              obtain ⟨gw, tw, tk, rfl, hbk, htr, hgw, hx3⟩ := hcut
              have HB3 := hide hbk
              have HTR3 := hide htr
              have X3 := hide hx3
              clear hbk htr hx3 ct HTL
              go_wp2
              go_loopw [18, 19] (fun nv iv wr => ∃ (i : Nat) (P : List (Wd × Value)) (no : Option Addr) (nc : Nat), i ≤ ws.length ∧ P.map (·.1) = (y.text, r2) :: ws.take i ∧ iv = .int .i64 (i : Int) ∧ nv = .slice no P.length nc ∧ GO wdC 43 2 wr wb.heap.size (.slice no P.length nc) P ∧ Toks T w P ∧ Ext wb wr) (fun _ iv _ => ws.length - (intOf iv).toNat)
              case atStart => exact ⟨0, [((y.text, r2), .slice tw r2.length tk)], _, _, by omega, by simp, rfl, rfl, GO.one rfl (unhide HB3) hgw, (fun p hp => by rw [List.mem_singleton] at hp; subst hp; exact ⟨_, _, rfl, unhide HTR3⟩), unhide X3⟩
              case round =>
                obtain ⟨i, P, no, nc, hi, hM, rfl, rfl, hG, hK, hxr⟩ := hrel
                have HM := hide hM
                have HG := hide hG
                have HK := hide hK
                have XR := hide hxr
                have hPl : P.length ≤ 100001 := by
                  have := congrArg List.length hM
                  rw [List.length_map] at this
                  rw [this]
                  rw [List.length_cons, List.length_take]
                  omega
                clear hM hG hK hxr
                by_cases hlt : i < ws.length
                · obtain ⟨bq, oq, eq, hq⟩ := (unhide HW).at i hlt
                  cases eq
                  obtain ⟨ao, cp, hct, hTQ⟩ := hq.toks
                  have hnx := take_next ws i hlt y.text
                  have c0 := cellExt ((unhide XB).trans (unhide XR)) hq.name
                  have c1 := cellExt ((unhide XB).trans (unhide XR)) hct
                  have m0 := cellExt (unhide XR) (unhide M0)
                  have hgr := (unhide XR).size
                  obtain ⟨q, hqq⟩ : ∃ q, ws[i] = q := ⟨_, rfl⟩
                  rw [hqq] at c0 c1 hTQ hnx
                  have HTQ := hide hTQ
                  clear hq hct hqq hTQ
                  have HNX : Hid ((y.text, r2) :: ws.take i ++ [q] = (y.text, r2) :: ws.take (i + 1)) := congrArg _ hnx
                  clear hnx
                  go_wp2_with (at_builtin; refine wpList_append_G (enc := wdC) infoWd Tryd.underlying44 rfl (by decide) (by decide) rfl (.tmp 221) (.tmp 227) rfl wb.heap.size _ P (q, .slice ao q.2.length cp) rfl ((unhide HG).ext ((Ext.refl _).alloc _)) _ 1 rfl _ (blkAt (by simp)) rfl (wdC_one _ _ _ _ rfl) (by omega) ?c2 ?_)
                  case c2 =>
                    simp
                    omega
                  intro ao2 cap2 P2 w6 hP3 hG6 hgr6 hloc
                  have hx6 : Ext wb w6 := Below.trans ((unhide XR).alloc _) (grown_below hgr6 (Nat.le_trans (unhide XR).size (by simp)) (fun q hq => ((unhide HG).lt q hq).1))
                  have hK6 : Toks T w P2 := by rw [hP3]; exact (unhide HK).snoc (unhide HTQ)
                  have hM6 : P2.map (·.1) = (y.text, r2) :: ws.take (i + 1) := by rw [hP3, List.map_append, unhide HM]; exact unhide HNX
                  have HM6 := hide hM6
                  have HG6 := hide hG6
                  have HK6 := hide hK6
                  have X6 := hide hx6
                  clear hP3 hG6 hgr6 hloc hx6 hK6 hM6
                  go_wp2
                  go_roundw
                  case rel =>
                    (repeat apply Exists.intro)
                    exact ⟨⟨i + 1, P2, ao2, cap2, by omega, unhide HM6, by push_cast; rfl, rfl, unhide HG6, unhide HK6, unhide X6⟩, rfl⟩
                  case measure =>
                    simp [intOf]
                    omega
                · have X2R : Hid (Ext w1 wr) := ((unhide X2).trans (unhide XWB)).trans (unhide XR)
                  have X0R : Hid (Ext w wr) := (unhide XB).trans (unhide XR)
                  have HB0x := hide ((unhide HB0).ext (unhide X2R))
                  have HB6x := hide ((unhide HB6).ext (unhide X2R))
                  have m0 := (unhide HB0x).cell (i := 0) (v := .slice wo ws.length wk) rfl
                  have m1 := (unhide HB0x).cell (i := 1) (v := .slice po ps.length pc) rfl
                  have m2 := (unhide HB0x).cell (i := 2) (v := .slice oo on oc) rfl
                  have n0 := (unhide HB6x).cell (i := 0) (v := .slice none 0 0) rfl
                  have n1 := (unhide HB6x).cell (i := 1) (v := .slice none 0 0) rfl
                  have n2 := (unhide HB6x).cell (i := 2) (v := .slice none 0 0) rfl
                  have f0 := fun i => (unhide HB0x).free i
                  have f6 := fun i => (unhide HB6x).free i
                  have HTB : ∀ b, T b → b < wb.heap.size := fun b hb => Nat.lt_of_lt_of_le (unhide HTL0 b hb) (unhide XB).size
                  have HGB2 : g6 < wb.heap.size ∧ g0 < wb.heap.size := ⟨unhide HGB, Nat.lt_trans (unhide hgs).2.2 (unhide HGB)⟩
                  have HGZ := hide (((((unhide HG).put HGB2.2 0 (.slice no P.length nc)).put HGB2.1 0 (.slice no P.length nc)).put HGB2.1 1 (.slice po ps.length pc)).put HGB2.1 2 (.slice oo on oc))
                  have HB0y := hide ((unhide HB0x).set 0 (.slice no P.length nc))
                  have HB6y := hide ((unhide HB6x).other 0 (.slice no P.length nc) (r := g0) (Ne.symm (Nat.ne_of_lt (unhide hgs).2.2)))
                  have XY : Hid (Ext w (wr.setCell ⟨g0, 0, none⟩ (.slice no P.length nc))) := extSet (unhide X0R) (unhide hgs).1
                  have y0 := (unhide HB0y).cell (i := 0) (v := .slice no P.length nc) rfl
                  have y1 := (unhide HB0y).cell (i := 1) (v := .slice po ps.length pc) rfl
                  have y2 := (unhide HB0y).cell (i := 2) (v := .slice oo on oc) rfl
                  have x0 := (unhide HB6y).cell (i := 0) (v := .slice none 0 0) rfl
                  have x1 := (unhide HB6y).cell (i := 1) (v := .slice none 0 0) rfl
                  have x2 := (unhide HB6y).cell (i := 2) (v := .slice none 0 0) rfl
                  have fy := fun i => (unhide HB6y).free i
                  have hRz : R = some (P.map (·.1), ps) := by rw [unhide HR4, unhide HM, List.take_of_length_le (by omega)]
                  subst hRz
                  have B6 := hide (blkThree (v0 := .slice no P.length nc) (v1 := .slice po ps.length pc) (v2 := .slice oo on oc) (unhide HB6y))
                  have R0 := hide ((unhide B6).cell (i := 0) (v := .slice no P.length nc) rfl)
                  have R1 := hide ((unhide B6).cell (i := 1) (v := .slice po ps.length pc) rfl)
                  have R2 := hide ((unhide B6).cell (i := 2) (v := .slice oo on oc) rfl)
                  have XZ := hide (extThree (b := g6) (v0 := .slice no P.length nc) (v1 := .slice po ps.length pc) (v2 := .slice oo on oc) (unhide XY) (unhide hgs).2.1)
                  go_wp2
                  refine bodyPost_ret (v := .tuple #[.agg #[.slice no P.length nc, .slice po ps.length pc, .slice oo on oc], .bool true]) (by have r0 := unhide R0; have r1 := unhide R1; have r2 := unhide R2; simp [results, Tryd.results13, go_sem, r0, r1, r2]) rfl ⟨unhide XZ, _, _, _, _, by rw [List.length_map], by rw [List.length_map]; exact (unhide HGZ).wr (unhide HK) (unhide XZ) HTB rfl, (unhide HP).ext (unhide XZ)⟩
end Go.Proofs.YtdcamcpffiilbaaDoor

/-
  The document's Direct: #undef.
-/
namespace Go.Proofs.YtdcamcpffiilbaaDoor
open Go.RowKit
set_option linter.unusedVariables false
set_option linter.unusedSimpArgs false

theorem rem_next (ws : List Wd) (i : Nat) (h : i < ws.length) (k : Byts8) : remR (ws.take i) k ++ (if (ws[i].1 == k) = true then [] else [ws[i]]) = remR (ws.take (i + 1)) k := by
  rw [List.take_succ_eq_append_getElem h]
  unfold remR
  rw [List.filter_append]
  congr 1
  cases hk : (ws[i].1 == k) with
  | true => rw [if_pos rfl, List.filter_cons_of_neg (by rw [hk]; simp)]; rfl
  | false => rw [if_neg (by simp), List.filter_cons_of_pos (by rw [hk]; simp)]; rfl
set_option maxHeartbeats 16000000 in
set_option maxRecDepth 100000 in
theorem refDirect_undef {T : Nat → Prop} (ws : List Wd) (ps : List RP) (x : Tok) (r : List Tok) (first : Bool) (wo : Option Addr) (wk : Nat) (po : Option Addr) (pc : Nat) (oo : Option Addr) (on oc : Nat) (lo : Option Addr) (lc : Nat) (w : World) (hW : WR T w (.slice wo ws.length wk) ws) (hP : PR T w (.slice po ps.length pc) ps) (hT : TF T w (.slice lo (x :: r).length lc) (x :: r)) (hTl : ∀ b, T b → b < w.heap.size) (hwl : ws.length ≤ 100000) (hpl : ps.length ≤ 100000) (hll : ∀ t ∈ (x :: r), t.text.length ≤ 8192) (hn : nameR x = tUndef) (hcn : countsR ps = true) :
    Calls Tryd.prog 13 #[.agg #[.slice wo ws.length wk, .slice po ps.length pc, .slice oo on oc], .slice lo (x :: r).length lc, .bool first] w (DirQ2 T w oo on oc (directR keptP ws ps (x :: r) first)) := by
  obtain ⟨R, hR⟩ : ∃ R, R = directR keptP ws ps (x :: r) first := ⟨_, rfl⟩
  rw [← hR]
  have hR1 := hR
  unfold directR at hR1
  simp only at hR1
  obtain ⟨nm, hnm⟩ : ∃ nm, nameR x = nm := ⟨_, rfl⟩
  rw [hnm] at hR1 hn
  rw [hcn] at hR1
  have HN2 : Hid (nm = [117, 110, 100, 101, 102]) := hn
  have HC0 := hide hcn
  clear hn hcn
  obtain ⟨w1, hw1⟩ : ∃ w1, w1 = (w.alloc (.cells #[.slice wo ws.length wk, .slice po ps.length pc, .slice oo on oc] 47)).alloc (.cells #[.slice none 0 0, .slice none 0 0, .slice none 0 0] 47) := ⟨_, rfl⟩
  obtain ⟨g0, hg0⟩ : ∃ g0, g0 = w.heap.size := ⟨_, rfl⟩
  obtain ⟨g6, hg6⟩ : ∃ g6, g6 = w.heap.size + 1 := ⟨_, rfl⟩
  have X1 : Hid (Ext w w1) := by rw [hw1]; exact ((Ext.refl w).alloc _).alloc _
  have HB0 : Hid (Blk w1 g0 #[.slice wo ws.length wk, .slice po ps.length pc, .slice oo on oc] 47) := by rw [hw1, hg0]; exact (Blk.new _ _ _).alloc _
  have HB6 : Hid (Blk w1 g6 #[.slice none 0 0, .slice none 0 0, .slice none 0 0] 47) := by rw [hw1, hg6]; exact blkAt (by simp)
  have hgs : Hid (w.heap.size ≤ g0 ∧ w.heap.size ≤ g6 ∧ g0 < g6) := ⟨by omega, by omega, by omega⟩
  have HTL0 := hide hTl
  have HW := hide hW
  have HP := hide hP
  have HT := hide hT
  have HNM := hide hnm
  have HR1 := hide hR1
  clear hR hW hP hT hTl hnm hR1
  obtain ⟨b, off, elo, hc0⟩ := ((unhide HT).1.ext (unhide X1)).at 0 (by simp)
  subst elo
  have ck := hc0.kind
  have cx := hc0.text
  simp only [Nat.zero_mul, Nat.add_zero, List.getElem_cons_zero] at ck cx
  clear hc0
  have hlc : r.length + 1 ≤ lc ∧ lc ≤ 9223372036854775807 := by
    obtain ⟨_, _, e, _, h2, h3, _⟩ := (unhide HT).1
    cases e
    unfold maxLen at h3
    simp at h2
    omega
  have HLL : Hid (∀ t ∈ r, t.text.length ≤ 8192) := fun t ht => hll t (List.mem_cons_of_mem _ ht)
  have HTL := hide (unhide HT).tail1
  have hl : (x :: r).length = r.length + 1 := by simp
  have b0 : ((r.length : Int) + 1 == 0) = false := beq_eq_false_iff_ne.2 (by omega)
  have i0 : (0 : Int) < (r.length : Int) + 1 := by omega
  rw [hl]
  clear hll hl
  have HCN := hide (refCounts_any ps wo ws.length wk po pc oo on oc w1 ((unhide HP).ext (unhide X1)) hpl)
  obtain ⟨cn, hcn⟩ : ∃ cn, countsR ps = cn := ⟨_, rfl⟩
  rw [hcn] at HCN HC0
  obtain ⟨kb, hkb⟩ : ∃ kb, (x.kind == 1) = kb := ⟨_, rfl⟩
  have m0 := (unhide HB0).cell (i := 0) (v := .slice wo ws.length wk) rfl
  have m1 := (unhide HB0).cell (i := 1) (v := .slice po ps.length pc) rfl
  have m2 := (unhide HB0).cell (i := 2) (v := .slice oo on oc) rfl
  clear hcn
  go_enter Tryd.func13, Tryd.ntmps13
  go_upto_region 1 with fail
  rw [← hw1, ← hg6, ← hg0]
  clear hw1 hg0 hg6
  go_wp2_with fail
  refine (unhide HCN).mono ?_
  rintro e w2 ⟨rfl, hx2⟩
  have X2 := hide hx2
  have ck2 := cellExt hx2 ck
  have cx2 := cellExt hx2 cx
  clear hx2 HCN m0 m1 m2 ck cx
  go_upto_if 32 with fail
  have HKB := hide hkb
  clear hkb
  go_cut [9] from 33 to 36 (fun nv wx => nv = .string ⟨nm.toArray⟩ ∧ w2 = wx)
  case first =>
    cases kb with
    | true =>
      have hn : nm = x.text := by
        rw [← unhide HNM]
        unfold nameR
        exact if_pos (eq_of_beq (unhide HKB))
      rw [← hn] at cx2
      clear hn
      go_wp2
      go_meet
      exact ⟨rfl, rfl⟩
    | false =>
      have hn : nm = [] := by
        rw [← unhide HNM]
        unfold nameR
        exact if_neg (beq_eq_false_iff_ne.1 (unhide HKB))
      have HN0 := hide hn
      clear hn
      go_wp2
      go_meet
      exact ⟨by rw [unhide HN0], rfl⟩
  case rest =>
    obtain ⟨rfl, rfl⟩ := hcut
    clear ck2 cx2 HKB HNM b0
    go_upto_region 7 with fail
    go_cut [10] from 37 to 38 (fun rv wx => ∃ rn rk, rv = .slice rn r.length rk ∧ TF T w (.slice rn r.length rk) r ∧ w2 = wx)
    case first =>
      have i1 : (1 : Int) ≤ (r.length : Int) + 1 := by omega
      by_cases h1 : lc = 1
      · rw [if_pos h1] at HTL
        subst h1
        obtain rfl : r = [] := List.length_eq_zero_iff.1 (by omega)
        go_wp2
        go_meet
        exact ⟨_, _, rfl, unhide HTL, rfl⟩
      · rw [if_neg h1] at HTL
        go_wp2
        go_meet
        exact ⟨_, _, rfl, unhide HTL, rfl⟩
    case rest =>
      obtain ⟨rn, rk, rfl, hTr, rfl⟩ := hcut
      have HTr := hide hTr
      have hrk : r.length ≤ 9223372036854775807 := by omega
      have X02 : Hid (Ext w w2) := (unhide X1).trans (unhide X2)
      clear hTr HTL hlc i0
      have hn2 := unhide HN2
      subst hn2
      clear HN2
      have hc := unhide HC0
      have ec : cn = true := hc
      subst ec
      clear hc HC0
      have hR2 : R = if isWordL r = true ∧ keptP (hd0 r).text = false then some (remR ws (hd0 r).text, ps) else none := by
        rw [unhide HR1, if_neg (by decide), if_neg (by decide), if_neg (by simp), if_neg (by decide), if_neg (by decide)]
        refine if_iff ?_ _ _
        exact ⟨fun h => h.2, fun h => ⟨by decide, h⟩⟩
      have HR2 := hide hR2
      clear HR1 hR2
      have HB0x := hide ((unhide HB0).ext (unhide X2))
      have HB6x := hide ((unhide HB6).ext (unhide X2))
      have m0 := (unhide HB0x).cell (i := 0) (v := .slice wo ws.length wk) rfl
      have m1 := (unhide HB0x).cell (i := 1) (v := .slice po ps.length pc) rfl
      have m2 := (unhide HB0x).cell (i := 2) (v := .slice oo on oc) rfl
      have n0 := (unhide HB6x).cell (i := 0) (v := .slice none 0 0) rfl
      have n1 := (unhide HB6x).cell (i := 1) (v := .slice none 0 0) rfl
      have n2 := (unhide HB6x).cell (i := 2) (v := .slice none 0 0) rfl
      have f0 := fun i => (unhide HB0x).free i
      have f6 := fun i => (unhide HB6x).free i
      have hwd := refWord_any r rn rk w2 ((unhide HTr).1.ext (unhide X02))
      obtain ⟨iw, hiw⟩ : ∃ iw, isWordL r = iw := ⟨_, rfl⟩
      rw [hiw] at hwd HR2
      have HWD := hide hwd
      have HIW := hide hiw
      clear hwd hiw
      go_wp2_with fail
      refine (unhide HWD).mono ?_
      rintro e w8 ⟨rfl, hw8⟩
      obtain rfl := hw8.symm
      clear hw8 HWD
      cases iw with
      | false =>
        have hRq : R = none := (unhide HR2).trans (if_neg (by simp))
        subst hRq
        have B6 := hide (blkThree (v0 := .slice wo ws.length wk) (v1 := .slice po ps.length pc) (v2 := .slice oo on oc) (unhide HB6x))
        have R0 := hide ((unhide B6).cell (i := 0) (v := .slice wo ws.length wk) rfl)
        have R1 := hide ((unhide B6).cell (i := 1) (v := .slice po ps.length pc) rfl)
        have R2 := hide ((unhide B6).cell (i := 2) (v := .slice oo on oc) rfl)
        have XZ := hide (extThree (b := g6) (v0 := .slice wo ws.length wk) (v1 := .slice po ps.length pc) (v2 := .slice oo on oc) (unhide X02) (unhide hgs).2.1)
        go_wp2
        refine bodyPost_ret (v := .tuple #[.agg #[.slice wo ws.length wk, .slice po ps.length pc, .slice oo on oc], .bool false]) (by have r0 := unhide R0; have r1 := unhide R1; have r2 := unhide R2; simp [results, Tryd.results13, go_sem, r0, r1, r2]) rfl ⟨unhide XZ, _, _, _, _, _, _, rfl⟩
      | true =>
        obtain ⟨y, hr, hk⟩ := wordL_of (unhide HIW)
        subst hr
        have hr2 : R = if keptP y.text = false then some (remR ws y.text, ps) else none := by
          rw [unhide HR2]
          refine if_iff ?_ _ _
          exact ⟨fun h => h.2, fun h => ⟨rfl, h⟩⟩
        obtain ⟨b4, o4, e4, h4⟩ := ((unhide HTr).1.ext (unhide X02)).at 0 (by simp)
        subst e4
        have ct := h4.text
        simp only [Nat.zero_mul, Nat.add_zero, List.getElem_cons_zero] at ct
        have hl1 : ([y] : List Tok).length = 1 := rfl
        rw [hl1]
        have hkp := refKept_any ⟨y.text.toArray⟩ w2 (show y.text.length ≤ 8192 from unhide HLL y (by simp))
        rw [show (⟨y.text.toArray⟩ : ByteArray).data.toList = y.text from rfl] at hkp
        obtain ⟨kp, hkpe⟩ : ∃ kp, keptP y.text = kp := ⟨_, rfl⟩
        rw [hkpe] at hkp hr2
        have HKP := hide hkp
        have HR3 := hide hr2
        clear hkp hr2 hkpe h4 hk hl1 HR2 HIW
        go_wp2_with fail
        refine (unhide HKP).mono ?_
        rintro e w8 ⟨rfl, hw8⟩
        obtain rfl := hw8.symm
        clear hw8 HKP
        cases kp with
        | true =>
          have hRq : R = none := (unhide HR3).trans (if_neg (by simp))
          subst hRq
          have B6 := hide (blkThree (v0 := .slice wo ws.length wk) (v1 := .slice po ps.length pc) (v2 := .slice oo on oc) (unhide HB6x))
          have R0 := hide ((unhide B6).cell (i := 0) (v := .slice wo ws.length wk) rfl)
          have R1 := hide ((unhide B6).cell (i := 1) (v := .slice po ps.length pc) rfl)
          have R2 := hide ((unhide B6).cell (i := 2) (v := .slice oo on oc) rfl)
          have XZ := hide (extThree (b := g6) (v0 := .slice wo ws.length wk) (v1 := .slice po ps.length pc) (v2 := .slice oo on oc) (unhide X02) (unhide hgs).2.1)
          go_wp2
          refine bodyPost_ret (v := .tuple #[.agg #[.slice wo ws.length wk, .slice po ps.length pc, .slice oo on oc], .bool false]) (by have r0 := unhide R0; have r1 := unhide R1; have r2 := unhide R2; simp [results, Tryd.results13, go_sem, r0, r1, r2]) rfl ⟨unhide XZ, _, _, _, _, _, _, rfl⟩
        | false =>
          have HR4 : Hid (R = some (remR ws y.text, ps)) := (unhide HR3).trans (if_pos rfl)
          obtain ⟨wb, hwb⟩ : ∃ wb, wb = w2 := ⟨_, rfl⟩
          have XWB : Hid (Ext w2 wb) := by rw [hwb]; exact Ext.refl _
          have XB : Hid (Ext w wb) := (unhide X02).trans (unhide XWB)
          have M0 : Hid (wb.cell? ⟨g0, 0, none⟩ = some (.slice wo ws.length wk)) := cellExt (unhide XWB) m0
          have HCT := hide (cellExt (unhide XWB) ct)
          have HGB : Hid (g6 < wb.heap.size) := Nat.lt_of_lt_of_le (unhide HB6x).lt (unhide XWB).size
          clear m0 m1 m2 n0 n1 n2 f0 f6 ct HB0x HB6x HR3
          go_wp2
          rw [← hwb]
          clear hwb
          go_loopw [20, 21] (fun nv iv wr => ∃ (i : Nat) (P : List (Wd × Value)) (no : Option Addr) (nc : Nat), i ≤ ws.length ∧ P.map (·.1) = remR (ws.take i) y.text ∧ iv = .int .i64 (i : Int) ∧ nv = .slice no P.length nc ∧ GO wdC 43 2 wr wb.heap.size (.slice no P.length nc) P ∧ Toks T w P ∧ Ext wb wr) (fun _ iv _ => ws.length - (intOf iv).toNat)
          case atStart => exact ⟨0, [], none, 0, by omega, by simp [remR], rfl, rfl, GO.nil _ _, (fun p hp => by cases hp), Ext.refl _⟩
          case round =>
            obtain ⟨i, P, no, nc, hi, hM, rfl, rfl, hG, hK, hxr⟩ := hrel
            have HM := hide hM
            have HG := hide hG
            have HK := hide hK
            have XR := hide hxr
            have hPl : P.length ≤ 100001 := by
              have := congrArg List.length hM
              rw [List.length_map] at this
              rw [this]
              unfold remR
              refine Nat.le_trans (List.length_filter_le _ _) ?_
              rw [List.length_take]
              omega
            clear hM hG hK hxr
            by_cases hlt : i < ws.length
            · obtain ⟨bq, oq, eq, hq⟩ := (unhide HW).at i hlt
              cases eq
              obtain ⟨ao, cp, hct, hTQ⟩ := hq.toks
              have hnx := rem_next ws i hlt y.text
              have c0 := cellExt ((unhide XB).trans (unhide XR)) hq.name
              have c1 := cellExt ((unhide XB).trans (unhide XR)) hct
              have m0 := cellExt (unhide XR) (unhide M0)
              have hgr := (unhide XR).size
              obtain ⟨q, hqq⟩ : ∃ q, ws[i] = q := ⟨_, rfl⟩
              rw [hqq] at c0 c1 hTQ hnx
              have HTQ := hide hTQ
              clear hq hct hqq hTQ
              have ct := cellExt (unhide XR) (unhide HCT)
              by_cases he : q.1 = y.text
              · have q1 : (q.1 == y.text) = true := by rw [he]; simp
                have q2 : (q.1 != y.text) = false := by simp [bne, q1]
                rw [if_pos q1, List.append_nil] at hnx
                have HNX := hide hnx
                clear hnx he
                go_wp2
                go_quiet (fail)
                go_wp2
                refine ⟨⟨i + 1, P, no, nc, by omega, (unhide HM).trans (unhide HNX), by push_cast; rfl, rfl, (unhide HG).ext ((Ext.refl _).drewN _), unhide HK, (unhide XR).drewN _⟩, ?_⟩
                simp [intOf]
                omega
              · have q1 : (q.1 == y.text) = false := beq_eq_false_iff_ne.2 he
                have q2 : (q.1 != y.text) = true := by simp [bne, q1]
                rw [if_neg (by rw [q1]; simp)] at hnx
                have HNX : Hid (remR (ws.take i) y.text ++ [q] = remR (ws.take (i + 1)) y.text) := hnx
                clear hnx he
                go_wp2
                go_quiet (fail)
                obtain ⟨wd, hwd⟩ : ∃ wd, wd = wr.drewN nq := ⟨_, rfl⟩
                rw [← hwd]
                have HGd : Hid (GO wdC 43 2 wd wb.heap.size (.slice no P.length nc) P) := by rw [hwd]; exact (unhide HG).ext ((Ext.refl _).drewN _)
                have XRd : Hid (Ext wb wd) := by rw [hwd]; exact (unhide XR).drewN _
                have XD : Hid (Ext wr wd) := by rw [hwd]; exact (Ext.refl _).drewN _
                replace c0 := cellExt (unhide XD) c0
                replace c1 := cellExt (unhide XD) c1
                replace m0 := cellExt (unhide XD) m0
                replace hgr := Nat.le_trans hgr (unhide XD).size
                clear hwd HG XR ct XD
                have HG := HGd
                have XR := XRd
                clear HGd XRd
                go_wp2_with (at_builtin; refine wpList_append_G (enc := wdC) infoWd Tryd.underlying44 rfl (by decide) (by decide) rfl (.tmp 264) (.tmp 270) rfl wb.heap.size _ P (q, .slice ao q.2.length cp) rfl ((unhide HG).ext ((Ext.refl _).alloc _)) _ 1 rfl _ (blkAt (by simp)) rfl (wdC_one _ _ _ _ rfl) (by omega) ?c2 ?_)
                case c2 =>
                  simp
                  omega
                intro ao2 cap2 P2 w6 hP3 hG6 hgr6 hloc
                have hx6 : Ext wb w6 := Below.trans ((unhide XR).alloc _) (grown_below hgr6 (Nat.le_trans (unhide XR).size (by simp)) (fun q hq => ((unhide HG).lt q hq).1))
                have hK6 : Toks T w P2 := by rw [hP3]; exact (unhide HK).snoc (unhide HTQ)
                have hM6 : P2.map (·.1) = remR (ws.take (i + 1)) y.text := by rw [hP3, List.map_append, unhide HM]; exact unhide HNX
                have HM6 := hide hM6
                have HG6 := hide hG6
                have HK6 := hide hK6
                have X6 := hide hx6
                clear hP3 hG6 hgr6 hloc hx6 hK6 hM6
                go_wp2
                refine ⟨⟨i + 1, P2, ao2, cap2, by omega, unhide HM6, by push_cast; rfl, rfl, unhide HG6, unhide HK6, unhide X6⟩, ?_⟩
                simp [intOf]
                omega
            · have X2R : Hid (Ext w1 wr) := ((unhide X2).trans (unhide XWB)).trans (unhide XR)
              have X0R : Hid (Ext w wr) := (unhide XB).trans (unhide XR)
              have HB0x := hide ((unhide HB0).ext (unhide X2R))
              have HB6x := hide ((unhide HB6).ext (unhide X2R))
              have m0 := (unhide HB0x).cell (i := 0) (v := .slice wo ws.length wk) rfl
              have m1 := (unhide HB0x).cell (i := 1) (v := .slice po ps.length pc) rfl
              have m2 := (unhide HB0x).cell (i := 2) (v := .slice oo on oc) rfl
              have n0 := (unhide HB6x).cell (i := 0) (v := .slice none 0 0) rfl
              have n1 := (unhide HB6x).cell (i := 1) (v := .slice none 0 0) rfl
              have n2 := (unhide HB6x).cell (i := 2) (v := .slice none 0 0) rfl
              have f0 := fun i => (unhide HB0x).free i
              have f6 := fun i => (unhide HB6x).free i
              have HTB : ∀ b, T b → b < wb.heap.size := fun b hb => Nat.lt_of_lt_of_le (unhide HTL0 b hb) (unhide XB).size
              have HGB2 : g6 < wb.heap.size ∧ g0 < wb.heap.size := ⟨unhide HGB, Nat.lt_trans (unhide hgs).2.2 (unhide HGB)⟩
              have HGZ := hide (((((unhide HG).put HGB2.2 0 (.slice no P.length nc)).put HGB2.1 0 (.slice no P.length nc)).put HGB2.1 1 (.slice po ps.length pc)).put HGB2.1 2 (.slice oo on oc))
              have HB0y := hide ((unhide HB0x).set 0 (.slice no P.length nc))
              have HB6y := hide ((unhide HB6x).other 0 (.slice no P.length nc) (r := g0) (Ne.symm (Nat.ne_of_lt (unhide hgs).2.2)))
              have XY : Hid (Ext w (wr.setCell ⟨g0, 0, none⟩ (.slice no P.length nc))) := extSet (unhide X0R) (unhide hgs).1
              have y0 := (unhide HB0y).cell (i := 0) (v := .slice no P.length nc) rfl
              have y1 := (unhide HB0y).cell (i := 1) (v := .slice po ps.length pc) rfl
              have y2 := (unhide HB0y).cell (i := 2) (v := .slice oo on oc) rfl
              have x0 := (unhide HB6y).cell (i := 0) (v := .slice none 0 0) rfl
              have x1 := (unhide HB6y).cell (i := 1) (v := .slice none 0 0) rfl
              have x2 := (unhide HB6y).cell (i := 2) (v := .slice none 0 0) rfl
              have fy := fun i => (unhide HB6y).free i
              have hRz : R = some (P.map (·.1), ps) := by rw [unhide HR4, unhide HM, List.take_of_length_le (by omega)]
              subst hRz
              have B6 := hide (blkThree (v0 := .slice no P.length nc) (v1 := .slice po ps.length pc) (v2 := .slice oo on oc) (unhide HB6y))
              have R0 := hide ((unhide B6).cell (i := 0) (v := .slice no P.length nc) rfl)
              have R1 := hide ((unhide B6).cell (i := 1) (v := .slice po ps.length pc) rfl)
              have R2 := hide ((unhide B6).cell (i := 2) (v := .slice oo on oc) rfl)
              have XZ := hide (extThree (b := g6) (v0 := .slice no P.length nc) (v1 := .slice po ps.length pc) (v2 := .slice oo on oc) (unhide XY) (unhide hgs).2.1)
              go_wp2
              refine bodyPost_ret (v := .tuple #[.agg #[.slice no P.length nc, .slice po ps.length pc, .slice oo on oc], .bool true]) (by have r0 := unhide R0; have r1 := unhide R1; have r2 := unhide R2; simp [results, Tryd.results13, go_sem, r0, r1, r2]) rfl ⟨unhide XZ, _, _, _, _, by rw [List.length_map], by rw [List.length_map]; exact (unhide HGZ).wr (unhide HK) (unhide XZ) HTB rfl, (unhide HP).ext (unhide XZ)⟩
end Go.Proofs.YtdcamcpffiilbaaDoor

/-
  The document's Direct: what a directive does, whatever it is.
-/
namespace Go.Proofs.YtdcamcpffiilbaaDoor
open Go.RowKit
set_option linter.unusedVariables false
set_option linter.unusedSimpArgs false

set_option maxHeartbeats 4000000 in
set_option maxRecDepth 100000 in
theorem refDirect_nil {T : Nat → Prop} (ws : List Wd) (ps : List RP) (first : Bool) (wo : Option Addr) (wk : Nat) (po : Option Addr) (pc : Nat) (oo : Option Addr) (on oc : Nat) (lo : Option Addr) (lc : Nat) (w : World) (hW : WR T w (.slice wo ws.length wk) ws) (hP : PR T w (.slice po ps.length pc) ps) :
    Calls Tryd.prog 13 #[.agg #[.slice wo ws.length wk, .slice po ps.length pc, .slice oo on oc], .slice lo 0 lc, .bool first] w (DirQ2 T w oo on oc (some (ws, ps))) := by
  obtain ⟨w1, hw1⟩ : ∃ w1, w1 = (w.alloc (.cells #[.slice wo ws.length wk, .slice po ps.length pc, .slice oo on oc] 47)).alloc (.cells #[.slice none 0 0, .slice none 0 0, .slice none 0 0] 47) := ⟨_, rfl⟩
  obtain ⟨g0, hg0⟩ : ∃ g0, g0 = w.heap.size := ⟨_, rfl⟩
  obtain ⟨g6, hg6⟩ : ∃ g6, g6 = w.heap.size + 1 := ⟨_, rfl⟩
  have X1 : Hid (Ext w w1) := by rw [hw1]; exact ((Ext.refl w).alloc _).alloc _
  have HB0 : Hid (Blk w1 g0 #[.slice wo ws.length wk, .slice po ps.length pc, .slice oo on oc] 47) := by rw [hw1, hg0]; exact (Blk.new _ _ _).alloc _
  have HB6 : Hid (Blk w1 g6 #[.slice none 0 0, .slice none 0 0, .slice none 0 0] 47) := by rw [hw1, hg6]; exact blkAt (by simp)
  have hgs : w.heap.size ≤ g6 := by omega
  have HW := hide hW
  have HP := hide hP
  have m0 := (unhide HB0).cell (i := 0) (v := .slice wo ws.length wk) rfl
  have m1 := (unhide HB0).cell (i := 1) (v := .slice po ps.length pc) rfl
  have m2 := (unhide HB0).cell (i := 2) (v := .slice oo on oc) rfl
  have n0 := (unhide HB6).cell (i := 0) (v := .slice none 0 0) rfl
  have n1 := (unhide HB6).cell (i := 1) (v := .slice none 0 0) rfl
  have n2 := (unhide HB6).cell (i := 2) (v := .slice none 0 0) rfl
  have f6 := fun i => (unhide HB6).free i
  clear hW hP
  go_enter Tryd.func13, Tryd.ntmps13
  go_upto_region 1 with fail
  rw [← hw1, ← hg6, ← hg0]
  clear hw1 hg0 hg6
  have B6 := hide (blkThree (v0 := .slice wo ws.length wk) (v1 := .slice po ps.length pc) (v2 := .slice oo on oc) (unhide HB6))
  have R0 := hide ((unhide B6).cell (i := 0) (v := .slice wo ws.length wk) rfl)
  have R1 := hide ((unhide B6).cell (i := 1) (v := .slice po ps.length pc) rfl)
  have R2 := hide ((unhide B6).cell (i := 2) (v := .slice oo on oc) rfl)
  have XZ := hide (extThree (b := g6) (v0 := .slice wo ws.length wk) (v1 := .slice po ps.length pc) (v2 := .slice oo on oc) (unhide X1) hgs)
  go_wp2
  refine bodyPost_ret (v := .tuple #[.agg #[.slice wo ws.length wk, .slice po ps.length pc, .slice oo on oc], .bool true]) (by have r0 := unhide R0; have r1 := unhide R1; have r2 := unhide R2; simp [results, Tryd.results13, go_sem, r0, r1, r2]) rfl ⟨unhide XZ, _, _, _, _, rfl, (unhide HW).ext (unhide XZ), (unhide HP).ext (unhide XZ)⟩

theorem refDirect_any {T : Nat → Prop} (ws : List Wd) (ps : List RP) (l : List Tok) (first : Bool) (wo : Option Addr) (wk : Nat) (po : Option Addr) (pc : Nat) (oo : Option Addr) (on oc : Nat) (lo : Option Addr) (lc : Nat) (w : World) (hW : WR T w (.slice wo ws.length wk) ws) (hP : PR T w (.slice po ps.length pc) ps) (hT : TF T w (.slice lo l.length lc) l) (hTl : ∀ b, T b → b < w.heap.size) (hwl : ws.length ≤ 100000) (hpl : ps.length ≤ 100000) (hll : ∀ t ∈ l, t.text.length ≤ 8192) :
    Calls Tryd.prog 13 #[.agg #[.slice wo ws.length wk, .slice po ps.length pc, .slice oo on oc], .slice lo l.length lc, .bool first] w (DirQ2 T w oo on oc (directR keptP ws ps l first)) := by
  cases l with
  | nil => exact refDirect_nil ws ps first wo wk po pc oo on oc lo lc w hW hP
  | cons x r =>
    by_cases h1 : nameR x = tElse
    · exact refDirect_else ws ps x r first wo wk po pc oo on oc lo lc w hW hP hT hTl hwl hpl hll h1
    by_cases h2 : nameR x = tEndif
    · exact refDirect_endif ws ps x r first wo wk po pc oo on oc lo lc w hW hP hT hTl hwl hpl hll h2
    by_cases h3 : nameR x = tIfdef
    · exact refDirect_ifdef ws ps x r first wo wk po pc oo on oc lo lc w hW hP hT hTl hwl hpl hll h3
    by_cases h4 : nameR x = tIfndef
    · exact refDirect_ifndef ws ps x r first wo wk po pc oo on oc lo lc w hW hP hT hTl hwl hpl hll h4
    cases hc : countsR ps with
    | false => exact refDirect_idle ws ps x r first wo wk po pc oo on oc lo lc w hW hP hT hTl hwl hpl hll h1 h2 h3 h4 hc
    | true =>
      by_cases h5 : nameR x = tVersion
      · exact refDirect_version ws ps x r first wo wk po pc oo on oc lo lc w hW hP hT hTl hwl hpl hll h5 hc
      by_cases h6 : nameR x = tDefine
      · exact refDirect_define ws ps x r first wo wk po pc oo on oc lo lc w hW hP hT hTl hwl hpl hll h6 hc
      by_cases h7 : nameR x = tUndef
      · exact refDirect_undef ws ps x r first wo wk po pc oo on oc lo lc w hW hP hT hTl hwl hpl hll h7 hc
      exact refDirect_other ws ps x r first wo wk po pc oo on oc lo lc w hW hP hT hTl hwl hpl hll h1 h2 h3 h4 h5 h6 h7 hc
end Go.Proofs.YtdcamcpffiilbaaDoor
