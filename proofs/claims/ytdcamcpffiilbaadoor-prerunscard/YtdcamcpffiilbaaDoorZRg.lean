/-
  The document's replace: what a token is told as.
-/
import Derived.Test.YtdcamcpffiilbaaDoorXT1J
import Derived.Deep.RegionHeld3
import Derived.Deep.CutRange
import Derived.Deep.DeepCutAuto
namespace Go.Proofs.YtdcamcpffiilbaaDoor
open Go.RowKit
set_option linter.unusedVariables false
set_option linter.unusedSimpArgs false

theorem repl_place (ws : List Wd) (pl ln : Int) (f : Nat) (wi : List Byts8) (t : Tok) (d : Nat) (p q : Int) : replR ws pl ln f wi t d = replR ws pl ln f wi ⟨t.kind, t.text, t.num, p, q⟩ d := by
  cases f <;> rfl
theorem loop_one_place (ws : List Wd) (pl ln : Int) (f : Nat) (wi : List Byts8) (k n p q p2 q2 : Int) (x : Byts8) (out : List Tok) (d : Nat) : loopR (replR ws pl ln f wi) [⟨k, x, n, p, q⟩] out d = loopR (replR ws pl ln f wi) [⟨k, x, n, p2, q2⟩] out d := by
  unfold loopR
  rw [repl_place ws pl ln f wi ⟨k, x, n, p, q⟩ d p2 q2]
theorem loop_facts {f : Tok → Nat → Option (List Tok × Nat)} (hf : ∀ t d x m, f t d = some (x, m) → d ≤ m ∧ (d ≤ 2048 → m ≤ 2048)) : ∀ (ts out : List Tok) (d : Nat) (o : List Tok) (n : Nat), loopR f ts out d = some (o, n) → d ≤ n ∧ (d ≤ 2048 → n ≤ 2048) ∧ (out.length ≤ 2048 → o.length ≤ 2048)
  | [], out, d, o, n, h => by
    cases h
    exact ⟨Nat.le_refl _, id, id⟩
  | t :: ts, out, d, o, n, h => by
    unfold loopR at h
    cases hft : f t d with
    | none => rw [hft] at h; cases h
    | some p =>
      obtain ⟨x, m⟩ := p
      rw [hft] at h
      simp only at h
      split at h
      · cases h
      · rename_i hlt
        obtain ⟨h1, h2, h3⟩ := loop_facts hf ts (out ++ x) m o n h
        obtain ⟨h4, h5⟩ := hf t d x m hft
        exact ⟨by omega, fun hd => h2 (h5 hd), fun _ => h3 (by rw [List.length_append]; omega)⟩
theorem repl_facts (ws : List Wd) (pl ln : Int) : ∀ (f : Nat) (wi : List Byts8) (t : Tok) (d : Nat) (x : List Tok) (m : Nat), replR ws pl ln f wi t d = some (x, m) → d ≤ m ∧ (d ≤ 2048 → m ≤ 2048) ∧ x.length ≤ 2048
  | 0, wi, t, d, x, m, h => by
    unfold replR at h
    split at h
    · cases h
      exact ⟨Nat.le_refl _, id, by simp⟩
    · cases h
  | f + 1, wi, t, d, x, m, h => by
    unfold replR at h
    split at h
    · cases h
      exact ⟨Nat.le_refl _, id, by simp⟩
    · split at h
      · cases h
      · obtain ⟨h1, h2, h3⟩ := loop_facts (fun t d x m h => ⟨(repl_facts ws pl ln f _ t d x m h).1, (repl_facts ws pl ln f _ t d x m h).2.1⟩) _ _ _ _ _ h
        exact ⟨by omega, fun _ => h2 (by omega), h3 (by simp)⟩

/-- A text's cells. -/
def strC (t : Byts8) : List Value := [.string ⟨t.toArray⟩]
theorem strC_len (t : Byts8) : (strC t).length = 1 := rfl
theorem strC_one (t : Byts8) : ∀ u ∈ strC t, u.oneCell' = true := fun u hu => by
  simp [strC] at hu
  subst hu
  rfl
theorem infoStr : (Tryd.prog.info? 9).map (fun i => (i.zero, i.size, i.bytes)) = some (some (.string ⟨#[]⟩), 1, 16) := by kernel_rfl

/-- What replace answers. -/
def RepQ (w : World) (q : Option (List Tok × Nat)) (e : Ending) (w' : World) : Prop := Ext w w' ∧ match q with
  | some (x, n) => ∃ ao cap, e = .returned (.tuple #[.slice ao x.length cap, .int .i64 (n : Int), .bool true]) ∧ TO w' w.heap.size (.slice ao x.length cap) x
  | none => ∃ dn : Int, e = .returned (.tuple #[.slice none 0 0, .int .i64 dn, .bool false])

theorem contains_take {wi : List Byts8} {i : Nat} (h : i < wi.length) (k : Byts8) : (wi.take (i + 1)).contains k = ((wi.take i).contains k || wi[i] == k) := by
  rw [List.take_succ_eq_append_getElem h]
  simp only [List.contains_eq_any_beq, List.any_append, List.any_cons, List.any_nil, Bool.or_false]
  rw [show (k == wi[i]) = (wi[i] == k) from BEq.comm]

theorem TO.one {w : World} {base g : Nat} {y : Tok} (h : Blk w g (tcell y).toArray 33) (hb : base ≤ g) : TO w base (.slice (some ⟨g, 0, none⟩) 1 1) [y] := GO.one (enc := tcell) rfl h hb
theorem blkD {w : World} {b : Nat} {cs : Array Value} {t : TypeId} (h : Blk w b cs t) : Blk w.drew b cs t := h
theorem sizeD (w : World) : w.drew.heap.size = w.heap.size := rfl

theorem apart_next {α : Type} {enc : α → List Value} {e : TypeId} {size : Nat} {w : World} {bx : Nat} {xv ov ov' : Value} {x : List α} (hx : GO enc e size w bx xv x) (h : xv.ownBlock = none ∨ xv.ownBlock ≠ ov.ownBlock) (hloc : ∀ b, ov'.ownBlock = some b → ov.ownBlock = some b ∨ w.heap.size ≤ b) : xv.ownBlock = none ∨ xv.ownBlock ≠ ov'.ownBlock := by
  cases hv : xv.ownBlock with
  | none => exact .inl rfl
  | some b =>
    refine .inr fun e => ?_
    rw [hv] at h
    rcases hloc b e.symm with h1 | h1
    · rcases h with h | h
      · cases h
      · exact h h1.symm
    · have := hx.lt b hv
      omega

set_option maxHeartbeats 8000000 in
set_option maxRecDepth 100000 in
theorem refReplace_any {T : Nat → Prop} (ws : List Wd) (a : Tok) (hl0 : 0 ≤ a.line) (hl1 : a.line ≤ 8192) (hwl : ws.length ≤ 100000) : ∀ (f : Nat) (wi : List Byts8) (t : Tok) (d : Nat) (wo : Option Addr) (wk : Nat) (po : Option Addr) (pn pc : Nat) (oo : Option Addr) (on oc : Nat) (io : Option Addr) (ic : Nat) (w : World), WR T w (.slice wo ws.length wk) ws → GO strC 9 1 w 0 (.slice io wi.length ic) wi → d ≤ 2048 → 2049 ≤ d + f → wi.length + f ≤ 4100 →
    Calls Tryd.prog 15 #[.agg #[.slice wo ws.length wk, .slice po pn pc, .slice oo on oc], .agg #[.int .i64 (t).kind, .string ⟨(t).text.toArray⟩, .int .i32 (t).num, .int .i64 (t).place, .int .i64 (t).line], .slice io wi.length ic, .agg #[.int .i64 (a).kind, .string ⟨(a).text.toArray⟩, .int .i32 (a).num, .int .i64 (a).place, .int .i64 (a).line], .int .i64 (d : Int)] w (RepQ w (replR ws a.place a.line f wi t d)) := by
  intro f
  induction f with
  | zero =>
    intro wi t d wo wk po pn pc oo on oc io ic w hW hI hd hf hwi
    omega
  | succ f ih =>
    intro wi t d wo wk po pn pc oo on oc io ic w hW hI hd hf hwi
    have HIH := hide ih
    obtain ⟨R, hR⟩ : ∃ R, R = replR ws a.place a.line (f + 1) wi t d := ⟨_, rfl⟩
    rw [← hR]
    unfold replR at hR
    have HR := hide hR
    obtain ⟨w1, hw1⟩ : ∃ w1, w1 = ((w.alloc (.cells #[.slice wo ws.length wk, .slice po pn pc, .slice oo on oc] 47)).alloc (.cells #[.int .i64 (t).kind, .string ⟨(t).text.toArray⟩, .int .i32 (t).num, .int .i64 (t).place, .int .i64 (t).line] 33)).alloc (.cells #[.int .i64 (a).kind, .string ⟨(a).text.toArray⟩, .int .i32 (a).num, .int .i64 (a).place, .int .i64 (a).line] 33) := ⟨_, rfl⟩
    obtain ⟨g0, hg0⟩ : ∃ g0, g0 = w.heap.size := ⟨_, rfl⟩
    obtain ⟨g1, hg1⟩ : ∃ g1, g1 = w.heap.size + 1 := ⟨_, rfl⟩
    obtain ⟨g2, hg2⟩ : ∃ g2, g2 = w.heap.size + 1 + 1 := ⟨_, rfl⟩
    have X1 : Hid (Ext w w1) := by rw [hw1]; exact (((Ext.refl w).alloc _).alloc _).alloc _
    have HB0 : Hid (Blk w1 g0 #[.slice wo ws.length wk, .slice po pn pc, .slice oo on oc] 47) := by rw [hw1, hg0]; exact ((Blk.new _ _ _).alloc _).alloc _
    have HB1 : Hid (Blk w1 g1 #[.int .i64 (t).kind, .string ⟨(t).text.toArray⟩, .int .i32 (t).num, .int .i64 (t).place, .int .i64 (t).line] 33) := by rw [hw1, hg1]; exact (blkAt (by simp)).alloc _
    have HB2 : Hid (Blk w1 g2 #[.int .i64 (a).kind, .string ⟨(a).text.toArray⟩, .int .i32 (a).num, .int .i64 (a).place, .int .i64 (a).line] 33) := by rw [hw1, hg2]; exact blkAt (by simp)
    have hgs : Hid (w.heap.size ≤ g0 ∧ w.heap.size ≤ g1 ∧ w.heap.size ≤ g2) := ⟨by omega, by omega, by omega⟩
    have HW := hide (hW.ext (unhide X1))
    have HI := hide (hI.ext (unhide X1))
    clear hR hW hI ih
    go_enter Tryd.func15, Tryd.ntmps15
    go_upto_region 1 with fail
    rw [← hw1, ← hg2, ← hg1, ← hg0]
    clear hw1 hg0 hg1 hg2
    obtain ⟨s0, hs0⟩ : ∃ s0, (!decide (t.kind = 1) || !standsR ws t.text) = s0 := ⟨_, rfl⟩
    have HS0 := hide hs0
    clear hs0
    go_cut [13] (fun sv wx => sv = .bool s0 ∧ Ext w1 wx)
    case first =>
      have k0 := (unhide HB1).cell (i := 0) (v := .int .i64 t.kind) rfl
      have k1 := (unhide HB1).cell (i := 1) (v := .string ⟨t.text.toArray⟩) rfl
      have m0 := (unhide HB0).cell (i := 0) (v := .slice wo ws.length wk) rfl
      have m1 := (unhide HB0).cell (i := 1) (v := .slice po pn pc) rfl
      have m2 := (unhide HB0).cell (i := 2) (v := .slice oo on oc) rfl
      by_cases hk : t.kind = 1
      · have q : (t.kind == 1) = true := by rw [hk]; rfl
        have HST := hide (refStands_any ws t.text wo wk po pn pc oo on oc w1 (unhide HW) hwl)
        have hs := unhide HS0
        rw [decide_eq_true hk] at hs
        have HS := hide hs
        clear hs
        generalize standsR ws t.text = sd at HST HS
        rw [hk] at k0
        clear hk HS0
        go_wp2_with fail
        refine (unhide HST).mono ?_
        rintro e w2 ⟨rfl, hx2⟩
        have X2 := hide hx2
        clear hx2
        cases sd with
        | true =>
          have e : s0 = false := (unhide HS).symm
          subst e
          clear HS
          go_wp2
          go_meet
          exact ⟨rfl, unhide X2⟩
        | false =>
          have e : s0 = true := (unhide HS).symm
          subst e
          clear HS
          go_wp2
          go_meet
          exact ⟨rfl, unhide X2⟩
      · have q : (t.kind == 1) = false := beq_eq_false_iff_ne.2 hk
        have q2 : (t.kind != 1) = true := by simp [bne, q]
        have hs := unhide HS0
        rw [decide_eq_false hk] at hs
        have e : s0 = true := hs.symm
        subst e
        clear hs hk HS0
        go_wp2
        go_meet
        exact ⟨rfl, Ext.refl _⟩
    case rest =>
      obtain ⟨rfl, hxc⟩ := hcut
      have XC := hide hxc
      clear hxc
      have k1 := (unhide HB1).cell (i := 1) (v := .string ⟨t.text.toArray⟩) rfl
      have K1 := hide k1
      clear k1
      go_wp2
      go_loopw [13, 14] (fun sv iv wr => ∃ (i : Nat) (sb : Bool), i ≤ wi.length ∧ iv = .int .i64 (i : Int) ∧ sv = .bool sb ∧ sb = (s0 || (wi.take i).contains t.text) ∧ Ext w1 wr) (fun _ iv _ => wi.length - (intOf iv).toNat)
      case atStart => exact ⟨0, s0, by omega, rfl, rfl, by simp, unhide XC⟩
      case round =>
        obtain ⟨i, sb, hi, rfl, rfl, hsb, hxr⟩ := hrel
        have XR := hide hxr
        have HSB := hide hsb
        clear hxr hsb XC
        by_cases hlt : i < wi.length
        · have HCT := hide (contains_take hlt t.text)
          cases sb with
          | true =>
            go_wp2
            go_quiet (fail)
            go_wp2
            refine ⟨⟨i + 1, true, by omega, by push_cast; rfl, rfl, ?_, (unhide XR).drewN _⟩, ?_⟩
            · rw [unhide HCT, ← Bool.or_assoc, ← unhide HSB]
              rfl
            · simp [intOf]
              omega
          | false =>
            obtain ⟨g, e, _, _, hc⟩ := ((unhide HI).ext (unhide XR)).at strC_len i hlt
            subst e
            have c0 := hc 0 _ (by omega) rfl
            simp only [Nat.mul_one, Nat.add_zero] at c0
            have k1 : wr.cell? ⟨g1, 1, none⟩ = some (.string ⟨t.text.toArray⟩) := cellExt (unhide XR) (unhide K1)
            clear hc
            obtain ⟨b, hb⟩ : ∃ b, (wi[i] == t.text) = b := ⟨_, rfl⟩
            rw [hb] at HCT
            go_wp2
            go_quiet (fail)
            go_wp2
            refine ⟨⟨i + 1, b, by omega, by push_cast; rfl, rfl, ?_, (unhide XR).drewN _⟩, ?_⟩
            · rw [unhide HCT, ← Bool.or_assoc, ← unhide HSB]
              rfl
            · simp [intOf]
              omega
        · have hsf : sb = (!decide (t.kind = 1) || (!standsR ws t.text || wi.contains t.text)) := by
            rw [unhide HSB, List.take_of_length_le (by omega), ← unhide HS0, Bool.or_assoc]
          have hR := unhide HR
          rw [← hsf] at hR
          have HR2 := hide hR
          have HSF := hide hsf
          clear hR hsf HSB HS0 HR
          cases sb with
          | true =>
            have hRq : R = some ([⟨t.kind, t.text, t.num, a.place, a.line⟩], d) := by
              rw [unhide HR2]
              rfl
            subst hRq
            have HB1r := hide ((unhide HB1).ext (unhide XR))
            have HB2r := hide ((unhide HB2).ext (unhide XR))
            have c0 := (unhide HB1r).cell (i := 0) (v := .int .i64 t.kind) rfl
            have c1 := (unhide HB1r).cell (i := 1) (v := .string ⟨t.text.toArray⟩) rfl
            have c2 := (unhide HB1r).cell (i := 2) (v := .int .i32 t.num) rfl
            have c3 := (unhide HB1r).cell (i := 3) (v := .int .i64 t.place) rfl
            have c4 := (unhide HB1r).cell (i := 4) (v := .int .i64 t.line) rfl
            have a3 := (unhide HB2r).cell (i := 3) (v := .int .i64 a.place) rfl
            have a4 := (unhide HB2r).cell (i := 4) (v := .int .i64 a.line) rfl
            have fz := fun i => (unhide HB1r).free i
            go_wp2
            go_region
            go_wp2
            refine bodyPost_ret (v := .tuple #[.slice (some ⟨wr.heap.size, 0, none⟩) 1 1, .int .i64 (d : Int), .bool true]) (by simp [results, Tryd.results15, go_sem]) rfl ⟨?_, _, _, rfl, ?_⟩
            · exact ((extSet (extSet ((unhide X1).trans (unhide XR)) (unhide hgs).2.1) (unhide hgs).2.1).alloc _).drew
            · exact TO.one (blkD (blkAt (by simp))) (Nat.le_trans (unhide X1).size (unhide XR).size)
          | false =>
            have hcond := (unhide HSF).symm
            rw [Bool.or_eq_false_iff, Bool.or_eq_false_iff] at hcond
            obtain ⟨hk, hst, hnc⟩ := hcond
            have hst2 : standsR ws t.text = true := by simpa using hst
            have HST := hide hst2
            clear hk hst hst2 hnc HSF
            have hR3 : R = if 2048 < d + 1 then none else loopR (replR ws a.place a.line f (t.text :: wi)) (bodyR ws a.line t.text) [] (d + 1) := by
              rw [unhide HR2]
              rfl
            clear HR2
            by_cases hov : 2048 < d + 1
            · rw [if_pos hov] at hR3
              subst hR3
              have q : decide ((2048 : Int) < (d : Int) + 1) = true := by simp; omega
              clear hov
              go_wp2
              refine bodyPost_ret (v := .tuple #[.slice none 0 0, .int .i64 ((d : Int) + 1), .bool false]) (by simp [results, Tryd.results15, go_sem]) rfl ⟨(unhide X1).trans (unhide XR), _, rfl⟩
            rw [if_neg hov] at hR3
            have q : decide ((2048 : Int) < (d : Int) + 1) = false := by simp; omega
            obtain ⟨F, hF⟩ : ∃ F, F = replR ws a.place a.line f (t.text :: wi) := ⟨_, rfl⟩
            rw [← hF] at hR3
            have HF := hide hF
            have HR3 := hide hR3
            clear hR3 hF
            have k1 : wr.cell? ⟨g1, 1, none⟩ = some (.string ⟨t.text.toArray⟩) := cellExt (unhide XR) (unhide K1)
            obtain ⟨b1, hb1⟩ : ∃ b1, (t.text == [95, 95, 76, 73, 78, 69, 95, 95]) = b1 := ⟨_, rfl⟩
            go_upto_if 67 with fail
            have HE1 := hide hb1
            clear hb1
            go_cut [15] (fun lv wx => ∃ (lo : Option Addr) (lc : Nat) (LB : List Tok), lv = .slice lo LB.length lc ∧ TR wx (.slice lo LB.length lc) LB ∧ Ext w1 wx ∧ R = loopR F LB [] (d + 1))
            case first =>
              have HB0r := hide ((unhide HB0).ext (unhide XR))
              have HB2r := hide ((unhide HB2).ext (unhide XR))
              have z0 := (unhide HB2r).cell (i := 0) (v := .int .i64 a.kind) rfl
              have z1 := (unhide HB2r).cell (i := 1) (v := .string ⟨a.text.toArray⟩) rfl
              have z2 := (unhide HB2r).cell (i := 2) (v := .int .i32 a.num) rfl
              have z3 := (unhide HB2r).cell (i := 3) (v := .int .i64 a.place) rfl
              have z4 := (unhide HB2r).cell (i := 4) (v := .int .i64 a.line) rfl
              cases b1 with
              | true =>
                have e1 : t.text = wLine := eq_of_beq (unhide HE1)
                obtain ⟨u, hu⟩ : ∃ u : Nat, a.line + 1 = (u : Int) := ⟨(a.line + 1).toNat, by omega⟩
                have hB : bodyR ws a.line t.text = [⟨2, Lib.decDigits u, (u : Int) * 65536, 0, 0⟩] := by
                  unfold bodyR
                  rw [if_pos e1, hu, whole_tok u (by omega) (by omega)]
                have HR4 := hide (unhide HR3)
                rw [hB] at HR4
                have HNU := hide (refNumber_any u a wr (by omega) (by omega))
                clear e1 hB
                go_wp2_with fail
                refine (unhide HNU).mono ?_
                rintro e w3 ⟨g, rfl, hbk, hgw, hx3⟩
                have HBK := hide hbk
                have X3 := hide hx3
                clear hbk hgw hx3 HNU
                go_wp2
                go_meet
                refine ⟨_, _, [⟨2, Lib.decDigits u, (u : Int) * 65536, a.place, a.line⟩], rfl, TR.one (unhide HBK), (unhide XR).trans (unhide X3), ?_⟩
                rw [unhide HR4, unhide HF]
                exact loop_one_place _ _ _ _ _ _ _ _ _ _ _ _ _ _
              | false =>
                have e1 : ¬ t.text = wLine := beq_eq_false_iff_ne.1 (unhide HE1)
                obtain ⟨b2, hb2⟩ : ∃ b2, (t.text == [95, 95, 86, 69, 82, 83, 73, 79, 78, 95, 95]) = b2 := ⟨_, rfl⟩
                have HE2 := hide hb2
                cases b2 with
                | true =>
                  have e2 : t.text = wVers := eq_of_beq (unhide HE2)
                  have hB : bodyR ws a.line t.text = [⟨2, Lib.decDigits 100, ((100 : Nat) : Int) * 65536, 0, 0⟩] := by
                    unfold bodyR
                    rw [if_neg e1, if_pos e2]
                    exact whole_tok 100 (by omega) (by omega)
                  have HR4 := hide (unhide HR3)
                  rw [hB] at HR4
                  have HNU := hide (refNumber_any 100 a wr (by omega) (by omega))
                  clear e1 e2 hB
                  go_wp2_with fail
                  refine (unhide HNU).mono ?_
                  rintro e w3 ⟨g, rfl, hbk, hgw, hx3⟩
                  have HBK := hide hbk
                  have X3 := hide hx3
                  clear hbk hgw hx3 HNU
                  go_wp2
                  go_meet
                  refine ⟨_, _, [⟨2, Lib.decDigits 100, ((100 : Nat) : Int) * 65536, a.place, a.line⟩], rfl, TR.one (unhide HBK), (unhide XR).trans (unhide X3), ?_⟩
                  rw [unhide HR4, unhide HF]
                  exact loop_one_place _ _ _ _ _ _ _ _ _ _ _ _ _ _
                | false =>
                  have e2 : ¬ t.text = wVers := beq_eq_false_iff_ne.1 (unhide HE2)
                  have hsome : (lookR ws t.text).isSome = true := by
                    have := unhide HST
                    unfold standsR at this
                    rw [beq_eq_false_iff_ne.2 e1, beq_eq_false_iff_ne.2 e2] at this
                    exact this
                  obtain ⟨LB, hLB⟩ := Option.isSome_iff_exists.1 hsome
                  have hB : bodyR ws a.line t.text = LB := by
                    unfold bodyR
                    rw [if_neg e1, if_neg e2, hLB]
                    rfl
                  obtain ⟨j, hj, hfj, hwj⟩ := (find_look ws t.text).2 LB hLB
                  obtain ⟨b, off, ewo, hA⟩ := ((unhide HW).ext (unhide XR)).at j hj
                  obtain ⟨lo, lc, ct, hTR⟩ := hA.toks
                  rw [hwj] at ct hTR
                  have HTR := hide hTR.1
                  have HFD := hide (fun wx hx => refFind_any ws t.text wo wk po pn pc oo on oc wx (((unhide HW).ext (unhide XR)).ext hx) hwl)
                  rw [hfj] at HFD
                  have HR4 := hide (unhide HR3)
                  rw [hB] at HR4
                  subst ewo
                  have m0 := cell_later ((unhide HB0r).cell (i := 0) (v := .slice (some ⟨b, off, none⟩) ws.length wk) rfl)
                  have m1 := cell_later ((unhide HB0r).cell (i := 1) (v := .slice po pn pc) rfl)
                  have m2 := cell_later ((unhide HB0r).cell (i := 2) (v := .slice oo on oc) rfl)
                  have m3 := cell_later k1
                  have m4 := cell_later ct
                  have hne := Later.some wr
                  have i0 : (0 : Int) ≤ (j : Int) := by omega
                  have i1 : (j : Int) < (ws.length : Int) := by omega
                  clear e1 e2 hsome hLB hB hA hTR hwj hfj ct z0 z1 z2 z3 z4
                  go_wp2_with fail
                  refine wp_region_later (by kernel_rfl) (by kernel_rfl) ?_
                  repeat (go_big_quiet_step (first | (go_at_call 29; refine calls_later (unhide HFD _ (Later.ext _)))))
                  refine wpQuiet_nil ?_
                  rintro _ ⟨x, rfl⟩
                  have hx3 := x.ext
                  generalize x.w = w3 at hx3 ⊢
                  have X3 := hide hx3
                  clear x m0 m1 m2 m3 m4 hne hx3
                  go_wp2
                  go_meet
                  exact ⟨_, _, LB, rfl, (unhide HTR).ext (unhide X3), (unhide XR).trans (unhide X3), unhide HR4⟩
            case rest =>
              obtain ⟨lo, lc, LB, rfl, hTR, hxc, hRL⟩ := hcut
              have XC2 := hide hxc
              have HTR := hide hTR
              have HRL := hide hRL
              have kc : wc.cell? ⟨g1, 1, none⟩ = some (.string ⟨t.text.toArray⟩) := cellExt hxc (unhide K1)
              obtain ⟨w5, hw5⟩ : ∃ w5, w5 = wc.alloc (.cells #[.string ⟨t.text.toArray⟩] 9) := ⟨_, rfl⟩
              obtain ⟨gi, hgi⟩ : ∃ gi, gi = wc.heap.size := ⟨_, rfl⟩
              have HN0 : Hid (GO strC 9 1 w5 gi (.slice (some ⟨gi, 0, none⟩) 1 1) [t.text]) := by rw [hw5, hgi]; exact GO.one rfl (Blk.new _ _ _) (Nat.le_refl _)
              have X5 : Hid (Ext wc w5) := by rw [hw5]; exact (Ext.refl _).alloc _
              have HGI : Hid (gi = wc.heap.size) := hgi
              have hd1 : d + 1 ≤ 2048 := by omega
              clear hTR hxc hRL HR3 k1 XR hov q
              go_wp2
              rw [← hw5, ← hgi]
              clear hw5 hgi kc
              go_loopw [16, 17] (fun nv iv wr => ∃ (i : Nat) (N : List Byts8) (no : Option Addr) (nc : Nat), i ≤ wi.length ∧ N = t.text :: wi.take i ∧ iv = .int .i64 (i : Int) ∧ nv = .slice no N.length nc ∧ GO strC 9 1 wr gi (.slice no N.length nc) N ∧ Ext wc wr) (fun _ iv _ => wi.length - (intOf iv).toNat)
              case atStart => exact ⟨0, [t.text], _, _, by omega, by simp, rfl, rfl, unhide HN0, unhide X5⟩
              case round =>
                obtain ⟨i, N, no, nc, hi, hN, rfl, rfl, hG, hxr⟩ := hrel
                have HN := hide hN
                have HG := hide hG
                have XR := hide hxr
                have hNl : N.length ≤ 4101 := by rw [hN, List.length_cons, List.length_take]; omega
                clear hN hG hxr HN0 X5
                by_cases hlt : i < wi.length
                · obtain ⟨g, e, _, _, hc⟩ := (((unhide HI).ext (unhide XC2)).ext (unhide XR)).at strC_len i hlt
                  subst e
                  have c0 := hc 0 _ (by omega) rfl
                  simp only [Nat.mul_one, Nat.add_zero] at c0
                  have hN2 : N ++ [wi[i]] = t.text :: wi.take (i + 1) := by rw [unhide HN, List.take_succ_eq_append_getElem hlt]; rfl
                  have HN2 := hide hN2
                  clear hc hN2
                  obtain ⟨y, hy⟩ : ∃ y, wi[i] = y := ⟨_, rfl⟩
                  rw [hy] at c0 HN2
                  clear hy
                  have hgr : gi ≤ wr.heap.size := by
                    have := (unhide XR).size
                    have := unhide HGI
                    omega
                  go_wp2_with (at_builtin; refine wpList_append_G (enc := strC) infoStr Tryd.underlying68 rfl (by decide) (by decide) rfl (.tmp 96) (.tmp 101) rfl gi _ N y rfl ((unhide HG).ext ((Ext.refl _).alloc _)) _ 1 rfl _ (blkAt (by simp)) rfl (strC_one y) (by omega) ?c2 ?_)
                  case c2 =>
                    simp
                    omega
                  intro ao2 cap2 N2 w6 hN3 hG6 hgr6 hloc
                  have hx6 : Ext wc w6 := Below.trans ((unhide XR).alloc _) (grown_below hgr6 (Nat.le_trans (unhide XR).size (by simp)) (fun q hq => by have := ((unhide HG).lt q hq).1; have := unhide HGI; omega))
                  rw [unhide HN2] at hN3
                  have HN3 := hide hN3
                  have HG6 := hide hG6
                  have X6 := hide hx6
                  clear hN3 hG6 hgr6 hloc hx6
                  go_wp2
                  refine ⟨⟨i + 1, N2, ao2, cap2, by omega, unhide HN3, by push_cast; rfl, rfl, unhide HG6, unhide X6⟩, ?_⟩
                  simp [intOf]
                  omega
                · have hNe : N = t.text :: wi := by rw [unhide HN, List.take_of_length_le (by omega)]
                  subst hNe
                  clear HN
                  have X7 : Hid (Ext w1 wr) := (unhide XC2).trans (unhide XR)
                  have HTR7 := hide ((unhide HTR).ext (unhide XR))
                  have HW7 := hide ((unhide HW).ext (unhide X7))
                  have HI7 := hide ((unhide HG).lower (b2 := 0) (Nat.zero_le _))
                  have HB07 := hide ((unhide HB0).ext (unhide X7))
                  have HB27 := hide ((unhide HB2).ext (unhide X7))
                  have hlb : LB.length ≤ 9223372036854775807 := by
                    obtain ⟨_, _, _, _, h1, h2, _⟩ := unhide HTR
                    unfold maxLen at h2
                    omega
                  obtain ⟨w7, hw7⟩ : ∃ w7, w7 = wr := ⟨_, rfl⟩
                  rw [← hw7] at X7 HTR7 HW7 HI7 HB07 HB27
                  clear HG XR HTR hNl
                  go_wp2
                  rw [← hw7]
                  clear hw7
                  go_loopw [4, 18, 19] (fun dv ov iv wr => ∃ (i n : Nat) (out : List Tok) (uo : Option Addr) (uc : Nat), i ≤ LB.length ∧ dv = .int .i64 (n : Int) ∧ ov = .slice uo out.length uc ∧ iv = .int .i64 (i : Int) ∧ TO wr w7.heap.size (.slice uo out.length uc) out ∧ Ext w7 wr ∧ R = loopR F (LB.drop i) out n ∧ d + 1 ≤ n ∧ n ≤ 2048 ∧ out.length ≤ 2048) (fun _ _ iv _ => LB.length - (intOf iv).toNat)
                  case atStart => exact ⟨0, d + 1, [], none, 0, by omega, by push_cast; rfl, rfl, rfl, TO.nil _ _, Ext.refl _, unhide HRL, Nat.le_refl _, by omega, by simp⟩
                  case round =>
                    obtain ⟨i, n, out, uo, uc, hi, rfl, rfl, rfl, hO, hxr, hR5, hn1, hn2, hol⟩ := hrel
                    have HO := hide hO
                    have XR := hide hxr
                    have HR5 := hide hR5
                    clear hO hxr hR5 HRL
                    by_cases hlt : i < LB.length
                    · obtain ⟨b5, o5, e5, h5⟩ := ((unhide HTR7).ext (unhide XR)).at i hlt
                      subst e5
                      have hR6 := unhide HR5
                      rw [List.drop_eq_getElem_cons hlt] at hR6
                      unfold loopR at hR6
                      have hfx := repl_facts ws a.place a.line f (t.text :: wi) LB[i] n
                      have hcl := fun W (hx : Ext wr W) => unhide HIH (t.text :: wi) LB[i] n wo wk po pn pc oo on oc no nc W (((unhide HW7).ext (unhide XR)).ext hx) (((unhide HI7).ext (unhide XR)).ext hx) hn2 (by omega) (by simp only [List.length_cons]; omega)
                      rw [← unhide HF] at hfx hcl
                      obtain ⟨y, hy⟩ : ∃ y, LB[i] = y := ⟨_, rfl⟩
                      rw [hy] at h5 hR6 hfx hcl
                      obtain ⟨q, hq⟩ : ∃ q, F y n = q := ⟨_, rfl⟩
                      rw [hq] at hR6 hfx hcl
                      have HR6 := hide hR6
                      have HFX := hide hfx
                      have HCL := hide hcl
                      have HKL : Hid (∀ wx, Ext wr wx → wx.cell? ⟨g0, 0, none⟩ = some (.slice wo ws.length wk) ∧ wx.cell? ⟨g0, 1, none⟩ = some (.slice po pn pc) ∧ wx.cell? ⟨g0, 2, none⟩ = some (.slice oo on oc) ∧ wx.cell? ⟨b5, o5 + i * 5, none⟩ = some (.int .i64 y.kind) ∧ wx.cell? ⟨b5, o5 + i * 5 + 1, none⟩ = some (.string ⟨y.text.toArray⟩) ∧ wx.cell? ⟨b5, o5 + i * 5 + 2, none⟩ = some (.int .i32 y.num) ∧ wx.cell? ⟨b5, o5 + i * 5 + 3, none⟩ = some (.int .i64 y.place) ∧ wx.cell? ⟨b5, o5 + i * 5 + 4, none⟩ = some (.int .i64 y.line) ∧ wx.cell? ⟨g2, 0, none⟩ = some (.int .i64 a.kind) ∧ wx.cell? ⟨g2, 1, none⟩ = some (.string ⟨a.text.toArray⟩) ∧ wx.cell? ⟨g2, 2, none⟩ = some (.int .i32 a.num) ∧ wx.cell? ⟨g2, 3, none⟩ = some (.int .i64 a.place) ∧ wx.cell? ⟨g2, 4, none⟩ = some (.int .i64 a.line)) := fun wx hx => by
                        have h6 := h5.ext hx
                        have hB0 := ((unhide HB07).ext (unhide XR)).ext hx
                        have hB2 := ((unhide HB27).ext (unhide XR)).ext hx
                        exact ⟨hB0.cell (i := 0) rfl, hB0.cell (i := 1) rfl, hB0.cell (i := 2) rfl, h6.kind, h6.text, h6.num, h6.place, h6.line, hB2.cell (i := 0) rfl, hB2.cell (i := 1) rfl, hB2.cell (i := 2) rfl, hB2.cell (i := 3) rfl, hB2.cell (i := 4) rfl⟩
                      have XD : Hid (Ext wr wr.drew) := (Ext.refl _).drew
                      clear h5 hR6 hfx hcl hq hy HR5
                      cases q with
                      | none =>
                        have hRq : R = none := unhide HR6
                        subst hRq
                        go_wp2_with fail
                        go_region_held3 (fun wx => wx.cell? ⟨g0, 0, none⟩ = some (.slice wo ws.length wk) ∧ wx.cell? ⟨g0, 1, none⟩ = some (.slice po pn pc) ∧ wx.cell? ⟨g0, 2, none⟩ = some (.slice oo on oc) ∧ wx.cell? ⟨b5, o5 + i * 5, none⟩ = some (.int .i64 y.kind) ∧ wx.cell? ⟨b5, o5 + i * 5 + 1, none⟩ = some (.string ⟨y.text.toArray⟩) ∧ wx.cell? ⟨b5, o5 + i * 5 + 2, none⟩ = some (.int .i32 y.num) ∧ wx.cell? ⟨b5, o5 + i * 5 + 3, none⟩ = some (.int .i64 y.place) ∧ wx.cell? ⟨b5, o5 + i * 5 + 4, none⟩ = some (.int .i64 y.line) ∧ wx.cell? ⟨g2, 0, none⟩ = some (.int .i64 a.kind) ∧ wx.cell? ⟨g2, 1, none⟩ = some (.string ⟨a.text.toArray⟩) ∧ wx.cell? ⟨g2, 2, none⟩ = some (.int .i32 a.num) ∧ wx.cell? ⟨g2, 3, none⟩ = some (.int .i64 a.place) ∧ wx.cell? ⟨g2, 4, none⟩ = some (.int .i64 a.line))
                          (first | with_reducible exact unhide HKL _ (unhide XD) | with_reducible exact unhide HKL _ bx)
                          (first | (go_at_call 15; refine (unhide HCL _ (unhide XD)).mono ?_; rintro e w9 ⟨hx9, dn, rfl⟩; have bx : Ext wr w9 := (unhide XD).trans hx9))
                        have X9 := hide bx
                        clear hx9 bx
                        go_wp2
                        refine bodyPost_ret (v := .tuple #[.slice none 0 0, .int .i64 dn, .bool false]) (by simp [results, Tryd.results15, go_sem]) rfl ⟨(((unhide X1).trans (unhide X7)).trans (unhide XR)).trans (unhide X9), _, rfl⟩
                      | some p =>
                        obtain ⟨x, m⟩ := p
                        have hRq : R = if 2048 < out.length + x.length then none else loopR F (LB.drop (i + 1)) (out ++ x) m := unhide HR6
                        obtain ⟨f1, f2, f3⟩ := unhide HFX x m rfl
                        have f2 := f2 hn2
                        go_wp2_with fail
                        go_region_held3 (fun wx => wx.cell? ⟨g0, 0, none⟩ = some (.slice wo ws.length wk) ∧ wx.cell? ⟨g0, 1, none⟩ = some (.slice po pn pc) ∧ wx.cell? ⟨g0, 2, none⟩ = some (.slice oo on oc) ∧ wx.cell? ⟨b5, o5 + i * 5, none⟩ = some (.int .i64 y.kind) ∧ wx.cell? ⟨b5, o5 + i * 5 + 1, none⟩ = some (.string ⟨y.text.toArray⟩) ∧ wx.cell? ⟨b5, o5 + i * 5 + 2, none⟩ = some (.int .i32 y.num) ∧ wx.cell? ⟨b5, o5 + i * 5 + 3, none⟩ = some (.int .i64 y.place) ∧ wx.cell? ⟨b5, o5 + i * 5 + 4, none⟩ = some (.int .i64 y.line) ∧ wx.cell? ⟨g2, 0, none⟩ = some (.int .i64 a.kind) ∧ wx.cell? ⟨g2, 1, none⟩ = some (.string ⟨a.text.toArray⟩) ∧ wx.cell? ⟨g2, 2, none⟩ = some (.int .i32 a.num) ∧ wx.cell? ⟨g2, 3, none⟩ = some (.int .i64 a.place) ∧ wx.cell? ⟨g2, 4, none⟩ = some (.int .i64 a.line))
                          (first | with_reducible exact unhide HKL _ (unhide XD) | with_reducible exact unhide HKL _ bx)
                          (first | (go_at_call 15; refine (unhide HCL _ (unhide XD)).mono ?_; rintro e w9 ⟨hx9, xo, xc, rfl, hX9⟩; have bx : Ext wr w9 := (unhide XD).trans hx9))
                        have X9 := hide bx
                        have HX9 := hide hX9
                        have HO9 := hide ((unhide HO).ext bx)
                        have HAP : Hid ((Value.slice xo x.length xc).ownBlock = none ∨ (Value.slice xo x.length xc).ownBlock ≠ (Value.slice uo out.length uc).ownBlock) := by
                          cases hv : (Value.slice xo x.length xc).ownBlock with
                          | none => exact .inl rfl
                          | some b =>
                            refine .inr fun e => ?_
                            have h1 := (World.ownsRow.lt hX9 b hv).1
                            have h2 := (World.ownsRow.lt (unhide HO) b e.symm).2
                            rw [sizeD] at h1
                            omega
                        have X97 := hide ((unhide XR).trans bx)
                        clear hx9 bx hX9 HR6 HFX HCL HKL
                        by_cases hov : 2048 < out.length + x.length
                        · rw [if_pos hov] at hRq
                          subst hRq
                          have q1 : decide ((2048 : Int) < (out.length : Int) + (x.length : Int)) = true := by simp; omega
                          go_wp2
                          refine bodyPost_ret (v := .tuple #[.slice none 0 0, .int .i64 (m : Int), .bool false]) (by simp [results, Tryd.results15, go_sem]) rfl ⟨((unhide X1).trans (unhide X7)).trans (unhide X97), _, rfl⟩
                        · rw [if_neg hov] at hRq
                          have q1 : decide ((2048 : Int) < (out.length : Int) + (x.length : Int)) = false := by simp; omega
                          have HRq := hide hRq
                          clear hRq
                          go_wp2
                          go_loopw [18, 23] (fun ov kv wr => ∃ (k : Nat) (o2 : List Tok) (vo : Option Addr) (vc : Nat), k ≤ x.length ∧ o2 = out ++ x.take k ∧ kv = .int .i64 (k : Int) ∧ ov = .slice vo o2.length vc ∧ TO wr w7.heap.size (.slice vo o2.length vc) o2 ∧ TO wr 0 (.slice xo x.length xc) x ∧ ((Value.slice xo x.length xc).ownBlock = none ∨ (Value.slice xo x.length xc).ownBlock ≠ (Value.slice vo o2.length vc).ownBlock) ∧ Ext w7 wr) (fun _ kv _ => x.length - (intOf kv).toNat)
                          case atStart => exact ⟨0, out, uo, uc, by omega, by simp, rfl, rfl, unhide HO9, (unhide HX9).lower (Nat.zero_le _), unhide HAP, unhide X97⟩
                          case round =>
                            obtain ⟨k, o2, vo, vc, hk, ho2, rfl, rfl, hO2, hX2, hap, hx2⟩ := hrel
                            have HO2 := hide hO2
                            have HX2 := hide hX2
                            have HAP2 := hide hap
                            have X2 := hide hx2
                            have HE2 := hide ho2
                            have hol2 : o2.length ≤ 2048 := by rw [ho2, List.length_append, List.length_take]; omega
                            clear hO2 hX2 hap hx2 ho2
                            by_cases hlt2 : k < x.length
                            · obtain ⟨bx, ox, ex, hxk⟩ := (unhide HX2).tr.at k hlt2
                              subst ex
                              have hE3 : o2 ++ [x[k]] = out ++ x.take (k + 1) := by rw [unhide HE2, List.take_succ_eq_append_getElem hlt2]; simp
                              obtain ⟨z, hz⟩ : ∃ z, x[k] = z := ⟨_, rfl⟩
                              rw [hz] at hxk hE3
                              have c0 := hxk.kind; have c1 := hxk.text; have c2 := hxk.num; have c3 := hxk.place; have c4 := hxk.line
                              have HE3 := hide hE3
                              have hsz := (unhide X2).size
                              clear hxk hz hE3
                              go_wp2_with (at_builtin; refine wpList_append_G (enc := tcell) infoT Tryd.underlying23 rfl (by decide) (by decide) rfl (.tmp 140) (.tmp 145) rfl w7.heap.size _ o2 z rfl ?c1 _ 1 rfl _ (blkAt (by simp)) rfl (tcell_ones z) (by omega) ?c2 ?_)
                              case c1 => exact (unhide HO2).ext ((Ext.refl _).alloc _)
                              case c2 =>
                                simp
                                omega
                              intro ao3 cap3 N3 w10 hN3 hG10 hgr10 hloc
                              have hx10 : Ext w7 w10 := Below.trans ((unhide X2).alloc _) (grown_below hgr10 (Nat.le_trans hsz (by simp)) (fun q hq => (World.ownsRow.lt (unhide HO2) q hq).1))
                              have hXa := (unhide HX2).ext ((Ext.refl _).alloc (.cells (tcell z).toArray 33))
                              have hX10 : TO w10 0 (.slice (some ⟨bx, ox, none⟩) x.length xc) x := World.ownsRow.kept hXa hgr10 (unhide HAP2)
                              have hap10 := apart_next (enc := tcell) hXa (unhide HAP2) (fun b hb => (hloc b hb).imp id (fun h => by rw [World.size_alloc]; exact h))
                              rw [unhide HE3] at hN3
                              have HN3 := hide hN3
                              have HG10 := hide hG10
                              have HX10 := hide hX10
                              have HP10 := hide hap10
                              have X10 := hide hx10
                              clear hN3 hG10 hgr10 hloc hx10 hXa hX10 hap10
                              go_wp2
                              refine ⟨⟨k + 1, N3, ao3, cap3, by omega, unhide HN3, by push_cast; rfl, rfl, unhide HG10, unhide HX10, unhide HP10, unhide X10⟩, ?_⟩
                              simp [intOf]
                              omega
                            · have ho3 : o2 = out ++ x := by rw [unhide HE2, List.take_of_length_le (by omega)]
                              rw [← ho3] at HRq
                              have HRz := hide (unhide HRq)
                              clear ho3 HRq
                              go_wp2
                              go_roundw
                              case rel =>
                                (repeat apply Exists.intro)
                                exact ⟨⟨i + 1, m, o2, vo, vc, by omega, rfl, rfl, by push_cast; rfl, unhide HO2, unhide X2, unhide HRz, by omega, f2, hol2⟩, rfl⟩
                              case measure =>
                                simp [intOf]
                                omega
                    · have hRq : R = some (out, n) := by
                        rw [unhide HR5, List.drop_of_length_le (by omega)]
                        rfl
                      subst hRq
                      go_wp2
                      refine bodyPost_ret (v := .tuple #[.slice uo out.length uc, .int .i64 (n : Int), .bool true]) (by simp [results, Tryd.results15, go_sem]) rfl ⟨((unhide X1).trans (unhide X7)).trans (unhide XR), _, _, rfl, (unhide HO).lower (Nat.le_trans (unhide X1).size (unhide X7).size)⟩
end Go.Proofs.YtdcamcpffiilbaaDoor
