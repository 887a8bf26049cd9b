/-
  The document's token: a sign.
-/
import Derived.Test.YtdcamcpffiilbaaDoorXZ
namespace Go.Proofs.YtdcamcpffiilbaaDoor
open Go.RowKit
set_option linter.unusedSimpArgs false
set_option linter.unusedVariables false
theorem twy_ne (k : Nat) (hk : k < 13) : twy k ≠ 0 := by
  rcases k with _ | _ | _ | _ | _ | _ | _ | _ | _ | _ | _ | _ | _ | k
  case succ.succ.succ.succ.succ.succ.succ.succ.succ.succ.succ.succ.succ => omega
  all_goals decide
theorem isTwo_at (l : Byts8) (i : Nat) (hi : i < l.length) : isTwo (l.drop i) = true ↔ ∃ k, k < 13 ∧ atP l i = twx k ∧ atP l (i + 1) = twy k := by
  have e0 : atP l i = l[i] := by unfold atP; simp [hi]
  rw [List.drop_eq_getElem_cons hi, e0]
  by_cases h1 : i + 1 < l.length
  · have e1 : atP l (i + 1) = l[i + 1] := by unfold atP; simp [h1]
    rw [List.drop_eq_getElem_cons h1, e1]
    generalize l[i] = x
    generalize l[i + 1] = y
    unfold isTwo
    constructor
    · intro h
      have hm : [x, y] ∈ twos := by simpa using h
      simp only [twos, List.mem_cons, List.not_mem_nil, or_false, List.cons.injEq, and_true] at hm
      rcases hm with h | h | h | h | h | h | h | h | h | h | h | h
      · exact ⟨0, by omega, h⟩
      · exact ⟨1, by omega, h⟩
      · exact ⟨2, by omega, h⟩
      · exact ⟨3, by omega, h⟩
      · exact ⟨4, by omega, h⟩
      · exact ⟨5, by omega, h⟩
      · exact ⟨6, by omega, h⟩
      · exact ⟨7, by omega, h⟩
      · exact ⟨8, by omega, h⟩
      · exact ⟨9, by omega, h⟩
      · exact ⟨10, by omega, h⟩
      · exact ⟨11, by omega, h⟩
    · rintro ⟨k, hk, rfl, rfl⟩
      rcases k with _ | _ | _ | _ | _ | _ | _ | _ | _ | _ | _ | _ | _ | k
      case succ.succ.succ.succ.succ.succ.succ.succ.succ.succ.succ.succ.succ => omega
      all_goals rfl
  · have e1 : atP l (i + 1) = 0 := by unfold atP; rw [List.getD_eq_getElem?_getD, List.getElem?_eq_none (by omega)]; rfl
    rw [List.drop_of_length_le (by omega), e1]
    constructor
    · intro h
      simp [isTwo, twos] at h
    · rintro ⟨k, hk, _, h⟩
      exact absurd h.symm (twy_ne k hk)
theorem extract_two (s : ByteArray) (i : Nat) (d : UInt8) (hi : i < s.size) (hd : atP s.data.toList (i + 1) = d) (hn : d ≠ 0) : s.extract i (i + 2) = ⟨#[s[i], d]⟩ := by
  have hl := list_size s
  have h1 : i + 1 < s.size := by
    by_cases h : i + 1 < s.size
    · exact h
    · unfold atP at hd
      rw [List.getD_eq_getElem?_getD, List.getElem?_eq_none (by omega)] at hd
      exact absurd hd.symm hn
  rw [atP_get s (i + 1) h1] at hd
  subst hd
  apply ByteArray.ext
  apply Array.toList_inj.1
  rw [ByteArray.data_extract, Array.toList_extract, List.extract_eq_take_drop, drop_get s i hi, drop_get s (i + 1) h1]
  rw [show i + 2 - i = 2 by omega]
  rfl
theorem two_text (k : Nat) (hk : k < 13) : ∃ (t : ByteArray) (h0 : 0 < t.size) (h1 : 1 < t.size), (t[0] = twx k ∧ t[1] = twy k ∧ t = ⟨#[twx k, twy k]⟩) ∧ ∀ W, (Instr.index 89 (.agg twoA) (.int .i64 (k : Int))).run Tryd.prog W = .ok (.string t) W :=
  ⟨⟨#[twx k, twy k]⟩, Nat.zero_lt_two, Nat.one_lt_two, ⟨rfl, rfl, rfl⟩, two_at k hk⟩
def signE (l : Byts8) : Int × Int := if (signP l).1 = 4 then (0, 0) else (0, 200)
/-- No sign of two bytes up to a place. -/
def noTwo (c d : UInt8) (k : Nat) : Prop := ∀ m, m < k → ¬ (c = twx m ∧ d = twy m)
set_option maxHeartbeats 1000000 in
set_option maxRecDepth 100000 in
theorem refToken_sign (s : ByteArray) (i : Nat) (w : World) (hi : i < s.size) (hs : s.size ≤ 8192) (hlt : isLt s[i] = false) (hdg : isDg s[i] = false) (hpt : (s[i] == 46 && isDg (atP s.data.toList (i + 1))) = false) :
    Calls Tryd.prog 25 #[.string s, .int .i64 (i : Int)] w (Told 4 (s.extract i (i + (signP (s.data.toList.drop i)).2)) (signE (s.data.toList.drop i)) w) := by
  have hl := list_size s
  have HT := hide (isTwo_at s.data.toList i (by omega))
  have HAG := hide (atP_get s i hi)
  have HAT : Hid (∀ W, Calls Tryd.prog 55 #[.string s, .int .i64 ((i : Int) + 1)] W fun e w' => e = .returned (.int .u8 ((atP s.data.toList (i + 1)).toNat : Int)) ∧ w' = W) := hide (fun W => refAt_any s (i + 1) W)
  have hwr : IntKind.i64.wrap ((i : Int) + 1) = (i : Int) + 1 := wrapIdX (by omega) (by omega)
  have HL := hide (fun W => refLetter_any s[i] W)
  have HD := hide (fun W => refDigit_any s[i] W)
  have HD2 := hide (fun W => refDigit_any (atP s.data.toList (i + 1)) W)
  have HO := hide (fun W => refOne_any s[i] W)
  rw [hlt] at HL
  rw [hdg] at HD
  have hc46 : ((s[i].toNat : Int) == 46) = (s[i] == 46) := u8beq s[i] 46
  generalize hsg : signP (s.data.toList.drop i) = sg
  generalize hsge : signE (s.data.toList.drop i) = se
  have HSG := hide hsg
  have HSE := hide hsge
  clear hsg hsge hlt hdg
  generalize hd : atP s.data.toList (i + 1) = d at *
  have HDD := hide hd
  clear hd
  go_enter Tryd.func25, Tryd.ntmps25
  go_wp2_with fail
  refine (unhide HL _).mono ?_
  rintro e w1 ⟨rfl, rfl⟩
  clear HL
  go_wp2_with fail
  refine (unhide HD _).mono ?_
  rintro e w1 ⟨rfl, rfl⟩
  clear HD
  have HTW := hide (fun W => refTwo_any W)
  cases hb : (s[i] == 46)
  case false =>
    rw [hb] at hc46
    clear hpt HD2
    go_wp2_with fail
    refine (unhide HTW _).mono ?_
    rintro e w2 ⟨rfl, hx2⟩
    clear HTW
    have HB := hide (And.intro (((Ext.refl w).alloc _).trans hx2) ((Blk.new w #[.int .i64 0, .string ⟨#[]⟩, .int .i32 0, .int .i64 0, .int .i64 0] 33).ext hx2))
    clear hx2
    go_wp2_with fail
    go_loopw [155] (fun kv wr => ∃ k : Nat, k ≤ 13 ∧ kv = .int .i64 (k : Int) ∧ Hid (Ext w wr ∧ Blk wr w.heap.size #[.int .i64 0, .string ⟨#[]⟩, .int .i32 0, .int .i64 0, .int .i64 0] 33) ∧ Hid (noTwo s[i] d k)) (fun kv _ => 13 - (intOf kv).toNat)
    case atStart => exact ⟨0, by omega, rfl, HB, hide (fun m hm => absurd hm (by omega))⟩
    case round =>
      clear HB
      obtain ⟨k, hk, rfl, HB, hno⟩ := hrel
      by_cases hlt : k < 13
      · obtain ⟨t, ht0, ht1, hT, htw⟩ := two_text k hlt
        have ht1' : (1 : Int) < (t.size : Int) := by omega
        have hix := fun W => htw W
        clear htw
        have HT' := hide hT
        clear hT
        have HY := hide (twy_ne k hlt)
        by_cases he : s[i] = twx k ∧ d = twy k
        · have hit := (unhide HT).2 ⟨k, hlt, (unhide HAG).trans he.1, he.2⟩
          have HSG2 := hide (show sg = (4, 2) by rw [← unhide HSG]; unfold signP; rw [if_pos hit])
          have HSE2 := hide (show se = (0, 0) by rw [← unhide HSE]; unfold signE signP; rw [if_pos hit]; rfl)
          have hdn : d ≠ 0 := he.2 ▸ unhide HY
          have HTX := hide (extract_two s i d hi (unhide HDD) hdn)
          have e0 := he.1.trans (unhide HT').1.symm
          have e1 := he.2.trans (unhide HT').2.1.symm
          have HTT := hide (show t = ⟨#[s[i], d]⟩ by rw [(unhide HT').2.2, ← he.1, ← he.2])
          have hcc : ((s[i].toNat : Int) == (t[0].toNat : Int)) = true := by rw [e0]; simp
          have hdd : ((d.toNat : Int) == (t[1].toNat : Int)) = true := by rw [← e1]; simp
          clear hit he hdn e0 e1
          go_wp2_with fail
          go_quiet (first | (go_at_call 55; refine Calls.quiet_of_same (unhide HAT _)))
          have B2 := (unhide HB).2.ext ((Ext.refl _).drewN nq)
          have g0 := B2.cell (i := 0) rfl
          have g1 := B2.cell (i := 1) rfl
          have g2 := B2.cell (i := 2) rfl
          have g3 := B2.cell (i := 3) rfl
          have g4 := B2.cell (i := 4) rfl
          have fz := fun i => B2.free i
          have X := hide ((unhide HB).1.trans ((Ext.refl _).drewN nq))
          have B := hide B2
          clear B2
          go_wp2
          have B5 := hide ((((((unhide B).set 0 (.int .i64 4)).set 1 (.string t)).set 2 (.int .i32 0)).set 3 (.int .i64 0)).set 4 (.int .i64 0))
          have k0 := (unhide B5).cell (i := 0) (v := .int .i64 4) rfl
          have k1 := (unhide B5).cell (i := 1) (v := .string t) rfl
          have k2 := (unhide B5).cell (i := 2) (v := .int .i32 0) rfl
          have k3 := (unhide B5).cell (i := 3) (v := .int .i64 0) rfl
          have k4 := (unhide B5).cell (i := 4) (v := .int .i64 0) rfl
          refine bodyPost_ret (v := .tuple #[.agg #[.int .i64 4, .string t, .int .i32 0, .int .i64 0, .int .i64 0], .int .i64 0]) (by simp [results, Tryd.results25, go_sem, k0, k1, k2, k3, k4]) rfl ?_
          rw [unhide HSG2, unhide HSE2]
          rw [show s.extract i (i + (4, 2).2) = t from (unhide HTX).trans (unhide HTT).symm]
          exact Told.good (p := (0, 0)) (extSet (extSet (extSet (extSet (extSet (unhide X) (Nat.le_refl _)) (Nat.le_refl _)) (Nat.le_refl _)) (Nat.le_refl _)) (Nat.le_refl _))
        · have hno2 : Hid (noTwo s[i] d (k + 1)) := hide (fun m hm => by
            by_cases hmk : m < k
            · exact unhide hno m hmk
            · have : m = k := by omega
              subst this
              exact he)
          by_cases he1 : s[i] = twx k
          · have he2 : ¬ d = twy k := fun h => he ⟨he1, h⟩
            have hcc : ((s[i].toNat : Int) == (t[0].toNat : Int)) = true := by rw [(unhide HT').1, he1]; simp
            have hdd : ((d.toNat : Int) == (t[1].toNat : Int)) = false := by rw [u8beq, (unhide HT').2.1]; simpa using he2
            clear he he1 he2 HY HT'
            go_wp2_with fail
            go_quiet (first | (go_at_call 55; refine Calls.quiet_of_same (unhide HAT _)))
            go_wp2
            refine ⟨⟨k + 1, by omega, rfl, hide ⟨(unhide HB).1.trans ((Ext.refl _).drewN nq), (unhide HB).2.ext ((Ext.refl _).drewN nq)⟩, hno2⟩, ?_⟩
            simp [intOf]
            omega
          · have hcc : ((s[i].toNat : Int) == (t[0].toNat : Int)) = false := by rw [u8beq, (unhide HT').1]; simpa using he1
            clear he he1 HY HT'
            go_wp2_with fail
            go_quiet (first | (go_at_call 55; refine Calls.quiet_of_same (unhide HAT _)))
            go_wp2
            refine ⟨⟨k + 1, by omega, rfl, hide ⟨(unhide HB).1.trans ((Ext.refl _).drewN nq), (unhide HB).2.ext ((Ext.refl _).drewN nq)⟩, hno2⟩, ?_⟩
            simp [intOf]
            omega
      · have hk13 : k = 13 := by omega
        subst hk13
        have hit : ¬ isTwo (s.data.toList.drop i) = true := fun h => by
          obtain ⟨k, hk, h1, h2⟩ := (unhide HT).1 h
          exact unhide hno k hk ⟨(unhide HAG).symm.trans h1, h2⟩
        have hbeg : begN isOne (s.data.toList.drop i) = isOne s[i] := begN_at isOne s i hi
        have HSG1 := hide (show sg = if isOne s[i] = true then (4, 1) else (-2, 1) by rw [← unhide HSG]; unfold signP; rw [if_neg hit, hbeg])
        have HSE1 := hide (show se = if isOne s[i] = true then (0, 0) else (0, 200) by rw [← unhide HSE]; unfold signE signP; rw [if_neg hit, hbeg]; cases isOne s[i] <;> rfl)
        clear hit hbeg
        generalize isOne s[i] = o at *
        go_wp2_with fail
        refine (unhide HO _).mono ?_
        rintro e w3 ⟨rfl, hx3⟩
        clear HO
        have B3 := (unhide HB).2.ext hx3
        have g0 := B3.cell (i := 0) rfl
        have g1 := B3.cell (i := 1) rfl
        have g2 := B3.cell (i := 2) rfl
        have g3 := B3.cell (i := 3) rfl
        have g4 := B3.cell (i := 4) rfl
        have fz := fun i => B3.free i
        have X := hide ((unhide HB).1.trans hx3)
        have B := hide B3
        clear hx3 B3
        cases o with
        | true =>
          have HSG2 := hide (show sg = (4, 1) from unhide HSG1)
          have HSE2 := hide (show se = (0, 0) from unhide HSE1)
          go_wp2
          have B5 := hide ((((((unhide B).set 0 (.int .i64 4)).set 1 (.string (s.extract i (i + 1)))).set 2 (.int .i32 0)).set 3 (.int .i64 0)).set 4 (.int .i64 0))
          have k0 := (unhide B5).cell (i := 0) (v := .int .i64 4) rfl
          have k1 := (unhide B5).cell (i := 1) (v := .string (s.extract i (i + 1))) rfl
          have k2 := (unhide B5).cell (i := 2) (v := .int .i32 0) rfl
          have k3 := (unhide B5).cell (i := 3) (v := .int .i64 0) rfl
          have k4 := (unhide B5).cell (i := 4) (v := .int .i64 0) rfl
          refine bodyPost_ret (v := .tuple #[.agg #[.int .i64 4, .string (s.extract i (i + 1)), .int .i32 0, .int .i64 0, .int .i64 0], .int .i64 0]) (by simp [results, Tryd.results25, go_sem, k0, k1, k2, k3, k4]) rfl ?_
          rw [unhide HSG2, unhide HSE2]
          exact Told.good (p := (0, 0)) (extSet (extSet (extSet (extSet (extSet (unhide X) (Nat.le_refl _)) (Nat.le_refl _)) (Nat.le_refl _)) (Nat.le_refl _)) (Nat.le_refl _))
        | false =>
          have HSE2 := hide (show se = (0, 200) from unhide HSE1)
          go_wp2
          have B5 := hide ((((((unhide B).set 0 (.int .i64 0)).set 1 (.string ⟨#[]⟩)).set 2 (.int .i32 0)).set 3 (.int .i64 0)).set 4 (.int .i64 0))
          have k0 := (unhide B5).cell (i := 0) (v := .int .i64 0) rfl
          have k1 := (unhide B5).cell (i := 1) (v := .string ⟨#[]⟩) rfl
          have k2 := (unhide B5).cell (i := 2) (v := .int .i32 0) rfl
          have k3 := (unhide B5).cell (i := 3) (v := .int .i64 0) rfl
          have k4 := (unhide B5).cell (i := 4) (v := .int .i64 0) rfl
          refine bodyPost_ret (v := .tuple #[.agg #[.int .i64 0, .string ⟨#[]⟩, .int .i32 0, .int .i64 0, .int .i64 0], .int .i64 200]) (by simp [results, Tryd.results25, go_sem, k0, k1, k2, k3, k4]) rfl ?_
          rw [unhide HSE2]
          exact Told.bad (p := (0, 200)) (by decide) (extSet (extSet (extSet (extSet (extSet (unhide X) (Nat.le_refl _)) (Nat.le_refl _)) (Nat.le_refl _)) (Nat.le_refl _)) (Nat.le_refl _))
  case true =>
    rw [hb] at hc46 hpt
    rw [Bool.true_and] at hpt
    rw [hpt] at HD2
    clear hpt
    go_wp2_with fail
    refine (unhide HAT _).mono ?_
    rintro e w1 ⟨rfl, rfl⟩
    go_wp2_with fail
    refine (unhide HD2 _).mono ?_
    rintro e w1 ⟨rfl, rfl⟩
    clear HD2
    go_wp2_with fail
    refine (unhide HTW _).mono ?_
    rintro e w2 ⟨rfl, hx2⟩
    clear HTW
    have HB := hide (And.intro (((Ext.refl w).alloc _).trans hx2) ((Blk.new w #[.int .i64 0, .string ⟨#[]⟩, .int .i32 0, .int .i64 0, .int .i64 0] 33).ext hx2))
    clear hx2
    go_wp2_with fail
    go_loopw [155] (fun kv wr => ∃ k : Nat, k ≤ 13 ∧ kv = .int .i64 (k : Int) ∧ Hid (Ext w wr ∧ Blk wr w.heap.size #[.int .i64 0, .string ⟨#[]⟩, .int .i32 0, .int .i64 0, .int .i64 0] 33) ∧ Hid (noTwo s[i] d k)) (fun kv _ => 13 - (intOf kv).toNat)
    case atStart => exact ⟨0, by omega, rfl, HB, hide (fun m hm => absurd hm (by omega))⟩
    case round =>
      clear HB
      obtain ⟨k, hk, rfl, HB, hno⟩ := hrel
      by_cases hlt : k < 13
      · obtain ⟨t, ht0, ht1, hT, htw⟩ := two_text k hlt
        have ht1' : (1 : Int) < (t.size : Int) := by omega
        have hix := fun W => htw W
        clear htw
        have HT' := hide hT
        clear hT
        have HY := hide (twy_ne k hlt)
        by_cases he : s[i] = twx k ∧ d = twy k
        · have hit := (unhide HT).2 ⟨k, hlt, (unhide HAG).trans he.1, he.2⟩
          have HSG2 := hide (show sg = (4, 2) by rw [← unhide HSG]; unfold signP; rw [if_pos hit])
          have HSE2 := hide (show se = (0, 0) by rw [← unhide HSE]; unfold signE signP; rw [if_pos hit]; rfl)
          have hdn : d ≠ 0 := he.2 ▸ unhide HY
          have HTX := hide (extract_two s i d hi (unhide HDD) hdn)
          have e0 := he.1.trans (unhide HT').1.symm
          have e1 := he.2.trans (unhide HT').2.1.symm
          have HTT := hide (show t = ⟨#[s[i], d]⟩ by rw [(unhide HT').2.2, ← he.1, ← he.2])
          have hcc : ((s[i].toNat : Int) == (t[0].toNat : Int)) = true := by rw [e0]; simp
          have hdd : ((d.toNat : Int) == (t[1].toNat : Int)) = true := by rw [← e1]; simp
          clear hit he hdn e0 e1
          go_wp2_with fail
          go_quiet (first | (go_at_call 55; refine Calls.quiet_of_same (unhide HAT _)))
          have B2 := (unhide HB).2.ext ((Ext.refl _).drewN nq)
          have g0 := B2.cell (i := 0) rfl
          have g1 := B2.cell (i := 1) rfl
          have g2 := B2.cell (i := 2) rfl
          have g3 := B2.cell (i := 3) rfl
          have g4 := B2.cell (i := 4) rfl
          have fz := fun i => B2.free i
          have X := hide ((unhide HB).1.trans ((Ext.refl _).drewN nq))
          have B := hide B2
          clear B2
          go_wp2
          have B5 := hide ((((((unhide B).set 0 (.int .i64 4)).set 1 (.string t)).set 2 (.int .i32 0)).set 3 (.int .i64 0)).set 4 (.int .i64 0))
          have k0 := (unhide B5).cell (i := 0) (v := .int .i64 4) rfl
          have k1 := (unhide B5).cell (i := 1) (v := .string t) rfl
          have k2 := (unhide B5).cell (i := 2) (v := .int .i32 0) rfl
          have k3 := (unhide B5).cell (i := 3) (v := .int .i64 0) rfl
          have k4 := (unhide B5).cell (i := 4) (v := .int .i64 0) rfl
          refine bodyPost_ret (v := .tuple #[.agg #[.int .i64 4, .string t, .int .i32 0, .int .i64 0, .int .i64 0], .int .i64 0]) (by simp [results, Tryd.results25, go_sem, k0, k1, k2, k3, k4]) rfl ?_
          rw [unhide HSG2, unhide HSE2]
          rw [show s.extract i (i + (4, 2).2) = t from (unhide HTX).trans (unhide HTT).symm]
          exact Told.good (p := (0, 0)) (extSet (extSet (extSet (extSet (extSet (unhide X) (Nat.le_refl _)) (Nat.le_refl _)) (Nat.le_refl _)) (Nat.le_refl _)) (Nat.le_refl _))
        · have hno2 : Hid (noTwo s[i] d (k + 1)) := hide (fun m hm => by
            by_cases hmk : m < k
            · exact unhide hno m hmk
            · have : m = k := by omega
              subst this
              exact he)
          by_cases he1 : s[i] = twx k
          · have he2 : ¬ d = twy k := fun h => he ⟨he1, h⟩
            have hcc : ((s[i].toNat : Int) == (t[0].toNat : Int)) = true := by rw [(unhide HT').1, he1]; simp
            have hdd : ((d.toNat : Int) == (t[1].toNat : Int)) = false := by rw [u8beq, (unhide HT').2.1]; simpa using he2
            clear he he1 he2 HY HT'
            go_wp2_with fail
            go_quiet (first | (go_at_call 55; refine Calls.quiet_of_same (unhide HAT _)))
            go_wp2
            refine ⟨⟨k + 1, by omega, rfl, hide ⟨(unhide HB).1.trans ((Ext.refl _).drewN nq), (unhide HB).2.ext ((Ext.refl _).drewN nq)⟩, hno2⟩, ?_⟩
            simp [intOf]
            omega
          · have hcc : ((s[i].toNat : Int) == (t[0].toNat : Int)) = false := by rw [u8beq, (unhide HT').1]; simpa using he1
            clear he he1 HY HT'
            go_wp2_with fail
            go_quiet (first | (go_at_call 55; refine Calls.quiet_of_same (unhide HAT _)))
            go_wp2
            refine ⟨⟨k + 1, by omega, rfl, hide ⟨(unhide HB).1.trans ((Ext.refl _).drewN nq), (unhide HB).2.ext ((Ext.refl _).drewN nq)⟩, hno2⟩, ?_⟩
            simp [intOf]
            omega
      · have hk13 : k = 13 := by omega
        subst hk13
        have hit : ¬ isTwo (s.data.toList.drop i) = true := fun h => by
          obtain ⟨k, hk, h1, h2⟩ := (unhide HT).1 h
          exact unhide hno k hk ⟨(unhide HAG).symm.trans h1, h2⟩
        have hbeg : begN isOne (s.data.toList.drop i) = isOne s[i] := begN_at isOne s i hi
        have HSG1 := hide (show sg = if isOne s[i] = true then (4, 1) else (-2, 1) by rw [← unhide HSG]; unfold signP; rw [if_neg hit, hbeg])
        have HSE1 := hide (show se = if isOne s[i] = true then (0, 0) else (0, 200) by rw [← unhide HSE]; unfold signE signP; rw [if_neg hit, hbeg]; cases isOne s[i] <;> rfl)
        clear hit hbeg
        generalize isOne s[i] = o at *
        go_wp2_with fail
        refine (unhide HO _).mono ?_
        rintro e w3 ⟨rfl, hx3⟩
        clear HO
        have B3 := (unhide HB).2.ext hx3
        have g0 := B3.cell (i := 0) rfl
        have g1 := B3.cell (i := 1) rfl
        have g2 := B3.cell (i := 2) rfl
        have g3 := B3.cell (i := 3) rfl
        have g4 := B3.cell (i := 4) rfl
        have fz := fun i => B3.free i
        have X := hide ((unhide HB).1.trans hx3)
        have B := hide B3
        clear hx3 B3
        cases o with
        | true =>
          have HSG2 := hide (show sg = (4, 1) from unhide HSG1)
          have HSE2 := hide (show se = (0, 0) from unhide HSE1)
          go_wp2
          have B5 := hide ((((((unhide B).set 0 (.int .i64 4)).set 1 (.string (s.extract i (i + 1)))).set 2 (.int .i32 0)).set 3 (.int .i64 0)).set 4 (.int .i64 0))
          have k0 := (unhide B5).cell (i := 0) (v := .int .i64 4) rfl
          have k1 := (unhide B5).cell (i := 1) (v := .string (s.extract i (i + 1))) rfl
          have k2 := (unhide B5).cell (i := 2) (v := .int .i32 0) rfl
          have k3 := (unhide B5).cell (i := 3) (v := .int .i64 0) rfl
          have k4 := (unhide B5).cell (i := 4) (v := .int .i64 0) rfl
          refine bodyPost_ret (v := .tuple #[.agg #[.int .i64 4, .string (s.extract i (i + 1)), .int .i32 0, .int .i64 0, .int .i64 0], .int .i64 0]) (by simp [results, Tryd.results25, go_sem, k0, k1, k2, k3, k4]) rfl ?_
          rw [unhide HSG2, unhide HSE2]
          exact Told.good (p := (0, 0)) (extSet (extSet (extSet (extSet (extSet (unhide X) (Nat.le_refl _)) (Nat.le_refl _)) (Nat.le_refl _)) (Nat.le_refl _)) (Nat.le_refl _))
        | false =>
          have HSE2 := hide (show se = (0, 200) from unhide HSE1)
          go_wp2
          have B5 := hide ((((((unhide B).set 0 (.int .i64 0)).set 1 (.string ⟨#[]⟩)).set 2 (.int .i32 0)).set 3 (.int .i64 0)).set 4 (.int .i64 0))
          have k0 := (unhide B5).cell (i := 0) (v := .int .i64 0) rfl
          have k1 := (unhide B5).cell (i := 1) (v := .string ⟨#[]⟩) rfl
          have k2 := (unhide B5).cell (i := 2) (v := .int .i32 0) rfl
          have k3 := (unhide B5).cell (i := 3) (v := .int .i64 0) rfl
          have k4 := (unhide B5).cell (i := 4) (v := .int .i64 0) rfl
          refine bodyPost_ret (v := .tuple #[.agg #[.int .i64 0, .string ⟨#[]⟩, .int .i32 0, .int .i64 0, .int .i64 0], .int .i64 200]) (by simp [results, Tryd.results25, go_sem, k0, k1, k2, k3, k4]) rfl ?_
          rw [unhide HSE2]
          exact Told.bad (p := (0, 200)) (by decide) (extSet (extSet (extSet (extSet (extSet (unhide X) (Nat.le_refl _)) (Nat.le_refl _)) (Nat.le_refl _)) (Nat.le_refl _)) (Nat.le_refl _))
end Go.Proofs.YtdcamcpffiilbaaDoor
