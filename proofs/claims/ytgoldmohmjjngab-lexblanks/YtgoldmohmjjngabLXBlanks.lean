/-
  LexBlanks: blanks ahead of a token change no token; for every text, place and blanks.
-/
import Derived.Test.YtgoldmohmjjngabXS
import Derived.Test.YtgoldmohmjjngabXT1
import Derived.Test.YtgoldmohmjjngabXG
import Derived.Test.YtgoldmohmjjngabFrH
import Derived.Deep.QuietTactic
import Derived.BigQuiet
import Derived.Deep.RegionHeld3
import Derived.Laws.Concat
import Derived.ChangeMaps5
namespace Go.Proofs.Ytgoldmohmjjngab
open Go.ChangeShapes Go.WideShapes Go.ChangeAt Go.RowKit
open Go.ChangeMaps (open_string)
set_option linter.unusedSimpArgs false
set_option linter.unusedVariables false

theorem shortB_any (s : ByteArray) (w : World) : Calls Try.prog 5 #[.string s] w fun e w' => e = .returned (.string (s.extract 0 (min s.size 8193))) ∧ w' = w := by
  have hmn : (min (s.size : Int) 8193).toNat = min s.size 8193 := by omega
  go_enter Try.func5, Try.ntmps5
  go_wp2
  go_ret
  exact ⟨rfl, rfl⟩
theorem lexP_one {l : Byts8} (h : l.length ≤ 8192) : lexP l = lexA l 0 0 0 := by unfold lexP; rw [if_neg (by omega)]
/-- The answer for a text with blanks put ahead of a token. -/
theorem blanks_told {l more : Byts8} {ts : List Tok} {r : Int} (h : lexP l = (ts, 0, r)) (hm : ∀ b ∈ more, isBl b = true) (hmn : more ≠ []) (j kk : Nat) (hj : j < ts.length) (hk : ts[j].place = kk) :
    (lexP (l.take kk ++ (more ++ l.drop kk))).2.1 = (if 8192 < l.length + more.length then 3 else 0) ∧ (l.length + more.length ≤ 8192 → keys (lexP (l.take kk ++ (more ++ l.drop kk))).1 = keys ts) ∧ kk < l.length := by
  have hl : l.length ≤ 8192 := by
    refine Nat.le_of_not_lt fun h2 => ?_
    unfold lexP at h
    rw [if_pos h2] at h
    simp at h
  rw [lexP_one hl] at h
  have hr : r = 0 := by
    have := (lexA_form l 0 0 0).1
    rw [h] at this
    exact this rfl
  subst hr
  have hin := place_in l.length l 0 0 0 ts (Nat.le_refl _) h ts[j] (List.getElem_mem hj)
  have hlen : (l.take kk ++ (more ++ l.drop kk)).length = l.length + more.length := by
    rw [List.length_append, List.length_append, List.length_take, List.length_drop]
    omega
  have hI := ins hm hmn l.length l 0 0 0 ts (Nat.le_refl _) h j kk hj (by rw [hk]; omega) 0 0
  refine ⟨?_, fun h8 => ?_, by omega⟩
  · by_cases h8 : 8192 < l.length + more.length
    · unfold lexP
      rw [hlen, if_pos h8, if_pos h8]
    · rw [if_neg h8, lexP_one (by rw [hlen]; omega)]
      exact hI.1
  · rw [lexP_one (by rw [hlen]; omega)]
    exact hI.2

theorem dataApp (a b : ByteArray) : (a ++ b).data.toList = a.data.toList ++ b.data.toList := by
  rw [ByteArray.data_append, Array.toList_append]
theorem wrapU (n : Int) : IntKind.u64.wrap n = n % 18446744073709551616 := by
  simp [IntKind.wrap, IntKind.bits, IntKind.signed]
set_option maxHeartbeats 4000000 in
set_option maxRecDepth 100000 in
theorem lexBlanks_any (s0 : ByteArray) (at0 : Int) (bs : List Int) (bo : Option Addr) (bcap : Nat) (W : World) (m : Int) (hm : W.cell? ⟨0, 0, none⟩ = some (.int .i64 m)) (hbs : Byt bs) (hrow : Row .u8 W (.slice bo bs.length bcap) bs) :
    Calls Try.prog 3 #[.string s0, .int .i64 at0, .slice bo bs.length bcap] W fun e w' => e = .returned (.bool true) ∧ Ext W w' := by
  have HM := hide hm
  have HRW := hide hrow
  clear hm hrow
  obtain ⟨i0, hi, hz0, hz1, hz2⟩ := info_parts3 infoB
  have hsz : (s0.extract 0 (min s0.size 8193)).size ≤ 8193 := by rw [ByteArray.size_extract]; omega
  go_enter Try.func3, Try.ntmps3
  go_wp2_with fail
  refine (lexWakes_any W m (unhide HM)).mono ?_
  rintro e w1 ⟨rfl, hx1⟩
  have HM1 := hide (keepM (unhide HM) hx1)
  have X1 := hide hx1
  clear HM hx1
  go_wp2_with fail
  refine (shortB_any s0 w1).mono ?_
  rintro e w2 ⟨rfl, rfl⟩
  generalize s0.extract 0 (min s0.size 8193) = s at *
  have hl := list_size s
  go_wp2_with fail
  refine (lex_any s w2 m (unhide HM1)).mono ?_
  rintro e w3 ⟨ao, cap, rfl, hO, hx3⟩
  obtain ⟨R, hR⟩ : ∃ R, lexP s.data.toList = R := ⟨_, rfl⟩
  rw [hR] at hO ⊢
  obtain ⟨L, r1, r2⟩ := R
  simp only at hO ⊢
  have hx4 := hx3.alloc (.cells #[.int .i64 r1, .int .i64 r2] 28)
  have HM4 := hide (keepM (unhide HM1) hx4)
  have X4 := hide ((unhide X1).trans hx4)
  have HT4 := hide ((TO.tr hO).ext ((Ext.refl w3).alloc (.cells #[.int .i64 r1, .int .i64 r2] 28)))
  have HR := hide hR
  clear hO hx3 hx4 HM1 X1 hR
  by_cases he : r1 = 0
  · subst he
    by_cases hL0 : L.length = 0
    · have hL0' : ((L.length : Int) == 0) = true := by rw [hL0]; rfl
      go_wp2
      go_ret
      exact ⟨rfl, unhide X4⟩
    · have hL0' : ((L.length : Int) == 0) = false := beq_eq_false_iff_ne.2 (by omega)
      have hLm : L.length ≤ 2048 := by
        have hs8 : s.data.toList.length ≤ 8192 := by
          refine Nat.le_of_not_lt fun h => ?_
          have := unhide HR
          unfold lexP at this
          rw [if_pos h] at this
          simp at this
        have h0 := unhide HR
        rw [lexP_one hs8] at h0
        have hr : r2 = 0 := by
          have := (lexA_form s.data.toList 0 0 0).1
          rw [h0] at this
          exact this rfl
        subst hr
        have := (alone_all _ s.data.toList 0 0 0 L (Nat.le_refl _) (by omega) h0).2
        omega
      have q1 : IntKind.u64.wrap (L.length : Int) = (L.length : Int) := by rw [wrapU]; omega
      have hu : 0 ≤ IntKind.u64.wrap at0 := by rw [wrapU]; omega
      obtain ⟨j, hjd⟩ : ∃ j : Nat, (j : Int) = (IntKind.u64.wrap at0).tmod (L.length : Int) := ⟨((IntKind.u64.wrap at0).tmod (L.length : Int)).toNat, Int.toNat_of_nonneg (Int.tmod_nonneg _ hu)⟩
      have hj : j < L.length := by
        have := Int.tmod_lt_of_pos (IntKind.u64.wrap at0) (show (0 : Int) < L.length by omega)
        omega
      have q2 := hjd.symm
      have q3 : wrap64 (j : Int) = j := by unfold wrap64; omega
      clear hjd hu
      obtain ⟨b, off, rfl, htk⟩ := (unhide HT4).at j hj
      have c3 := htk.place
      obtain ⟨kk, hkk⟩ : ∃ kk : Nat, L[j].place = kk := by
        have hs8 : s.data.toList.length ≤ 8192 := by
          refine Nat.le_of_not_lt fun h => ?_
          have := unhide HR
          unfold lexP at this
          rw [if_pos h] at this
          simp at this
        have h0 := unhide HR
        rw [lexP_one hs8] at h0
        have hr : r2 = 0 := by
          have := (lexA_form s.data.toList 0 0 0).1
          rw [h0] at this
          exact this rfl
        subst hr
        have := place_in _ s.data.toList 0 0 0 L (Nat.le_refl _) h0 L[j] (List.getElem_mem hj)
        exact ⟨L[j].place.toNat, by omega⟩
      rw [hkk] at c3
      have HKK := hide hkk
      clear htk hkk
      go_wp2
      have hw4 : (w3.alloc (.cells #[.int .i64 0, .int .i64 r2] 28)).heap.size = w3.heap.size + 1 := World.size_alloc _ _
      generalize w3.alloc (.cells #[.int .i64 0, .int .i64 r2] 28) = w4 at HM4 X4 HT4 c3 hw4 ⊢
      have hB0 : BO (w4.alloc (.cells #[.int .u8 32] 5)) w4.heap.size (.slice (some ⟨w3.heap.size + 1, 0, none⟩) 1 1) [32] := by
        rw [← hw4]
        exact ⟨rfl, .inr ⟨w4.heap.size, 1, #[.int .u8 32], rfl, Nat.le_refl _, heap_alloc_new w4 _, Nat.le_refl _, by unfold maxLen; omega, rfl, rfl⟩⟩
      have HB0 := hide hB0
      clear hB0 c3 q1 q2 q3 hw4
      go_loopw [10, 47] (fun mv iv wr => ∃ (i : Nat) (l : Byts8) (ao2 : Option Addr) (cap2 : Nat), i ≤ bs.length ∧ i ≤ 20 ∧ iv = .int .i64 i ∧ mv = .slice ao2 l.length cap2 ∧ BO wr w4.heap.size (.slice ao2 l.length cap2) l ∧ (∀ b ∈ l, isBl b = true) ∧ l ≠ [] ∧ l.length ≤ i + 1 ∧ Ext w4 wr) (fun _ iv _ => bs.length - (intOf iv).toNat)
      case atStart => exact ⟨0, [32], _, 1, by omega, by omega, rfl, rfl, unhide HB0, by simp [isBl], by simp, by simp, (Ext.refl w4).alloc _⟩
      case round =>
        obtain ⟨i, l, ao2, cap2, hib, hi20, rfl, rfl, hB, hbl, hne, hll, hx⟩ := hrel
        have HB := hide hB
        have X := hide hx
        have HBL := hide (And.intro hbl hne)
        clear hB hx hbl hne HB0
        by_cases hlt : i < bs.length
        · have hrw := (unhide HRW).ext ((unhide X4).trans (unhide X))
          obtain ⟨bb, boff, rfl, hcells⟩ := hrw.at i hlt
          have cx := hcells i hlt
          have hxb := hbs bs[i] (List.getElem_mem hlt)
          clear hcells hrw
          generalize bs[i] = x at *
          by_cases h20 : i = 20
          · subst h20
            obtain ⟨htold, hkeys, hkl⟩ := blanks_told (unhide HR) (unhide HBL).1 (unhide HBL).2 j kk hj (unhide HKK)
            rw [hl] at htold hkeys hkl
            have hconv : ∀ wx, Ext wr wx → (convert 22 9 (.slice ao2 l.length cap2)).run Try.prog wx = .ok (.string ⟨l.toArray⟩) wx := fun wx hx => text_of ao2 _ cap2 l wx ((Own.row (unhide HB)).ext hx) rfl
            have z1 : (s.extract 0 kk).size = kk := by rw [ByteArray.size_extract]; omega
            have z2 : (⟨l.toArray⟩ : ByteArray).size = l.length := by simp [ByteArray.size]
            have z3 : (s.extract 0 kk ++ ⟨l.toArray⟩).size = kk + l.length := by rw [ByteArray.size_append, z1, z2]
            have z4 : (s.extract kk s.size).size = s.size - kk := by rw [ByteArray.size_extract]; omega
            go_wp2
            refine wp_region_noPanic ?_
            refine wp_region_held_drew (S := fun wx => Ext wr wx) (by kernel_rfl) ((Ext.refl wr).drew) (fun HS => ?_)
            refine wpAnyH_take (i := 0) (oi := { dst := some 62, op := Op.move (Operand.tmp 0), type := _, pos := _, after := _, guard := none }) (v := .string s) rfl (by kernel_rfl) (by kernel_rfl) (by kernel_rfl) (fun _ _ _ h => h) (Or.inl ⟨by rfl, fun wx hx => by go_simp⟩) HS ?_
            simp only [Act.put, List.setIfInBounds_toArray, List.set_cons_zero, List.set_cons_succ]
            refine wpAnyH_take (i := 1) (oi := { dst := some 63, op := Op.move (Operand.tmp 9), type := _, pos := _, after := _, guard := none }) (v := .int .i64 (kk : Int)) rfl (by kernel_rfl) (by kernel_rfl) (by kernel_rfl) (fun _ _ _ h => h) (Or.inl ⟨by rfl, fun wx hx => by go_simp⟩) HS ?_
            simp only [Act.put, List.setIfInBounds_toArray, List.set_cons_zero, List.set_cons_succ]
            refine wpAnyH_take (i := 2) (oi := { dst := some 64, op := Op.slice 9 (Operand.tmp 62) none (some (Operand.tmp 63)) none, type := _, pos := _, after := _, guard := none }) (v := .string (s.extract 0 kk)) rfl (by kernel_rfl) (by kernel_rfl) (by kernel_rfl) (fun _ _ _ h => h) (Or.inl ⟨by rfl, fun wx hx => by go_simp; intro h; omega⟩) HS ?_
            simp only [Act.put, List.setIfInBounds_toArray, List.set_cons_zero, List.set_cons_succ]
            refine wpAnyH_take (i := 3) (oi := { dst := some 65, op := Op.move (Operand.tmp 10), type := _, pos := _, after := _, guard := none }) (v := .slice ao2 l.length cap2) rfl (by kernel_rfl) (by kernel_rfl) (by kernel_rfl) (fun _ _ _ h => h) (Or.inl ⟨by rfl, fun wx hx => by go_simp⟩) HS ?_
            simp only [Act.put, List.setIfInBounds_toArray, List.set_cons_zero, List.set_cons_succ]
            refine wpAnyH_take (i := 4) (oi := { dst := some 66, op := Op.convert 22 9 (Operand.tmp 65), type := _, pos := _, after := _, guard := none }) (v := .string ⟨l.toArray⟩) rfl (by kernel_rfl) (by kernel_rfl) (by kernel_rfl) (fun _ _ _ h => h) (Or.inl ⟨by rfl, fun wx hx => by have hcv := hconv wx hx; go_simp⟩) HS ?_
            simp only [Act.put, List.setIfInBounds_toArray, List.set_cons_zero, List.set_cons_succ]
            refine wpAnyH_take (i := 5) (oi := { dst := some 67, op := Op.binOp BinOp.add 9 (Operand.tmp 64) (Operand.tmp 66) 9, type := _, pos := _, after := _, guard := none }) (v := .string (s.extract 0 kk ++ ⟨l.toArray⟩)) rfl (by kernel_rfl) (by kernel_rfl) (by kernel_rfl) (fun _ _ _ h => h) (Or.inl ⟨by rfl, fun wx hx => by have hsum := run_string_add_sum (P := Try.prog) (w := wx) (s.extract 0 kk) ⟨l.toArray⟩ (by rw [z1, z2]; omega); go_simp⟩) HS ?_
            simp only [Act.put, List.setIfInBounds_toArray, List.set_cons_zero, List.set_cons_succ]
            refine wpAnyH_take (i := 6) (oi := { dst := some 68, op := Op.move (Operand.tmp 0), type := _, pos := _, after := _, guard := none }) (v := .string s) rfl (by kernel_rfl) (by kernel_rfl) (by kernel_rfl) (fun _ _ _ h => h) (Or.inl ⟨by rfl, fun wx hx => by go_simp⟩) HS ?_
            simp only [Act.put, List.setIfInBounds_toArray, List.set_cons_zero, List.set_cons_succ]
            refine wpAnyH_take (i := 7) (oi := { dst := some 69, op := Op.move (Operand.tmp 9), type := _, pos := _, after := _, guard := none }) (v := .int .i64 (kk : Int)) rfl (by kernel_rfl) (by kernel_rfl) (by kernel_rfl) (fun _ _ _ h => h) (Or.inl ⟨by rfl, fun wx hx => by go_simp⟩) HS ?_
            simp only [Act.put, List.setIfInBounds_toArray, List.set_cons_zero, List.set_cons_succ]
            refine wpAnyH_take (i := 8) (oi := { dst := some 70, op := Op.slice 9 (Operand.tmp 68) (some (Operand.tmp 69)) none none, type := _, pos := _, after := _, guard := none }) (v := .string (s.extract kk s.size)) rfl (by kernel_rfl) (by kernel_rfl) (by kernel_rfl) (fun _ _ _ h => h) (Or.inl ⟨by rfl, fun wx hx => by go_simp; intro h; omega⟩) HS ?_
            simp only [Act.put, List.setIfInBounds_toArray, List.set_cons_zero, List.set_cons_succ]
            refine wpAnyH_take (i := 9) (oi := { dst := some 71, op := Op.binOp BinOp.add 9 (Operand.tmp 67) (Operand.tmp 70) 9, type := _, pos := _, after := _, guard := none }) (v := .string (s.extract 0 kk ++ ⟨l.toArray⟩ ++ s.extract kk s.size)) rfl (by kernel_rfl) (by kernel_rfl) (by kernel_rfl) (fun _ _ _ h => h) (Or.inl ⟨by rfl, fun wx hx => by have hsum := run_string_add_sum (P := Try.prog) (w := wx) (s.extract 0 kk ++ ⟨l.toArray⟩) (s.extract kk s.size) (by rw [z3, z4]; omega); go_simp⟩) HS ?_
            simp only [Act.put, List.setIfInBounds_toArray, List.set_cons_zero, List.set_cons_succ]
            refine wpAnyH_take (i := 10) (oi := { dst := some 13, op := Op.assign (Operand.tmp 71), type := _, pos := _, after := _, guard := none }) (v := .string (s.extract 0 kk ++ ⟨l.toArray⟩ ++ s.extract kk s.size)) rfl (by kernel_rfl) (by kernel_rfl) (by kernel_rfl) (fun _ _ _ h => h) (Or.inl ⟨by rfl, fun wx hx => by go_simp⟩) HS ?_
            simp only [Act.put, List.setIfInBounds_toArray, List.set_cons_zero, List.set_cons_succ]
            refine wpAnyH_done (by kernel_rfl) ?_ _
            refine NoPanic.normal ?_
            have XE := hide HS
            clear HS hconv
            generalize wr.drew = wE at XE ⊢
            have hTd : (s.extract 0 kk ++ ⟨l.toArray⟩ ++ s.extract kk s.size).data.toList = s.data.toList.take kk ++ (l ++ s.data.toList.drop kk) := by rw [dataApp, dataApp, ext_list2, Lib.extract_data, List.drop_zero, Nat.sub_zero, List.append_assoc]
            have hTs : (s.extract 0 kk ++ ⟨l.toArray⟩ ++ s.extract kk s.size).size = s.size + l.length := by rw [ByteArray.size_append, z3, z4]; omega
            have HLx := lex_any (s.extract 0 kk ++ ⟨l.toArray⟩ ++ s.extract kk s.size) wE m (keepM (unhide HM4) ((unhide X).trans (unhide XE)))
            rw [hTd] at HLx
            generalize lexP (s.data.toList.take kk ++ (l ++ s.data.toList.drop kk)) = R2 at *
            obtain ⟨L2, e1, e2⟩ := R2
            simp only at htold hkeys
            have HLq := hide HLx
            have HKy := hide hkeys
            generalize s.extract 0 kk ++ ⟨l.toArray⟩ ++ s.extract kk s.size = sT at *
            have HTd := hide hTd
            clear HLx hkeys hTd z1 z2 z3 z4
            have HT4e := hide ((unhide HT4).ext ((unhide X).trans (unhide XE)))
            go_wp2_with fail
            refine (unhide HLq).mono ?_
            rintro e wF ⟨aoF, capF, rfl, hOF, hxF⟩
            have hxF2 := hxF.alloc (.cells #[.int .i64 e1, .int .i64 e2] 28)
            have HTL := hide ((unhide HT4e).ext hxF2)
            have HTM := hide ((TO.tr hOF).ext ((Ext.refl wF).alloc (.cells #[.int .i64 e1, .int .i64 e2] 28)))
            have XF := hide ((unhide X4).trans (((unhide X).trans (unhide XE)).trans hxF2))
            clear hOF hxF hxF2 HLq
            by_cases h8 : 8192 < s.size + l.length
            · rw [if_pos h8] at htold
              subst htold
              have d8 : decide ((8192 : Int) < (sT.size : Int)) = true := by rw [hTs]; simp; omega
              go_wp2
              go_ret
              exact ⟨rfl, unhide XF⟩
            · rw [if_neg h8] at htold
              subst htold
              have d8 : decide ((8192 : Int) < (sT.size : Int)) = false := by rw [hTs]; simp; omega
              have hsame : sameK L L2 = true := by unfold sameK; exact decide_eq_true (unhide HKy (by omega)).symm
              have HSM := hide (same_any L L2 _ _ cap capF _ (unhide HTL) (unhide HTM))
              rw [hsame] at HSM
              go_wp2_with fail
              refine (unhide HSM).mono ?_
              rintro e wG ⟨rfl, hxG⟩
              go_wp2
              go_ret
              exact ⟨rfl, (unhide XF).trans hxG⟩
          have d20 : ((i : Int) == 20) = false := beq_eq_false_iff_ne.2 (by omega)
          have fin : ∀ (v' : Value) (w5 : World) (c : Int) (cc : UInt8), c = (cc.toNat : Int) → isBl cc = true → Own .u8 w5 w4.heap.size 5 v' (num8 l ++ [c]) → (wr.alloc (.cells #[.int .u8 c] 5)).grownBy w5 (Value.slice ao2 l.length cap2).ownBlock → ∃ ao5 cap5, v' = .slice ao5 (l.length + 1) cap5 ∧ (∃ l5 : Byts8, l5.length = l.length + 1 ∧ BO w5 w4.heap.size (.slice ao5 (l.length + 1) cap5) l5 ∧ (∀ b ∈ l5, isBl b = true) ∧ l5 ≠ [] ∧ Ext w4 w5) := by
            intro v' w5 c cc hc hcb hO hg
            have e5 : num8 l ++ [c] = num8 (l ++ [cc]) := by rw [hc]; simp [num8]
            rw [e5] at hO
            have hO2 : BO w5 w4.heap.size v' (l ++ [cc]) := hO
            obtain ⟨ao5, cap5, e6⟩ := hO2.shape
            have hl5 : (l ++ [cc]).length = l.length + 1 := by simp
            rw [hl5] at e6
            subst e6
            refine ⟨ao5, cap5, rfl, l ++ [cc], hl5, hO2, fun b hb => ?_, by simp, ?_⟩
            · rcases List.mem_append.1 hb with hb | hb
              · exact (unhide HBL).1 b hb
              · simp at hb; subst hb; exact hcb
            · exact Below.trans ((unhide X).alloc _) (grown_below hg (Nat.le_trans (unhide X).size (by simp)) (fun g hg2 => (Own.lt (unhide HB) g hg2).1))
          have FIN := hide fin
          clear fin
          have hr6 : x % 6 = 0 ∨ x % 6 = 1 ∨ x % 6 = 2 ∨ x % 6 = 3 ∨ x % 6 = 4 ∨ x % 6 = 5 := by omega
          rcases hr6 with hr6 | hr6 | hr6 | hr6 | hr6 | hr6
          · have q6 : (x : Int).tmod 6 = 0 := by rw [Int.tmod_eq_emod_of_nonneg hxb.1]; exact hr6
            have hix : ∀ w : World, (Instr.index 35 (.agg #[.int .u8 32, .int .u8 9, .int .u8 10, .int .u8 11, .int .u8 12, .int .u8 13]) (.int .u8 0)).run Try.prog w = .ok (.int .u8 32) w := fun w => by kernel_rfl
            clear hr6
            go_wp2_with (at_builtin; refine wpList_append_Own rfl (.tmp 54) (.tmp 59) 22 rfl w4.heap.size 5 i0 .u8 1 Try.underlying22 hi hz0 hz1 hz2 _ (num8 l) rfl ((unhide HB).alloc _) _ [32] rfl (Row.one .u8 wr 32 _) ?c1 ?c2 ?c3 ?_)
            case c1 => rw [num8_len]; unfold maxLen; simp; omega
            case c2 => rw [num8_len]; simp; omega
            case c3 => have := (unhide X).size; simp; omega
            intro v5 w5 hO5 hg5
            obtain ⟨ao5, cap5, rfl, l5, hl5, hB5, hb5, hn5, hx5⟩ := unhide FIN v5 w5 32 32 rfl (by decide) hO5 hg5
            rw [← hl5] at hB5 ⊢
            have HB5 := hide hB5
            have HL5 := hide hl5
            have HN5 := hide (And.intro hb5 (And.intro hn5 hx5))
            clear hO5 hg5 hB5 hb5 hn5 hx5 FIN hl5
            go_wp2
            refine ⟨⟨i + 1, l5, ao5, cap5, by omega, by omega, rfl, rfl, unhide HB5, (unhide HN5).1, (unhide HN5).2.1, by rw [unhide HL5]; omega, (unhide HN5).2.2⟩, ?_⟩
            simp [intOf]
            omega
          · have q6 : (x : Int).tmod 6 = 1 := by rw [Int.tmod_eq_emod_of_nonneg hxb.1]; exact hr6
            have hix : ∀ w : World, (Instr.index 35 (.agg #[.int .u8 32, .int .u8 9, .int .u8 10, .int .u8 11, .int .u8 12, .int .u8 13]) (.int .u8 1)).run Try.prog w = .ok (.int .u8 9) w := fun w => by kernel_rfl
            clear hr6
            go_wp2_with (at_builtin; refine wpList_append_Own rfl (.tmp 54) (.tmp 59) 22 rfl w4.heap.size 5 i0 .u8 1 Try.underlying22 hi hz0 hz1 hz2 _ (num8 l) rfl ((unhide HB).alloc _) _ [9] rfl (Row.one .u8 wr 9 _) ?c1 ?c2 ?c3 ?_)
            case c1 => rw [num8_len]; unfold maxLen; simp; omega
            case c2 => rw [num8_len]; simp; omega
            case c3 => have := (unhide X).size; simp; omega
            intro v5 w5 hO5 hg5
            obtain ⟨ao5, cap5, rfl, l5, hl5, hB5, hb5, hn5, hx5⟩ := unhide FIN v5 w5 9 9 rfl (by decide) hO5 hg5
            rw [← hl5] at hB5 ⊢
            have HB5 := hide hB5
            have HL5 := hide hl5
            have HN5 := hide (And.intro hb5 (And.intro hn5 hx5))
            clear hO5 hg5 hB5 hb5 hn5 hx5 FIN hl5
            go_wp2
            refine ⟨⟨i + 1, l5, ao5, cap5, by omega, by omega, rfl, rfl, unhide HB5, (unhide HN5).1, (unhide HN5).2.1, by rw [unhide HL5]; omega, (unhide HN5).2.2⟩, ?_⟩
            simp [intOf]
            omega
          · have q6 : (x : Int).tmod 6 = 2 := by rw [Int.tmod_eq_emod_of_nonneg hxb.1]; exact hr6
            have hix : ∀ w : World, (Instr.index 35 (.agg #[.int .u8 32, .int .u8 9, .int .u8 10, .int .u8 11, .int .u8 12, .int .u8 13]) (.int .u8 2)).run Try.prog w = .ok (.int .u8 10) w := fun w => by kernel_rfl
            clear hr6
            go_wp2_with (at_builtin; refine wpList_append_Own rfl (.tmp 54) (.tmp 59) 22 rfl w4.heap.size 5 i0 .u8 1 Try.underlying22 hi hz0 hz1 hz2 _ (num8 l) rfl ((unhide HB).alloc _) _ [10] rfl (Row.one .u8 wr 10 _) ?c1 ?c2 ?c3 ?_)
            case c1 => rw [num8_len]; unfold maxLen; simp; omega
            case c2 => rw [num8_len]; simp; omega
            case c3 => have := (unhide X).size; simp; omega
            intro v5 w5 hO5 hg5
            obtain ⟨ao5, cap5, rfl, l5, hl5, hB5, hb5, hn5, hx5⟩ := unhide FIN v5 w5 10 10 rfl (by decide) hO5 hg5
            rw [← hl5] at hB5 ⊢
            have HB5 := hide hB5
            have HL5 := hide hl5
            have HN5 := hide (And.intro hb5 (And.intro hn5 hx5))
            clear hO5 hg5 hB5 hb5 hn5 hx5 FIN hl5
            go_wp2
            refine ⟨⟨i + 1, l5, ao5, cap5, by omega, by omega, rfl, rfl, unhide HB5, (unhide HN5).1, (unhide HN5).2.1, by rw [unhide HL5]; omega, (unhide HN5).2.2⟩, ?_⟩
            simp [intOf]
            omega
          · have q6 : (x : Int).tmod 6 = 3 := by rw [Int.tmod_eq_emod_of_nonneg hxb.1]; exact hr6
            have hix : ∀ w : World, (Instr.index 35 (.agg #[.int .u8 32, .int .u8 9, .int .u8 10, .int .u8 11, .int .u8 12, .int .u8 13]) (.int .u8 3)).run Try.prog w = .ok (.int .u8 11) w := fun w => by kernel_rfl
            clear hr6
            go_wp2_with (at_builtin; refine wpList_append_Own rfl (.tmp 54) (.tmp 59) 22 rfl w4.heap.size 5 i0 .u8 1 Try.underlying22 hi hz0 hz1 hz2 _ (num8 l) rfl ((unhide HB).alloc _) _ [11] rfl (Row.one .u8 wr 11 _) ?c1 ?c2 ?c3 ?_)
            case c1 => rw [num8_len]; unfold maxLen; simp; omega
            case c2 => rw [num8_len]; simp; omega
            case c3 => have := (unhide X).size; simp; omega
            intro v5 w5 hO5 hg5
            obtain ⟨ao5, cap5, rfl, l5, hl5, hB5, hb5, hn5, hx5⟩ := unhide FIN v5 w5 11 11 rfl (by decide) hO5 hg5
            rw [← hl5] at hB5 ⊢
            have HB5 := hide hB5
            have HL5 := hide hl5
            have HN5 := hide (And.intro hb5 (And.intro hn5 hx5))
            clear hO5 hg5 hB5 hb5 hn5 hx5 FIN hl5
            go_wp2
            refine ⟨⟨i + 1, l5, ao5, cap5, by omega, by omega, rfl, rfl, unhide HB5, (unhide HN5).1, (unhide HN5).2.1, by rw [unhide HL5]; omega, (unhide HN5).2.2⟩, ?_⟩
            simp [intOf]
            omega
          · have q6 : (x : Int).tmod 6 = 4 := by rw [Int.tmod_eq_emod_of_nonneg hxb.1]; exact hr6
            have hix : ∀ w : World, (Instr.index 35 (.agg #[.int .u8 32, .int .u8 9, .int .u8 10, .int .u8 11, .int .u8 12, .int .u8 13]) (.int .u8 4)).run Try.prog w = .ok (.int .u8 12) w := fun w => by kernel_rfl
            clear hr6
            go_wp2_with (at_builtin; refine wpList_append_Own rfl (.tmp 54) (.tmp 59) 22 rfl w4.heap.size 5 i0 .u8 1 Try.underlying22 hi hz0 hz1 hz2 _ (num8 l) rfl ((unhide HB).alloc _) _ [12] rfl (Row.one .u8 wr 12 _) ?c1 ?c2 ?c3 ?_)
            case c1 => rw [num8_len]; unfold maxLen; simp; omega
            case c2 => rw [num8_len]; simp; omega
            case c3 => have := (unhide X).size; simp; omega
            intro v5 w5 hO5 hg5
            obtain ⟨ao5, cap5, rfl, l5, hl5, hB5, hb5, hn5, hx5⟩ := unhide FIN v5 w5 12 12 rfl (by decide) hO5 hg5
            rw [← hl5] at hB5 ⊢
            have HB5 := hide hB5
            have HL5 := hide hl5
            have HN5 := hide (And.intro hb5 (And.intro hn5 hx5))
            clear hO5 hg5 hB5 hb5 hn5 hx5 FIN hl5
            go_wp2
            refine ⟨⟨i + 1, l5, ao5, cap5, by omega, by omega, rfl, rfl, unhide HB5, (unhide HN5).1, (unhide HN5).2.1, by rw [unhide HL5]; omega, (unhide HN5).2.2⟩, ?_⟩
            simp [intOf]
            omega
          · have q6 : (x : Int).tmod 6 = 5 := by rw [Int.tmod_eq_emod_of_nonneg hxb.1]; exact hr6
            have hix : ∀ w : World, (Instr.index 35 (.agg #[.int .u8 32, .int .u8 9, .int .u8 10, .int .u8 11, .int .u8 12, .int .u8 13]) (.int .u8 5)).run Try.prog w = .ok (.int .u8 13) w := fun w => by kernel_rfl
            clear hr6
            go_wp2_with (at_builtin; refine wpList_append_Own rfl (.tmp 54) (.tmp 59) 22 rfl w4.heap.size 5 i0 .u8 1 Try.underlying22 hi hz0 hz1 hz2 _ (num8 l) rfl ((unhide HB).alloc _) _ [13] rfl (Row.one .u8 wr 13 _) ?c1 ?c2 ?c3 ?_)
            case c1 => rw [num8_len]; unfold maxLen; simp; omega
            case c2 => rw [num8_len]; simp; omega
            case c3 => have := (unhide X).size; simp; omega
            intro v5 w5 hO5 hg5
            obtain ⟨ao5, cap5, rfl, l5, hl5, hB5, hb5, hn5, hx5⟩ := unhide FIN v5 w5 13 13 rfl (by decide) hO5 hg5
            rw [← hl5] at hB5 ⊢
            have HB5 := hide hB5
            have HL5 := hide hl5
            have HN5 := hide (And.intro hb5 (And.intro hn5 hx5))
            clear hO5 hg5 hB5 hb5 hn5 hx5 FIN hl5
            go_wp2
            refine ⟨⟨i + 1, l5, ao5, cap5, by omega, by omega, rfl, rfl, unhide HB5, (unhide HN5).1, (unhide HN5).2.1, by rw [unhide HL5]; omega, (unhide HN5).2.2⟩, ?_⟩
            simp [intOf]
            omega
        · have hie : i = bs.length := by omega
          subst hie
          obtain ⟨htold, hkeys, hkl⟩ := blanks_told (unhide HR) (unhide HBL).1 (unhide HBL).2 j kk hj (unhide HKK)
          rw [hl] at htold hkeys hkl
          have hconv : ∀ wx, Ext wr wx → (convert 22 9 (.slice ao2 l.length cap2)).run Try.prog wx = .ok (.string ⟨l.toArray⟩) wx := fun wx hx => text_of ao2 _ cap2 l wx ((Own.row (unhide HB)).ext hx) rfl
          have z1 : (s.extract 0 kk).size = kk := by rw [ByteArray.size_extract]; omega
          have z2 : (⟨l.toArray⟩ : ByteArray).size = l.length := by simp [ByteArray.size]
          have z3 : (s.extract 0 kk ++ ⟨l.toArray⟩).size = kk + l.length := by rw [ByteArray.size_append, z1, z2]
          have z4 : (s.extract kk s.size).size = s.size - kk := by rw [ByteArray.size_extract]; omega
          go_wp2
          refine wp_region_noPanic ?_
          refine wp_region_held_drew (S := fun wx => Ext wr wx) (by kernel_rfl) ((Ext.refl wr).drew) (fun HS => ?_)
          refine wpAnyH_take (i := 0) (oi := { dst := some 62, op := Op.move (Operand.tmp 0), type := _, pos := _, after := _, guard := none }) (v := .string s) rfl (by kernel_rfl) (by kernel_rfl) (by kernel_rfl) (fun _ _ _ h => h) (Or.inl ⟨by rfl, fun wx hx => by go_simp⟩) HS ?_
          simp only [Act.put, List.setIfInBounds_toArray, List.set_cons_zero, List.set_cons_succ]
          refine wpAnyH_take (i := 1) (oi := { dst := some 63, op := Op.move (Operand.tmp 9), type := _, pos := _, after := _, guard := none }) (v := .int .i64 (kk : Int)) rfl (by kernel_rfl) (by kernel_rfl) (by kernel_rfl) (fun _ _ _ h => h) (Or.inl ⟨by rfl, fun wx hx => by go_simp⟩) HS ?_
          simp only [Act.put, List.setIfInBounds_toArray, List.set_cons_zero, List.set_cons_succ]
          refine wpAnyH_take (i := 2) (oi := { dst := some 64, op := Op.slice 9 (Operand.tmp 62) none (some (Operand.tmp 63)) none, type := _, pos := _, after := _, guard := none }) (v := .string (s.extract 0 kk)) rfl (by kernel_rfl) (by kernel_rfl) (by kernel_rfl) (fun _ _ _ h => h) (Or.inl ⟨by rfl, fun wx hx => by go_simp; intro h; omega⟩) HS ?_
          simp only [Act.put, List.setIfInBounds_toArray, List.set_cons_zero, List.set_cons_succ]
          refine wpAnyH_take (i := 3) (oi := { dst := some 65, op := Op.move (Operand.tmp 10), type := _, pos := _, after := _, guard := none }) (v := .slice ao2 l.length cap2) rfl (by kernel_rfl) (by kernel_rfl) (by kernel_rfl) (fun _ _ _ h => h) (Or.inl ⟨by rfl, fun wx hx => by go_simp⟩) HS ?_
          simp only [Act.put, List.setIfInBounds_toArray, List.set_cons_zero, List.set_cons_succ]
          refine wpAnyH_take (i := 4) (oi := { dst := some 66, op := Op.convert 22 9 (Operand.tmp 65), type := _, pos := _, after := _, guard := none }) (v := .string ⟨l.toArray⟩) rfl (by kernel_rfl) (by kernel_rfl) (by kernel_rfl) (fun _ _ _ h => h) (Or.inl ⟨by rfl, fun wx hx => by have hcv := hconv wx hx; go_simp⟩) HS ?_
          simp only [Act.put, List.setIfInBounds_toArray, List.set_cons_zero, List.set_cons_succ]
          refine wpAnyH_take (i := 5) (oi := { dst := some 67, op := Op.binOp BinOp.add 9 (Operand.tmp 64) (Operand.tmp 66) 9, type := _, pos := _, after := _, guard := none }) (v := .string (s.extract 0 kk ++ ⟨l.toArray⟩)) rfl (by kernel_rfl) (by kernel_rfl) (by kernel_rfl) (fun _ _ _ h => h) (Or.inl ⟨by rfl, fun wx hx => by have hsum := run_string_add_sum (P := Try.prog) (w := wx) (s.extract 0 kk) ⟨l.toArray⟩ (by rw [z1, z2]; omega); go_simp⟩) HS ?_
          simp only [Act.put, List.setIfInBounds_toArray, List.set_cons_zero, List.set_cons_succ]
          refine wpAnyH_take (i := 6) (oi := { dst := some 68, op := Op.move (Operand.tmp 0), type := _, pos := _, after := _, guard := none }) (v := .string s) rfl (by kernel_rfl) (by kernel_rfl) (by kernel_rfl) (fun _ _ _ h => h) (Or.inl ⟨by rfl, fun wx hx => by go_simp⟩) HS ?_
          simp only [Act.put, List.setIfInBounds_toArray, List.set_cons_zero, List.set_cons_succ]
          refine wpAnyH_take (i := 7) (oi := { dst := some 69, op := Op.move (Operand.tmp 9), type := _, pos := _, after := _, guard := none }) (v := .int .i64 (kk : Int)) rfl (by kernel_rfl) (by kernel_rfl) (by kernel_rfl) (fun _ _ _ h => h) (Or.inl ⟨by rfl, fun wx hx => by go_simp⟩) HS ?_
          simp only [Act.put, List.setIfInBounds_toArray, List.set_cons_zero, List.set_cons_succ]
          refine wpAnyH_take (i := 8) (oi := { dst := some 70, op := Op.slice 9 (Operand.tmp 68) (some (Operand.tmp 69)) none none, type := _, pos := _, after := _, guard := none }) (v := .string (s.extract kk s.size)) rfl (by kernel_rfl) (by kernel_rfl) (by kernel_rfl) (fun _ _ _ h => h) (Or.inl ⟨by rfl, fun wx hx => by go_simp; intro h; omega⟩) HS ?_
          simp only [Act.put, List.setIfInBounds_toArray, List.set_cons_zero, List.set_cons_succ]
          refine wpAnyH_take (i := 9) (oi := { dst := some 71, op := Op.binOp BinOp.add 9 (Operand.tmp 67) (Operand.tmp 70) 9, type := _, pos := _, after := _, guard := none }) (v := .string (s.extract 0 kk ++ ⟨l.toArray⟩ ++ s.extract kk s.size)) rfl (by kernel_rfl) (by kernel_rfl) (by kernel_rfl) (fun _ _ _ h => h) (Or.inl ⟨by rfl, fun wx hx => by have hsum := run_string_add_sum (P := Try.prog) (w := wx) (s.extract 0 kk ++ ⟨l.toArray⟩) (s.extract kk s.size) (by rw [z3, z4]; omega); go_simp⟩) HS ?_
          simp only [Act.put, List.setIfInBounds_toArray, List.set_cons_zero, List.set_cons_succ]
          refine wpAnyH_take (i := 10) (oi := { dst := some 13, op := Op.assign (Operand.tmp 71), type := _, pos := _, after := _, guard := none }) (v := .string (s.extract 0 kk ++ ⟨l.toArray⟩ ++ s.extract kk s.size)) rfl (by kernel_rfl) (by kernel_rfl) (by kernel_rfl) (fun _ _ _ h => h) (Or.inl ⟨by rfl, fun wx hx => by go_simp⟩) HS ?_
          simp only [Act.put, List.setIfInBounds_toArray, List.set_cons_zero, List.set_cons_succ]
          refine wpAnyH_done (by kernel_rfl) ?_ _
          refine NoPanic.normal ?_
          have XE := hide HS
          clear HS hconv
          generalize wr.drew = wE at XE ⊢
          have hTd : (s.extract 0 kk ++ ⟨l.toArray⟩ ++ s.extract kk s.size).data.toList = s.data.toList.take kk ++ (l ++ s.data.toList.drop kk) := by rw [dataApp, dataApp, ext_list2, Lib.extract_data, List.drop_zero, Nat.sub_zero, List.append_assoc]
          have hTs : (s.extract 0 kk ++ ⟨l.toArray⟩ ++ s.extract kk s.size).size = s.size + l.length := by rw [ByteArray.size_append, z3, z4]; omega
          have HLx := lex_any (s.extract 0 kk ++ ⟨l.toArray⟩ ++ s.extract kk s.size) wE m (keepM (unhide HM4) ((unhide X).trans (unhide XE)))
          rw [hTd] at HLx
          generalize lexP (s.data.toList.take kk ++ (l ++ s.data.toList.drop kk)) = R2 at *
          obtain ⟨L2, e1, e2⟩ := R2
          simp only at htold hkeys
          have HLq := hide HLx
          have HKy := hide hkeys
          generalize s.extract 0 kk ++ ⟨l.toArray⟩ ++ s.extract kk s.size = sT at *
          have HTd := hide hTd
          clear HLx hkeys hTd z1 z2 z3 z4
          have HT4e := hide ((unhide HT4).ext ((unhide X).trans (unhide XE)))
          go_wp2_with fail
          refine (unhide HLq).mono ?_
          rintro e wF ⟨aoF, capF, rfl, hOF, hxF⟩
          have hxF2 := hxF.alloc (.cells #[.int .i64 e1, .int .i64 e2] 28)
          have HTL := hide ((unhide HT4e).ext hxF2)
          have HTM := hide ((TO.tr hOF).ext ((Ext.refl wF).alloc (.cells #[.int .i64 e1, .int .i64 e2] 28)))
          have XF := hide ((unhide X4).trans (((unhide X).trans (unhide XE)).trans hxF2))
          clear hOF hxF hxF2 HLq
          by_cases h8 : 8192 < s.size + l.length
          · rw [if_pos h8] at htold
            subst htold
            have d8 : decide ((8192 : Int) < (sT.size : Int)) = true := by rw [hTs]; simp; omega
            go_wp2
            go_ret
            exact ⟨rfl, unhide XF⟩
          · rw [if_neg h8] at htold
            subst htold
            have d8 : decide ((8192 : Int) < (sT.size : Int)) = false := by rw [hTs]; simp; omega
            have hsame : sameK L L2 = true := by unfold sameK; exact decide_eq_true (unhide HKy (by omega)).symm
            have HSM := hide (same_any L L2 _ _ cap capF _ (unhide HTL) (unhide HTM))
            rw [hsame] at HSM
            go_wp2_with fail
            refine (unhide HSM).mono ?_
            rintro e wG ⟨rfl, hxG⟩
            go_wp2
            go_ret
            exact ⟨rfl, (unhide XF).trans hxG⟩
  · have he' : (r1 == 0) = false := beq_eq_false_iff_ne.2 he
    go_wp2
    go_ret
    exact ⟨rfl, unhide X4⟩

theorem lexBlanks_owes (H : Type) (enc : TypeId × Value → H) (W : World) (base : Nat) (args : Array Value) (ds : List (DataW H)) (p : List MemPlace) : OwesH H enc Try.prog 3 Try.f3 Rows.lexBlanksSpec W base args ds p := by
  intro hval hA hsz hsh
  rw [Try.params3] at hA hval hsz
  obtain ⟨v0, vs0, d0, ds0, p0, q0, hargs, rfl, rfl, h0, r0⟩ := trodAll_cons hA
  obtain ⟨v1, vs1, d1, ds1, p1, q1, rfl, rfl, rfl, h1, r1⟩ := trodAll_cons r0
  obtain ⟨v2, vs2, d2, ds2, p2, q2, rfl, rfl, rfl, h2, r2⟩ := trodAll_cons r1
  obtain ⟨rfl, rfl, rfl⟩ := trodAll_nil r2
  obtain rfl : args = #[v0, v1, v2] := by cases args; simp_all
  obtain ⟨s, rfl, rfl, rfl, ws⟩ := open_string Try.underlying9 (hval 0 9 v0 rfl rfl) h0
  obtain ⟨n, rfl, rfl, rfl, wn⟩ := open_int Try.underlying3 (hval 1 3 v1 rfl rfl) h1
  obtain ⟨xs, hrow, hwf, _⟩ := open_row Try.underlying22 Try.underlying5 (by kernel_rfl) (hval 2 22 v2 rfl rfl) h2 hsz (j := 2) rfl rfl
  obtain ⟨m, hm⟩ := Try.laysM143.s1_3 W hsh
  obtain ⟨ao, cap, rfl, _⟩ := hrow.shape
  exact ⟨⟨rfl, rfl, rfl⟩, lexBlanks_any s n xs ao cap W m hm (fun x hx => by have := hwf x hx; simp only [Lit.wf, Bool.and_eq_true, decide_eq_true_eq] at this; exact this) hrow⟩

set_option maxRecDepth 100000 in
theorem lexBlanks_lifted (os : Os) (started : os.Started) (H : Type) (enc : TypeId × Value → H) :
    ReturnsInHanded {} Try.checked os 3 .any (Rows.lexBlanksSpec.pre6 enc Try.prog Try.f3 [] false) (Rows.lexBlanksSpec.post enc Try.prog Try.f3 false true false false) :=
  lift_law_shaped (C := Try.checked) own laidOut started (by kernel_rfl) Try.func3 (T := 4) rfl Try.underlying4 rfl (by kernel_rfl)
    (ChangeSpec.witness6 (enc := enc) (C := Try.checked) false ⟨#[], #[.string ⟨#[]⟩, .int .i64 0, .slice none 0 0], []⟩ 8 (by kernel_rfl) (by kernel_rfl) (by kernel_rfl) (by kernel_rfl)) (lexBlanks_owes H enc)

theorem lexBlanks_holds : Rows.LexBlanksSaid :=
  OpenClaim.holds_of_wide 3 Try.f3 rfl rfl rfl rfl rfl rfl rfl ⟨rfl, rfl, rfl, rfl, rfl⟩ rfl rfl rfl rfl rfl (by kernel_rfl) Try.func3 (by kernel_rfl)
    (of_decide_eq_true (by kernel_rfl)) (by unfold Func.isWrapper; rw [if_neg (of_decide_eq_false (by kernel_rfl))]; exact ⟨rfl, rfl⟩)
    (fun os started H enc _ => lexBlanks_lifted os started H enc)
#print axioms lexBlanks_holds
end Go.Proofs.Ytgoldmohmjjngab
