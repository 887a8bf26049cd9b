/-
  Tokens that are skipped or needed, words, nodes that begin.
-/
import Derived.Test.YtjfhhhabcbkahaaGreatTE
namespace Go.Proofs.YtjfhhhabcbkahaaGreat
open Go.RowKit
set_option linter.unusedVariables false
set_option linter.unusedSimpArgs false

section
variable {w w' w'' : World} {pb : Nat} {L : List Tok} {tv lv : Value} {i j : Nat}
theorem one_text (t : Byts8) (w : World) (T : Nat → Prop) (hT : ¬ T w.heap.size) : SF T (w.alloc (.cells #[.string ⟨t.toArray⟩] 9)) (.slice (some ⟨w.heap.size, 0, none⟩) 1 1) [t] := SF.new [t] (Blk.new w _ _) hT (show 1 ≤ maxLen by decide)
theorem con_one (t x : Byts8) : [t].contains x = decide (x = t) := by
  rw [Bool.eq_iff_iff]
  simp
set_option maxHeartbeats 1000000 in
set_option maxRecDepth 100000 in
theorem skip_yes (t : Byts8) (h : PE w pb L tv lv i) (ht : (tk L i).text = t) (hi : i ≤ 2000000000) (hL : L.length ≤ 1000000000) :
    Calls Tryz.prog 94 #[.pointer (some ⟨pb, 0, none⟩), .string ⟨t.toArray⟩] w fun e w' => e = .returned (.bool true) ∧ St w pb L tv lv (i + 1) w' := by
  have HP := hide h
  have HO := isOne_any (h.ext ((Ext.refl w).alloc (.cells #[.string ⟨t.toArray⟩] 9))) (one_text t w (fun _ => False) (fun e => e)) (by omega) hL
  rw [con_one, decide_eq_true ht] at HO
  have HO2 := hide HO
  clear h HO ht
  go_enter Tryz.func94, Tryz.ntmps94
  go_wp2_with fail
  refine (unhide HO2).mono ?_
  rintro e w1 ⟨rfl, hx⟩
  have HP1 := hide ((unhide HP).ext (((Ext.refl w).alloc (.cells #[.string ⟨t.toArray⟩] 9)).trans hx))
  have HX := hide (((Ext.refl w).alloc (.cells #[.string ⟨t.toArray⟩] 9)).trans hx)
  have c1 := (unhide HP1).blk.cell (i := 1) (v := .int .i64 i) rfl
  have f1 := fun j => (unhide HP1).blk.free j
  have HS := (unhide HP1).step (i + 1)
  rw [show ((i + 1 : Nat) : Int) = (i : Int) + 1 by omega] at HS
  have HS2 := hide HS
  clear HS hx HO2
  go_wp2
  go_ret
  exact ⟨rfl, St.after (unhide HX) (St.mk (unhide HS2).1 (unhide HS2).2)⟩
set_option maxRecDepth 100000 in
theorem skip_no (t : Byts8) (h : PE w pb L tv lv i) (ht : ¬ (tk L i).text = t) (hi : i ≤ 2000000000) (hL : L.length ≤ 1000000000) :
    Calls Tryz.prog 94 #[.pointer (some ⟨pb, 0, none⟩), .string ⟨t.toArray⟩] w fun e w' => e = .returned (.bool false) ∧ Ext w w' := by
  have HO := isOne_any (h.ext ((Ext.refl w).alloc (.cells #[.string ⟨t.toArray⟩] 9))) (one_text t w (fun _ => False) (fun e => e)) (by omega) hL
  rw [con_one, decide_eq_false ht] at HO
  have HO2 := hide HO
  clear h HO ht
  go_enter Tryz.func94, Tryz.ntmps94
  go_wp2_with fail
  refine (unhide HO2).mono ?_
  rintro e w1 ⟨rfl, hx⟩
  have HX := hide (((Ext.refl w).alloc (.cells #[.string ⟨t.toArray⟩] 9)).trans hx)
  clear hx
  go_wp2
  go_ret
  exact ⟨rfl, unhide HX⟩
/-- What need answers. -/
def NQ (w : World) (pb : Nat) (L : List Tok) (tv lv : Value) (R : Nat × Option Unit) (e : Ending) (w' : World) : Prop := St w pb L tv lv R.1 w' ∧ (match R.2 with | none => e = .panicked Pan | some _ => e = .returned (.tuple #[]))
theorem need_le : ∀ (ts : List Byts8) (i : Nat), i ≤ (needP L ts i).1 ∧ (needP L ts i).1 ≤ i + ts.length
  | [], i => by simp [needP]
  | t :: ts, i => by
    rw [needP]
    split
    · have := need_le ts (i + 1)
      simp only [List.length_cons]
      omega
    · simp
set_option maxHeartbeats 2000000 in
set_option maxRecDepth 100000 in
theorem need_any {T : Nat → Prop} (ts : List Byts8) {ao : Option Addr} {n cap : Nat} (h : PE w pb L tv lv i) (hs : SF (fun b => b = pb) w (.slice ao n cap) ts) (hn : ts.length ≤ 100) (hi : i ≤ 1000000000) (hL : L.length ≤ 1000000000) :
    Calls Tryz.prog 86 #[.pointer (some ⟨pb, 0, none⟩), .slice ao n cap] w (NQ w pb L tv lv (needP L ts i)) := by
  have HP := hide h
  have HS := hide hs
  obtain ⟨ao', cap', e, _⟩ := hs
  cases e
  clear h
  obtain ⟨R, hR⟩ : ∃ R, needP L ts i = R := ⟨_, rfl⟩
  rw [hR]
  have HR := hide hR
  clear hR
  go_enter Tryz.func86, Tryz.ntmps86
  go_wp2
  go_loopw [8] (fun iv wr => ∃ k j : Nat, k ≤ ts.length ∧ iv = .int .i64 k ∧ j ≤ i + k ∧ St w pb L tv lv j wr ∧ needP L (ts.drop k) j = R) (fun iv _ => ts.length - (intOf iv).toNat)
  case atStart => exact ⟨0, i, by omega, rfl, by omega, St.of (unhide HP) (Ext.refl w), unhide HR⟩
  case round =>
    obtain ⟨k, j, hk, rfl, hj, hst, hr⟩ := hrel
    have HST := hide hst
    have HRR := hide hr
    clear HR hst hr
    by_cases hlt : k < ts.length
    · obtain ⟨ao2, cap2, e2, _, _, h3⟩ := (unhide HS).out (unhide HST).out
      cases e2
      obtain ⟨b, off, rfl, _, c⟩ := h3 k hlt
      rw [List.drop_eq_getElem_cons hlt] at HRR
      obtain ⟨x, hx⟩ : ∃ x, x = ts[k] := ⟨_, rfl⟩
      rw [← hx] at c HRR
      have HO := isOne_any ((unhide HST).pe.ext ((Ext.refl wr).alloc (.cells #[.string ⟨x.toArray⟩] 9))) (one_text x wr (fun _ => False) (fun e => e)) (by omega) hL
      rw [con_one] at HO
      clear hx h3
      by_cases he : (tk L j).text = x
      · have HRN : Hid (needP L (ts.drop (k + 1)) (j + 1) = R) := by
          show _ = _
          rw [← unhide HRR, needP, if_pos he]
        rw [decide_eq_true he] at HO
        have HO2 := hide HO
        clear HO he HRR
        go_wp2_with fail
        refine (unhide HO2).mono ?_
        rintro e w1 ⟨rfl, hx⟩
        have HT := hide (take_ok ((unhide HST).pe.ext (((Ext.refl wr).alloc (.cells #[.string ⟨x.toArray⟩] 9)).trans hx)) (by omega) hL)
        have HX := hide (((Ext.refl wr).alloc (.cells #[.string ⟨x.toArray⟩] 9)).trans hx)
        clear hx HO2
        go_wp2_with fail
        refine (unhide HT).mono ?_
        rintro e w2 ⟨rfl, hs2⟩
        have HST2 := hide ((unhide HST).trans (St.after (unhide HX) hs2))
        clear hs2 HT
        go_wp2
        refine ⟨⟨k + 1, j + 1, by omega, rfl, by omega, unhide HST2, unhide HRN⟩, ?_⟩
        simp [intOf]
        omega
      · have hrr : R = (j, none) := by
          rw [← unhide HRR, needP, if_neg he]
        rw [decide_eq_false he] at HO
        have HO2 := hide HO
        subst hrr
        clear HO he HRR
        go_wp2_with fail
        refine (unhide HO2).mono ?_
        rintro e w1 ⟨rfl, hx⟩
        have HT := hide (take_no ((unhide HST).pe.ext (((Ext.refl wr).alloc (.cells #[.string ⟨x.toArray⟩] 9)).trans hx)))
        have HX := hide (((Ext.refl wr).alloc (.cells #[.string ⟨x.toArray⟩] 9)).trans hx)
        clear hx HO2
        go_wp2_with fail
        refine (unhide HT).mono ?_
        rintro e w2 ⟨rfl, hx2⟩
        have HST2 := hide ((unhide HST).ext ((unhide HX).trans hx2))
        clear hx2 HT
        go_wp2
        exact ⟨rfl, unhide HST2, rfl⟩
    · have hrr : R = (j, some ()) := by
        rw [← unhide HRR, List.drop_of_length_le (by omega)]
        rfl
      subst hrr
      clear HRR
      go_wp2
      first | go_end0 | skip
      exact ⟨unhide HST, rfl⟩
/-- Texts that were laid just now are needed. -/
theorem need_at (ts : List Byts8) (cs : Array Value) (hcs : cs = (ts.map (fun x => Value.string ⟨x.toArray⟩)).toArray) (h : PE w pb L tv lv i) (hn : ts.length ≤ 100) (hi : i ≤ 1000000000) (hL : L.length ≤ 1000000000) :
    Calls Tryz.prog 86 #[.pointer (some ⟨pb, 0, none⟩), .slice (some ⟨w.heap.size, 0, none⟩) ts.length ts.length] (w.alloc (.cells cs 9)) (NQ w pb L tv lv (needP L ts i)) := by
  subst hcs
  have hlt := h.lt
  have hx := (Ext.refl w).alloc (.cells (ts.map (fun x => Value.string ⟨x.toArray⟩)).toArray 9)
  refine (need_any (T := fun _ => False) ts (h.ext hx) (SF.new ts (Blk.new _ _ _) (by omega) (by unfold maxLen; omega)) hn hi hL).mono ?_
  rintro e w1 ⟨hs, he⟩
  exact ⟨St.after hx hs, he⟩
theorem isOne_at (ts : List Byts8) (cs : Array Value) (hcs : cs = (ts.map (fun x => Value.string ⟨x.toArray⟩)).toArray) (h : PE w pb L tv lv i) (hn : ts.length ≤ 100) (hi : i ≤ 1000000000) (hL : L.length ≤ 1000000000) :
    Calls Tryz.prog 74 #[.pointer (some ⟨pb, 0, none⟩), .slice (some ⟨w.heap.size, 0, none⟩) ts.length ts.length] (w.alloc (.cells cs 9)) fun e w' => e = .returned (.bool (ts.contains (tk L i).text)) ∧ Ext w w' := by
  subst hcs
  have hx := (Ext.refl w).alloc (.cells (ts.map (fun x => Value.string ⟨x.toArray⟩)).toArray 9)
  refine (isOne_any (T := fun _ => False) (h.ext hx) (SF.new ts (Blk.new _ _ _) (fun e => e) (by unfold maxLen; omega)) (by omega) hL).mono ?_
  rintro e w1 ⟨he, hs⟩
  exact ⟨he, hx.trans hs⟩
end
end Go.Proofs.YtjfhhhabcbkahaaGreat
