/-
  The walk of the document's answer for a call on a Reader: Do, at the kinds of call 0 and 1.
-/
import Derived.Test.YtbjjoidobnfghaaW9
namespace Go.Proofs.Ytbjjoidobnfghaa
open Go.RowKit
set_option linter.unusedVariables false

set_option maxHeartbeats 2000000 in
theorem do_0 (sv : Value) (bs : List Int) (p : Nat) (err n : Int) (w : World) (hr : Row .u8 w sv bs) (hp : p ≤ bs.length) (hlen : bs.length ≤ 140737488355328) (hB : Byt bs) (hn1 : n ≤ 9223372036854775807) :
    Calls Try.prog 15 #[.agg #[sv, .int .i64 (p : Int), .int .i64 err], .agg #[.int .i64 0, .int .i64 n]] w (DoEnds sv bs p err 0 n w) := by
  have HR := hide hr
  have HB := hide hB
  obtain ⟨ao, cap, rfl, hnone, hl, hcm⟩ := hr.shape
  have HN := hide hnone
  unfold maxLen at hcm
  clear hr hB hnone
  by_cases he : err = 0
  · subst he
    by_cases hs : (bs.length : Int) - p < 1
    · have HT : Hid (took bs p 0 (cnt 0 n) = ([], p, 7)) := took_short (by simp [cnt]) (by simpa [cnt] using hs)
      go_enter Try.func15, Try.ntmps15
      go_wp2
      exact bodyPost_ret (by simp [results, Try.results15, go_sem]) rfl (DoEnds.nothing (unhide HT) (by repeat (first | exact Ext.refl _ | apply Ext.drewN | apply Ext.drew | apply Ext.alloc)))
    · have HT : Hid (took bs p 0 (cnt 0 n) = ((bs.drop p).take 1, p + 1, 0)) := took_full (by simp [cnt]) (by simp [cnt]; omega)
      have hcp : ¬ cap = p := by omega
      obtain ⟨b, off, rfl, _⟩ := (unhide HR).at p (by omega)
      have HC := hide (Row.cut (unhide HR) p 1 (by omega) (some ⟨b, off + p, none⟩) (fun b' off' e _ => by cases e; rfl) (fun h => by cases h))
      have HC2 := hide ((unhide HB).cut p 1)
      have HL : Hid (((bs.drop p).take 1).length = 1) := by rw [Hid, List.length_take, List.length_drop]; omega
      have hl4 : ((bs.drop p).take 1).length ≤ 4 := by rw [unhide HL]; omega
      have HV : Hid (toldN 0 ((bs.drop p).take 1) = numOf ((bs.drop p).take 1)) := by simp [Hid, toldN]
      have hv0 : 0 ≤ numOf ((bs.drop p).take 1) := (numOf_le _ (unhide HC2) 4 hl4).1
      have hv1 : numOf ((bs.drop p).take 1) < 4294967296 := (numOf_le _ (unhide HC2) 4 hl4).2
      generalize (bs.drop p).take 1 = cs at *
      go_enter Try.func15, Try.ntmps15
      go_wp2
      go_region_with (go_at_call 28; refine (numb_any _ cs _ (by exact (unhide HC).ext (by repeat (first | exact Ext.refl _ | apply Ext.drewN | apply Ext.drew | apply Ext.alloc))) hl4 (unhide HC2)).mono ?_; rintro e w1 ⟨rfl, rfl⟩)
      all_goals go_wp2
      all_goals exact bodyPost_ret (v := .tuple #[.agg #[.slice (some ⟨b, off, none⟩) bs.length cap, .int .i64 ((p + 1 : Nat) : Int), .int .i64 0], .agg #[.int .i64 (numOf cs), .slice none 0 0]]) (by simp [results, Try.results15, go_sem]; exact IntWalk.i64_in _ ⟨by omega, by omega⟩) rfl (DoEnds.full (unhide HT) (unhide HV) (Row.nil _ _) (by repeat (first | exact Ext.refl _ | apply Ext.drewN | apply Ext.drew | apply Ext.alloc)))
  · have HT : Hid (took bs p err (cnt 0 n) = ([], p, err)) := took_err he
    have hb : (err != 0) = true := by simpa using he
    clear he
    go_enter Try.func15, Try.ntmps15
    go_wp2
    exact bodyPost_ret (by simp [results, Try.results15, go_sem]) rfl (DoEnds.nothing (unhide HT) (by repeat (first | exact Ext.refl _ | apply Ext.drewN | apply Ext.drew | apply Ext.alloc)))

set_option maxHeartbeats 2000000 in
theorem do_1 (sv : Value) (bs : List Int) (p : Nat) (err n : Int) (w : World) (hr : Row .u8 w sv bs) (hp : p ≤ bs.length) (hlen : bs.length ≤ 140737488355328) (hB : Byt bs) (hn1 : n ≤ 9223372036854775807) :
    Calls Try.prog 15 #[.agg #[sv, .int .i64 (p : Int), .int .i64 err], .agg #[.int .i64 1, .int .i64 n]] w (DoEnds sv bs p err 1 n w) := by
  have HR := hide hr
  have HB := hide hB
  obtain ⟨ao, cap, rfl, hnone, hl, hcm⟩ := hr.shape
  have HN := hide hnone
  unfold maxLen at hcm
  clear hr hB hnone
  by_cases he : err = 0
  · subst he
    by_cases hs : (bs.length : Int) - p < 2
    · have HT : Hid (took bs p 0 (cnt 1 n) = ([], p, 7)) := took_short (by simp [cnt]) (by simpa [cnt] using hs)
      go_enter Try.func15, Try.ntmps15
      go_wp2
      exact bodyPost_ret (by simp [results, Try.results15, go_sem]) rfl (DoEnds.nothing (unhide HT) (by repeat (first | exact Ext.refl _ | apply Ext.drewN | apply Ext.drew | apply Ext.alloc)))
    · have HT : Hid (took bs p 0 (cnt 1 n) = ((bs.drop p).take 2, p + 2, 0)) := took_full (by simp [cnt]) (by simp [cnt]; omega)
      have hcp : ¬ cap = p := by omega
      obtain ⟨b, off, rfl, _⟩ := (unhide HR).at p (by omega)
      have HC := hide (Row.cut (unhide HR) p 2 (by omega) (some ⟨b, off + p, none⟩) (fun b' off' e _ => by cases e; rfl) (fun h => by cases h))
      have HC2 := hide ((unhide HB).cut p 2)
      have HL : Hid (((bs.drop p).take 2).length = 2) := by rw [Hid, List.length_take, List.length_drop]; omega
      have hl4 : ((bs.drop p).take 2).length ≤ 4 := by rw [unhide HL]; omega
      have HV : Hid (toldN 1 ((bs.drop p).take 2) = numOf ((bs.drop p).take 2)) := by simp [Hid, toldN]
      have hv0 : 0 ≤ numOf ((bs.drop p).take 2) := (numOf_le _ (unhide HC2) 4 hl4).1
      have hv1 : numOf ((bs.drop p).take 2) < 4294967296 := (numOf_le _ (unhide HC2) 4 hl4).2
      generalize (bs.drop p).take 2 = cs at *
      go_enter Try.func15, Try.ntmps15
      go_wp2
      go_region_with (go_at_call 28; refine (numb_any _ cs _ (by exact (unhide HC).ext (by repeat (first | exact Ext.refl _ | apply Ext.drewN | apply Ext.drew | apply Ext.alloc))) hl4 (unhide HC2)).mono ?_; rintro e w1 ⟨rfl, rfl⟩)
      all_goals go_wp2
      all_goals exact bodyPost_ret (v := .tuple #[.agg #[.slice (some ⟨b, off, none⟩) bs.length cap, .int .i64 ((p + 2 : Nat) : Int), .int .i64 0], .agg #[.int .i64 (numOf cs), .slice none 0 0]]) (by simp [results, Try.results15, go_sem]; exact IntWalk.i64_in _ ⟨by omega, by omega⟩) rfl (DoEnds.full (unhide HT) (unhide HV) (Row.nil _ _) (by repeat (first | exact Ext.refl _ | apply Ext.drewN | apply Ext.drew | apply Ext.alloc)))
  · have HT : Hid (took bs p err (cnt 1 n) = ([], p, err)) := took_err he
    have hb : (err != 0) = true := by simpa using he
    clear he
    go_enter Try.func15, Try.ntmps15
    go_wp2
    exact bodyPost_ret (by simp [results, Try.results15, go_sem]) rfl (DoEnds.nothing (unhide HT) (by repeat (first | exact Ext.refl _ | apply Ext.drewN | apply Ext.drew | apply Ext.alloc)))
end Go.Proofs.Ytbjjoidobnfghaa
