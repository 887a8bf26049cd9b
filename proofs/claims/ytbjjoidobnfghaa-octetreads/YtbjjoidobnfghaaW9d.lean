/-
  The walk of the document's answer for a call on a Reader: Do, at the kinds of call 6 and 7.
-/
import Derived.Test.YtbjjoidobnfghaaW9
namespace Go.Proofs.Ytbjjoidobnfghaa
open Go.RowKit
set_option linter.unusedVariables false

set_option maxHeartbeats 2000000 in
theorem do_6 (sv : Value) (bs : List Int) (p : Nat) (err n : Int) (w : World) (hr : Row .u8 w sv bs) (hp : p ≤ bs.length) (hlen : bs.length ≤ 140737488355328) (hB : Byt bs) (hn1 : n ≤ 9223372036854775807) :
    Calls Try.prog 15 #[.agg #[sv, .int .i64 (p : Int), .int .i64 err], .agg #[.int .i64 6, .int .i64 n]] w (DoEnds sv bs p err 6 n w) := by
  have HR := hide hr
  have HB := hide hB
  obtain ⟨ao, cap, rfl, hnone, hl, hcm⟩ := hr.shape
  have HN := hide hnone
  unfold maxLen at hcm
  clear hr hB hnone
  by_cases he : err = 0
  · subst he
    by_cases hneg : n < 0
    · have HT : Hid (took bs p 0 (cnt 6 n) = ([], p, 2)) := took_neg (by simpa [cnt] using hneg)
      go_enter Try.func15, Try.ntmps15
      go_wp2
      exact bodyPost_ret (by simp [results, Try.results15, go_sem]) rfl (DoEnds.nothing (unhide HT) (by repeat (first | exact Ext.refl _ | apply Ext.drewN | apply Ext.drew | apply Ext.alloc)))
    · obtain ⟨m, rfl⟩ := Int.eq_ofNat_of_zero_le (show 0 ≤ n by omega)
      by_cases hs : (bs.length : Int) - p < (m : Int)
      · have HT : Hid (took bs p 0 (cnt 6 (m : Int)) = ([], p, 7)) := took_short (by simp [cnt]) (by simpa [cnt] using hs)
        go_enter Try.func15, Try.ntmps15
        go_wp2
        exact bodyPost_ret (by simp [results, Try.results15, go_sem]) rfl (DoEnds.nothing (unhide HT) (by repeat (first | exact Ext.refl _ | apply Ext.drewN | apply Ext.drew | apply Ext.alloc)))
      · have HT : Hid (took bs p 0 (cnt 6 (m : Int)) = ((bs.drop p).take m, p + m, 0)) := took_full (by simp [cnt]) (by simp [cnt]; omega)
        go_enter Try.func15, Try.ntmps15
        go_wp2
        · have hm0 : m = 0 := by omega
          subst hm0
          exact bodyPost_ret (v := .tuple #[.agg #[.slice ao bs.length p, .int .i64 ((p + 0 : Nat) : Int), .int .i64 0], .agg #[.int .i64 0, .slice ao 0 0]]) (by simp [results, Try.results15, go_sem]) rfl (DoEnds.full (unhide HT) (by simp [toldN]) (.inl ⟨by simp [toldB], ao, 0, rfl, fun _ => rfl, Nat.zero_le _⟩) (by repeat (first | exact Ext.refl _ | apply Ext.drewN | apply Ext.drew | apply Ext.alloc)))
        · exact bodyPost_ret (v := .tuple #[.agg #[.slice ao bs.length cap, .int .i64 ((p + m : Nat) : Int), .int .i64 0], .agg #[.int .i64 0, .slice (Option.map (fun x => x.add p) ao) m (cap - p)]]) (by simp [results, Try.results15, go_sem]) rfl (DoEnds.full (unhide HT) (by simp [toldN]) ((Row.cut (unhide HR) p m (by omega) _ (fun b off e _ => by subst e; simp [Addr.add_lit]) (fun e => by cases ao with | none => have := (unhide HN rfl).2; omega | some a => cases e)).ext (by repeat (first | exact Ext.refl _ | apply Ext.drewN | apply Ext.drew | apply Ext.alloc))) (by repeat (first | exact Ext.refl _ | apply Ext.drewN | apply Ext.drew | apply Ext.alloc)))
  · have HT : Hid (took bs p err (cnt 6 n) = ([], p, err)) := took_err he
    have hb : (err != 0) = true := by simpa using he
    clear he
    go_enter Try.func15, Try.ntmps15
    go_wp2
    exact bodyPost_ret (by simp [results, Try.results15, go_sem]) rfl (DoEnds.nothing (unhide HT) (by repeat (first | exact Ext.refl _ | apply Ext.drewN | apply Ext.drew | apply Ext.alloc)))

set_option maxHeartbeats 2000000 in
theorem do_7 (sv : Value) (bs : List Int) (p : Nat) (err n : Int) (w : World) (hr : Row .u8 w sv bs) (hp : p ≤ bs.length) (hlen : bs.length ≤ 140737488355328) (hB : Byt bs) (hn1 : n ≤ 9223372036854775807) :
    Calls Try.prog 15 #[.agg #[sv, .int .i64 (p : Int), .int .i64 err], .agg #[.int .i64 7, .int .i64 n]] w (DoEnds sv bs p err 7 n w) := by
  have HR := hide hr
  have HB := hide hB
  obtain ⟨ao, cap, rfl, hnone, hl, hcm⟩ := hr.shape
  have HN := hide hnone
  unfold maxLen at hcm
  clear hr hB hnone
  by_cases he : err = 0
  · subst he
    by_cases hneg : n < 0
    · have HT : Hid (took bs p 0 (cnt 7 n) = ([], p, 2)) := took_neg (by simpa [cnt] using hneg)
      go_enter Try.func15, Try.ntmps15
      go_wp2
      exact bodyPost_ret (by simp [results, Try.results15, go_sem]) rfl (DoEnds.nothing (unhide HT) (by repeat (first | exact Ext.refl _ | apply Ext.drewN | apply Ext.drew | apply Ext.alloc)))
    · obtain ⟨m, rfl⟩ := Int.eq_ofNat_of_zero_le (show 0 ≤ n by omega)
      by_cases hs : (bs.length : Int) - p < (m : Int)
      · have HT : Hid (took bs p 0 (cnt 7 (m : Int)) = ([], p, 7)) := took_short (by simp [cnt]) (by simpa [cnt] using hs)
        go_enter Try.func15, Try.ntmps15
        go_wp2
        exact bodyPost_ret (by simp [results, Try.results15, go_sem]) rfl (DoEnds.nothing (unhide HT) (by repeat (first | exact Ext.refl _ | apply Ext.drewN | apply Ext.drew | apply Ext.alloc)))
      · have HT : Hid (took bs p 0 (cnt 7 (m : Int)) = ((bs.drop p).take m, p + m, 0)) := took_full (by simp [cnt]) (by simp [cnt]; omega)
        go_enter Try.func15, Try.ntmps15
        go_wp2
        · have hm0 : m = 0 := by omega
          subst hm0
          exact bodyPost_ret (v := .tuple #[.agg #[.slice ao bs.length p, .int .i64 ((p + 0 : Nat) : Int), .int .i64 0], .agg #[.int .i64 0, .slice none 0 0]]) (by simp [results, Try.results15, go_sem]) rfl (DoEnds.full (unhide HT) (by simp [toldN]) (Row.nil _ _) (by repeat (first | exact Ext.refl _ | apply Ext.drewN | apply Ext.drew | apply Ext.alloc)))
        · exact bodyPost_ret (v := .tuple #[.agg #[.slice ao bs.length cap, .int .i64 ((p + m : Nat) : Int), .int .i64 0], .agg #[.int .i64 0, .slice none 0 0]]) (by simp [results, Try.results15, go_sem]) rfl (DoEnds.full (unhide HT) (by simp [toldN]) (Row.nil _ _) (by repeat (first | exact Ext.refl _ | apply Ext.drewN | apply Ext.drew | apply Ext.alloc)))
  · have HT : Hid (took bs p err (cnt 7 n) = ([], p, err)) := took_err he
    have hb : (err != 0) = true := by simpa using he
    clear he
    go_enter Try.func15, Try.ntmps15
    go_wp2
    exact bodyPost_ret (by simp [results, Try.results15, go_sem]) rfl (DoEnds.nothing (unhide HT) (by repeat (first | exact Ext.refl _ | apply Ext.drewN | apply Ext.drew | apply Ext.alloc)))
end Go.Proofs.Ytbjjoidobnfghaa
