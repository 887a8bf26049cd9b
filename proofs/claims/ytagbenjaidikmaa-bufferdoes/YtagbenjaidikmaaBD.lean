/-
  Buffers: the walks of within, piece, Size, Get.
-/
import Derived.Test.YtagbenjaidikmaaBC
namespace Go.Proofs.Ytagbenjaidikmaa
open Go.RowKit

/-- Whether n from at on lie within so much. -/
def inB (at' n all : Int) : Bool := decide (0 ≤ at' ∧ at' ≤ all ∧ 0 ≤ n ∧ n ≤ all - at')
set_option maxHeartbeats 1000000 in
theorem within_any (at' n all : Int) (h0 : 0 ≤ all) (h1 : all ≤ 9223372036854775807) (w : World) :
    Calls Try.prog 36 #[.int .i64 at', .int .i64 n, .int .i64 all] w fun e w' => e = .returned (.bool (inB at' n all)) ∧ w' = w := by
  go_enter Try.func36, Try.ntmps36
  have E := hide (show inB at' n all = decide (0 ≤ at' ∧ at' ≤ all ∧ 0 ≤ n ∧ n ≤ all - at') from rfl)
  by_cases a1 : 0 ≤ at'
  · by_cases a2 : at' ≤ all
    · by_cases a3 : 0 ≤ n
      · by_cases a4 : n ≤ all - at'
        · go_wp2
          go_ret
          refine ⟨?_, rfl⟩
          rw [unhide E, decide_eq_true ⟨a1, a2, a3, a4⟩]; rfl
        · have E2 := hide (show inB at' n all = false by rw [unhide E, decide_eq_false (by omega)])
          go_wp2
          go_ret
          refine ⟨?_, rfl⟩
          rw [unhide E2]; rfl
      · have E2 := hide (show inB at' n all = false by rw [unhide E, decide_eq_false (by omega)])
        go_wp2
        go_ret
        refine ⟨?_, rfl⟩
        rw [unhide E2]; rfl
    · have E2 := hide (show inB at' n all = false by rw [unhide E, decide_eq_false (by omega)])
      go_wp2
      go_ret
      refine ⟨?_, rfl⟩
      rw [unhide E2]; rfl
  · have E2 := hide (show inB at' n all = false by rw [unhide E, decide_eq_false (by omega)])
    go_wp2
    go_ret
    refine ⟨?_, rfl⟩
    rw [unhide E2]; rfl
theorem inB_yes {p m l : Nat} (h : p + m ≤ l) : inB p m l = true := by unfold inB; rw [decide_eq_true]; omega
theorem inB_nat {a n : Int} {l : Nat} (h : inB a n l = true) : ∃ p m : Nat, a = p ∧ n = m ∧ p + m ≤ l := by
  unfold inB at h
  have := of_decide_eq_true h
  exact ⟨a.toNat, n.toNat, by omega, by omega, by omega⟩

/-- The piece of the slice v that has m elements from p on. -/
def Pc (v : Value) (p m : Nat) (pv : Value) : Prop :=
  ∃ ao cap, pv = .slice ao m cap ∧ m ≤ cap ∧ cap ≤ maxLen ∧ (ao = none → cap = 0) ∧ (0 < m → ∃ g l c, v = .slice (some ⟨g, 0, none⟩) l c ∧ ao = some ⟨g, p, none⟩)
theorem Pc.row {w : World} {base : Nat} {v pv : Value} {p m : Nat} {bs : List Int} (h : Pc v p m pv) (ho : Own .u8 w base 5 v bs) (hpm : p + m ≤ bs.length) : Row .u8 w pv ((bs.drop p).take m) := by
  obtain ⟨ao, cap, rfl, h1, h2, h3, h4⟩ := h
  have hl : ((bs.drop p).take m).length = m := by simp; omega
  by_cases hm : m = 0
  · subst hm
    exact .inl ⟨by simp, ao, cap, rfl, h3, h2⟩
  · obtain ⟨g, l, c, rfl, rfl⟩ := h4 (by omega)
    refine .inr ⟨fun e => by rw [e] at hl; simp at hl; omega, g, p, cap, by rw [hl], by omega, h2, fun i hi => ?_⟩
    rw [hl] at hi
    rw [ho.cellAt (p + i) (by omega)]
    have e2 : ((bs.drop p).take m).getD i 0 = bs[p + i] := by simp [List.getD, hi, show p + i < bs.length by omega]
    rw [e2]

section
variable {w : World} {base S G M : Nat} {all tk : Int} {K : List Ent}
set_option maxHeartbeats 1000000 in
theorem piece_none (h : Sto w base S G M all tk K) {id : Int} (hid : I64 id) (hn : look id K = none) (at' n : Int) :
    Calls Try.prog 31 #[.pointer (some ⟨S, 0, none⟩), .int .i64 id, .int .i64 at', .int .i64 n] w fun e w' => e = .returned (.tuple #[.slice none 0 0, .int .i64 4]) ∧ w' = w := by
  go_enter Try.func31, Try.ntmps31
  go_wp2_with fail
  refine (find_none h hid hn).mono ?_
  rintro e w1 ⟨rfl, rfl⟩
  go_wp2
  exact bodyPost_ret (v := .tuple #[.slice none 0 0, .int .i64 4]) (by simp [results, Try.results31, go_sem]) rfl ⟨rfl, rfl⟩
set_option maxHeartbeats 1000000 in
theorem piece_bad (h : Sto w base S G M all tk K) {id : Int} (hid : I64 id) {v : Value} {bs : List Int} (hn : look id K = some (v, bs)) (at' n : Int) (hb : inB at' n bs.length = false) :
    Calls Try.prog 31 #[.pointer (some ⟨S, 0, none⟩), .int .i64 id, .int .i64 at', .int .i64 n] w fun e w' => e = .returned (.tuple #[.slice none 0 0, .int .i64 2]) ∧ w' = w := by
  have ho := h.own _ (look_mem hn)
  have hf := h.fit _ (look_mem hn)
  simp only at ho hf
  obtain ⟨ao, cap, rfl⟩ := ho.shape
  go_enter Try.func31, Try.ntmps31
  go_wp2_with fail
  refine (find_some h hid hn).mono ?_
  rintro e w1 ⟨rfl, rfl⟩
  have HO := hide ho
  have HN := hide hn
  have HH := hide h
  have HB := hide hb
  clear ho hn h hb
  go_wp2_with fail
  refine (within_any at' n bs.length (by omega) (by omega) _).mono ?_
  rintro e w1 ⟨rfl, rfl⟩
  rw [unhide HB]
  go_wp2
  exact bodyPost_ret (v := .tuple #[.slice none 0 0, .int .i64 2]) (by simp [results, Try.results31, go_sem]) rfl ⟨rfl, rfl⟩
set_option maxHeartbeats 1000000 in
theorem piece_some (h : Sto w base S G M all tk K) {id : Int} (hid : I64 id) {v : Value} {bs : List Int} (hn : look id K = some (v, bs)) (p m : Nat) (hpm : p + m ≤ bs.length) :
    Calls Try.prog 31 #[.pointer (some ⟨S, 0, none⟩), .int .i64 id, .int .i64 (p : Int), .int .i64 (m : Int)] w fun e w' => (∃ ao cap, e = .returned (.tuple #[.slice ao m cap, .int .i64 0]) ∧ Pc v p m (.slice ao m cap)) ∧ w' = w := by
  have ho := h.own _ (look_mem hn)
  have hf := h.fit _ (look_mem hn)
  simp only at ho hf
  have hr := ho.row
  obtain ⟨ao, cap, rfl, hao, hlc, hcm⟩ := hr.shape
  have hown : bs.length ≠ 0 → ∃ g, ao = some ⟨g, 0, none⟩ := by
    intro hne
    rcases ho.2 with ⟨e, h0⟩ | ⟨g, c, cur, e, _⟩
    · omega
    · cases e; exact ⟨g, rfl⟩
  unfold maxLen at hcm
  have HAO := hide hao
  have HR := hide hr
  have HW := hide hown
  clear hao hr hown
  go_enter Try.func31, Try.ntmps31
  go_wp2_with fail
  refine (find_some h hid hn).mono ?_
  rintro e w1 ⟨rfl, rfl⟩
  have HO := hide ho
  have HN := hide hn
  have HH := hide h
  clear ho hn h
  go_wp2_with fail
  refine (within_any p m bs.length (by omega) (by omega) _).mono ?_
  rintro e w1 ⟨rfl, rfl⟩
  rw [inB_yes hpm]
  go_wp2
  · have hm : m = 0 := by omega
    subst hm
    refine bodyPost_ret (v := .tuple #[.slice ao 0 0, .int .i64 0]) ?_ rfl ⟨⟨ao, 0, rfl, ao, 0, rfl, Nat.le_refl _, Nat.zero_le _, fun _ => rfl, fun h => by omega⟩, rfl⟩
    simp [results, Try.results31, go_sem]
  · refine bodyPost_ret (v := .tuple #[.slice (ao.map (·.add p)) m (cap - p), .int .i64 0]) ?_ rfl ⟨⟨_, _, rfl, _, _, rfl, by omega, by unfold maxLen; omega, fun e => ?_, fun hm => ?_⟩, rfl⟩
    · simp [results, Try.results31, go_sem]
    · cases ao with
      | none => have := (unhide HAO rfl).2; omega
      | some a => cases e
    · obtain ⟨g, rfl⟩ := unhide HW (by omega)
      exact ⟨g, _, _, rfl, by simp [Addr.add_lit]⟩

/-! ### Size, Get -/
set_option maxHeartbeats 1000000 in
theorem size_none (h : Sto w base S G M all tk K) {id : Int} (hid : I64 id) (hn : look id K = none) :
    Calls Try.prog 17 #[.pointer (some ⟨S, 0, none⟩), .int .i64 id] w fun e w' => e = .returned (.tuple #[.int .i64 0, .int .i64 4]) ∧ w' = w := by
  go_enter Try.func17, Try.ntmps17
  go_wp2_with fail
  refine (find_none h hid hn).mono ?_
  rintro e w1 ⟨rfl, rfl⟩
  go_wp2
  exact bodyPost_ret (v := .tuple #[.int .i64 0, .int .i64 4]) (by simp [results, Try.results17, go_sem]) rfl ⟨rfl, rfl⟩
set_option maxHeartbeats 1000000 in
theorem size_some (h : Sto w base S G M all tk K) {id : Int} (hid : I64 id) {v : Value} {bs : List Int} (hn : look id K = some (v, bs)) :
    Calls Try.prog 17 #[.pointer (some ⟨S, 0, none⟩), .int .i64 id] w fun e w' => e = .returned (.tuple #[.int .i64 bs.length, .int .i64 0]) ∧ w' = w := by
  have ho := h.own _ (look_mem hn)
  simp only at ho
  obtain ⟨ao, cap, rfl⟩ := ho.shape
  go_enter Try.func17, Try.ntmps17
  go_wp2_with fail
  refine (find_some h hid hn).mono ?_
  rintro e w1 ⟨rfl, rfl⟩
  go_wp2
  exact bodyPost_ret (v := .tuple #[.int .i64 bs.length, .int .i64 0]) (by simp [results, Try.results17, go_sem]) rfl ⟨rfl, rfl⟩

set_option maxHeartbeats 1000000 in
theorem get_none (h : Sto w base S G M all tk K) {id : Int} (hid : I64 id) (hn : look id K = none) (at' n : Int) :
    Calls Try.prog 14 #[.pointer (some ⟨S, 0, none⟩), .int .i64 id, .int .i64 at', .int .i64 n] w fun e w' => e = .returned (.tuple #[.slice none 0 0, .int .i64 4]) ∧ w' = w := by
  go_enter Try.func14, Try.ntmps14
  go_wp2_with fail
  refine (piece_none h hid hn at' n).mono ?_
  rintro e w1 ⟨rfl, rfl⟩
  go_wp2
  exact bodyPost_ret (v := .tuple #[.slice none 0 0, .int .i64 4]) (by simp [results, Try.results14, go_sem]) rfl ⟨rfl, rfl⟩
set_option maxHeartbeats 1000000 in
theorem get_bad (h : Sto w base S G M all tk K) {id : Int} (hid : I64 id) {v : Value} {bs : List Int} (hn : look id K = some (v, bs)) (at' n : Int) (hb : inB at' n bs.length = false) :
    Calls Try.prog 14 #[.pointer (some ⟨S, 0, none⟩), .int .i64 id, .int .i64 at', .int .i64 n] w fun e w' => e = .returned (.tuple #[.slice none 0 0, .int .i64 2]) ∧ w' = w := by
  go_enter Try.func14, Try.ntmps14
  go_wp2_with fail
  refine (piece_bad h hid hn at' n hb).mono ?_
  rintro e w1 ⟨rfl, rfl⟩
  clear h hn hb
  go_wp2
  exact bodyPost_ret (v := .tuple #[.slice none 0 0, .int .i64 2]) (by simp [results, Try.results14, go_sem]) rfl ⟨rfl, rfl⟩
set_option maxHeartbeats 1000000 in
theorem get_some (h : Sto w base S G M all tk K) {id : Int} (hid : I64 id) {v : Value} {bs : List Int} (hn : look id K = some (v, bs)) (p m : Nat) (hpm : p + m ≤ bs.length) :
    Calls Try.prog 14 #[.pointer (some ⟨S, 0, none⟩), .int .i64 id, .int .i64 (p : Int), .int .i64 (m : Int)] w fun e w' => ∃ ao cap, e = .returned (.tuple #[.slice ao m cap, .int .i64 0]) ∧ Own .u8 w' w.heap.size 5 (.slice ao m cap) ((bs.drop p).take m) ∧ Ext w w' := by
  have hf := h.fit _ (look_mem hn)
  simp only at hf
  go_enter Try.func14, Try.ntmps14
  go_wp2_with fail
  refine (piece_some h hid hn p m hpm).mono ?_
  rintro e w1 ⟨⟨ao, cap, rfl, hpc⟩, rfl⟩
  have hl : ((bs.drop p).take m).length = m := by simp; omega
  have hrow := hide (hpc.row (h.own _ (look_mem hn)) hpm)
  have HL := hide hl
  clear h hn hpc hl
  go_wp2_with fail
  refine (clone_any _ _ _ (unhide hrow) (by rw [unhide HL]; omega)).mono ?_
  rintro e w2 ⟨ao2, cap2, rfl, hown, hb⟩
  rw [unhide HL] at hown ⊢
  have HO := hide hown
  have HB := hide hb
  clear hown hb
  go_wp2
  exact bodyPost_ret (v := .tuple #[.slice ao2 m cap2, .int .i64 0]) (by simp [results, Try.results14, go_sem]) rfl ⟨ao2, cap2, rfl, unhide HO, unhide HB⟩
end
theorem piece_nil (id at' n : Int) (w : World) :
    Calls Try.prog 31 #[.pointer none, .int .i64 id, .int .i64 at', .int .i64 n] w fun e w' => e = .returned (.tuple #[.slice none 0 0, .int .i64 1]) ∧ w' = w := by
  go_enter Try.func31, Try.ntmps31
  go_wp2_with fail
  refine (find_nil id _).mono ?_
  rintro e w1 ⟨rfl, rfl⟩
  go_wp2
  exact bodyPost_ret (v := .tuple #[.slice none 0 0, .int .i64 1]) (by simp [results, Try.results31, go_sem]) rfl ⟨rfl, rfl⟩
theorem size_nil (id : Int) (w : World) :
    Calls Try.prog 17 #[.pointer none, .int .i64 id] w fun e w' => e = .returned (.tuple #[.int .i64 0, .int .i64 1]) ∧ w' = w := by
  go_enter Try.func17, Try.ntmps17
  go_wp2_with fail
  refine (find_nil id _).mono ?_
  rintro e w1 ⟨rfl, rfl⟩
  go_wp2
  exact bodyPost_ret (v := .tuple #[.int .i64 0, .int .i64 1]) (by simp [results, Try.results17, go_sem]) rfl ⟨rfl, rfl⟩
theorem get_nil (id at' n : Int) (w : World) :
    Calls Try.prog 14 #[.pointer none, .int .i64 id, .int .i64 at', .int .i64 n] w fun e w' => e = .returned (.tuple #[.slice none 0 0, .int .i64 1]) ∧ w' = w := by
  go_enter Try.func14, Try.ntmps14
  go_wp2_with fail
  refine (piece_nil id at' n _).mono ?_
  rintro e w1 ⟨rfl, rfl⟩
  go_wp2
  exact bodyPost_ret (v := .tuple #[.slice none 0 0, .int .i64 1]) (by simp [results, Try.results14, go_sem]) rfl ⟨rfl, rfl⟩
end Go.Proofs.Ytagbenjaidikmaa
