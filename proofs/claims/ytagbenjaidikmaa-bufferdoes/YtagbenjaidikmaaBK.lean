/-
  Buffers: what keeps a buffer as it is; bytes.Equal of the same bytes.
-/
import Derived.Test.YtagbenjaidikmaaBO
import Derived.Test.YtagbenjaidikmaaBL
import Derived.Shelf.Bytes.SlEqualAll
namespace Go.Proofs.Ytagbenjaidikmaa
open Go.RowKit

theorem str_of (ao : Option Addr) (n cap : Nat) (xs : List Int) (w : World) (hr : Row .u8 w (.slice ao n cap) xs) (hl : n = xs.length) : (convert 34 9 (.slice ao n cap)).run Try.prog w = .ok (.string (strOfNums xs)) w := by
  subst hl
  rcases hr with ⟨rfl, ao', cap', hv, _⟩ | ⟨hne, b, off, cap', hv, _, _, hc⟩
  · cases hv
    exact run_convert_bytes_zero w 34 5 Try.underlying34 Try.underlying5 ao cap 9 Try.underlying9
  · cases hv
    exact run_convert_bytes_arg (P := Try.prog) w 34 5 Try.underlying34 Try.underlying5 b off xs.length cap xs rfl hc 9 Try.underlying9
theorem equal_same (ao ap : Option Addr) (cap cbp : Nat) (xs : List Int) (w : World) (hr : Row .u8 w (.slice ao xs.length cap) xs) (hs : Row .u8 w (.slice ap xs.length cbp) xs) :
    Calls Try.prog 26 #[.slice ao xs.length cap, .slice ap xs.length cbp] w fun e w' => e = .returned (.bool true) ∧ w' = w := by
  have h1 := str_of ao xs.length cap xs w hr rfl
  have h2 := str_of ap xs.length cbp xs w hs rfl
  generalize strOfNums xs = s at *
  clear hr hs
  go_enter Try.func26, Try.ntmps26
  go_wp2
  go_ret
  exact ⟨by simp, rfl⟩

/-- All bytes of a store's buffers. -/
def sumB (K : List Ent) : Nat := sumL (fun p : Value × List Int => p.2.length) K
theorem lenOf_le {K : List Ent} (hr : Rise K) (id : Int) : sumB (rem id K) + lenOf id K = sumB K := sumL_rem _ id hr
theorem sumB_ins (x : Ent) (K : List Ent) : sumB (ins x K) = x.2.2.length + sumB K := sumL_ins _ x K

/-- The store has a buffer of these bytes under this number, and what is taken are all buffers' bytes. -/
def Kp (w : World) (base S G M : Nat) (all id : Int) (own : List Int) (n : Nat) : Prop :=
  ∃ (K : List Ent) (v : Value), Sto w base S G M all (sumB K) K ∧ look id K = some (v, own) ∧ K.length ≤ n

section
variable {w : World} {base S G M n : Nat} {all id : Int} {own : List Int}
theorem Kp.ext {w' : World} (h : Kp w base S G M all id own n) (hx : Ext w w') : Kp w' base S G M all id own n := by
  obtain ⟨K, v, h1, h2, h3⟩ := h
  exact ⟨K, v, h1.ext hx, h2, h3⟩
theorem Sto.below {w' : World} {tk : Int} {K : List Ent} (h : Sto w base S G M all tk K) (ho : Out (Mine G M K) w w') : Below base w w' :=
  ho.below (Nat.le_trans h.low.1 (Nat.le_of_lt h.st.lt)) (fun _ hk => h.mine_low hk)

theorem data_kp (h : Kp w base S G M all id own n) {i : Int} (hi : I64 i) (hne : i ≠ id) {v : Value} {xs : List Int} (hr : Row .u8 w v xs) (hn : n < 1000000) :
    Calls Try.prog 10 #[.pointer (some ⟨S, 0, none⟩), .int .i64 i, v] w fun e w' => ∃ E : Int, e = .returned (.int .i64 E) ∧ Kp w' base S G M all id own (n + 1) ∧ Below base w w' := by
  obtain ⟨K, u, h1, h2, h3⟩ := h
  by_cases hlow : i < 1
  · refine (data_low i hlow v S w).mono ?_
    rintro e w' ⟨rfl, rfl⟩
    exact ⟨2, rfl, ⟨K, u, h1, h2, by omega⟩, Below.refl _ _⟩
  · by_cases hfull : all - (sumB K : Int) + lenOf i K < xs.length
    · refine (data_full h1 hi (by omega) hr hfull).mono ?_
      rintro e w' ⟨rfl, hs, ho⟩
      exact ⟨6, rfl, ⟨K, u, hs, h2, by omega⟩, h1.below ho⟩
    · have hsum := lenOf_le h1.rise i
      have hok := h1.ok
      obtain ⟨q0, q1, q2⟩ := hok
      refine (data_put h1 hi (by omega) hr (by omega) (by omega) (by unfold maxLen; omega)).mono ?_
      rintro e w' ⟨v', rfl, hs, ho, _⟩
      refine ⟨0, rfl, ⟨ins (i, v', xs) (rem i K), u, ?_, ?_, ?_⟩, h1.below ho⟩
      · have e : ((sumB (ins (i, v', xs) (rem i K)) : Nat) : Int) = max 0 ((sumB K : Int) - lenOf i K + xs.length) := by
          rw [sumB_ins]
          simp only
          omega
        rw [e]
        exact hs
      · rw [look_ins_other (Ne.symm hne), look_rem_other (Ne.symm hne)]
        exact h2
      · rw [len_ins]
        have := len_rem i K
        omega
theorem sub_kp (h : Kp w base S G M all id own n) {i : Int} (hi : I64 i) (hne : i ≠ id) (a : Int) {v : Value} {xs : List Int} (hr : Row .u8 w v xs) :
    Calls Try.prog 12 #[.pointer (some ⟨S, 0, none⟩), .int .i64 i, .int .i64 a, v] w fun e w' => ∃ E : Int, e = .returned (.int .i64 E) ∧ Kp w' base S G M all id own (n + 1) ∧ Below base w w' := by
  obtain ⟨K, u, h1, h2, h3⟩ := h
  cases hl : look i K with
  | none =>
    refine (sub_none h1 hi hl a hr).mono ?_
    rintro e w' ⟨rfl, rfl⟩
    exact ⟨4, rfl, ⟨K, u, h1, h2, by omega⟩, Below.refl _ _⟩
  | some q =>
    obtain ⟨u2, bs⟩ := q
    cases hb : inB a xs.length bs.length with
    | false =>
      refine (sub_bad h1 hi hl a hr hb).mono ?_
      rintro e w' ⟨rfl, rfl⟩
      exact ⟨2, rfl, ⟨K, u, h1, h2, by omega⟩, Below.refl _ _⟩
    | true =>
      obtain ⟨p, m, rfl, hm, hpm⟩ := inB_nat hb
      have hm2 : xs.length = m := by omega
      refine (sub_some h1 hi hl p hr (by omega)).mono ?_
      rintro e w' ⟨rfl, hs, ho⟩
      have hlay : (layB bs p xs).length = bs.length := layB_len (by omega)
      refine ⟨0, rfl, ⟨ins (i, u2, layB bs p xs) (rem i K), u, ?_, ?_, ?_⟩, h1.below ho⟩
      · have e : sumB (ins (i, u2, layB bs p xs) (rem i K)) = sumB K := by
          have h5 := lenOf_le h1.rise i
          have h6 : lenOf i K = bs.length := by unfold lenOf; rw [hl]; rfl
          rw [sumB_ins]
          simp only [hlay]
          omega
        rw [e]
        exact hs
      · rw [look_ins_other (Ne.symm hne), look_rem_other (Ne.symm hne)]
        exact h2
      · rw [len_ins]
        have := len_rem i K
        omega
theorem drop_kp (h : Kp w base S G M all id own n) {i : Int} (hi : I64 i) (hne : i ≠ id) :
    Calls Try.prog 19 #[.pointer (some ⟨S, 0, none⟩), .int .i64 i] w fun e w' => ∃ E : Int, e = .returned (.int .i64 E) ∧ Kp w' base S G M all id own (n + 1) ∧ Below base w w' := by
  obtain ⟨K, u, h1, h2, h3⟩ := h
  cases hl : look i K with
  | none =>
    refine (drop_none h1 hi hl).mono ?_
    rintro e w' ⟨rfl, rfl⟩
    exact ⟨4, rfl, ⟨K, u, h1, h2, by omega⟩, Below.refl _ _⟩
  | some q =>
    obtain ⟨u2, bs⟩ := q
    refine (drop_some h1 hi hl).mono ?_
    rintro e w' ⟨rfl, hs, ho⟩
    refine ⟨0, rfl, ⟨rem i K, u, ?_, ?_, ?_⟩, h1.below ho⟩
    · have e : ((sumB (rem i K) : Nat) : Int) = max 0 ((sumB K : Int) - bs.length) := by
        have h5 := lenOf_le h1.rise i
        have h6 : lenOf i K = bs.length := by unfold lenOf; rw [hl]; rfl
        omega
      rw [e]
      exact hs
    · rw [look_rem_other (Ne.symm hne)]
      exact h2
    · have := len_rem i K
      omega
end
end Go.Proofs.Ytagbenjaidikmaa
