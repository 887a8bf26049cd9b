/-
  Buffers by their numbers and bytes alone: what each call answers and leaves; the store's calls so.
-/
import Derived.Test.YtagbenjaidikmaaBK
namespace Go.Proofs.Ytagbenjaidikmaa
open Go.RowKit

abbrev Pl := List (Int × List Int)
def prj (K : List Ent) : Pl := K.map fun p => (p.1, p.2.2)
def sumP (P : Pl) : Nat := sumL (fun b : List Int => b.length) P
def lenP (id : Int) (P : Pl) : Nat := ((look id P).map fun b => b.length).getD 0
theorem prj_ins (x : Ent) (K : List Ent) : prj (ins x K) = ins (x.1, x.2.2) (prj K) := map_ins (fun p : Value × List Int => p.2) x K
theorem prj_rem (id : Int) (K : List Ent) : prj (rem id K) = rem id (prj K) := map_rem (fun p : Value × List Int => p.2) id K
theorem prj_look (id : Int) (K : List Ent) : look id (prj K) = (look id K).map (·.2) := map_look (fun p : Value × List Int => p.2) id K
theorem prj_len (K : List Ent) : (prj K).length = K.length := by simp [prj]
theorem prj_sum (K : List Ent) : sumP (prj K) = sumB K := by
  unfold sumP sumB sumL prj
  rw [List.map_map]
  rfl
theorem prj_lenOf (id : Int) (K : List Ent) : lenP id (prj K) = lenOf id K := by
  unfold lenP lenOf
  rw [prj_look, Option.map_map]
  rfl
theorem prj_rise {K : List Ent} (h : Rise K) : Rise (prj K) := List.pairwise_map.2 h

/-- What Data answers and leaves. -/
def dE (all id : Int) (xs : List Int) (P : Pl) : Int := if id < 1 then 2 else if all - sumP P + lenP id P < xs.length then 6 else 0
def dP (all id : Int) (xs : List Int) (P : Pl) : Pl := if id < 1 then P else if all - sumP P + lenP id P < xs.length then P else ins (id, xs) (rem id P)
/-- What Sub answers and leaves. -/
def sE (id a : Int) (xs : List Int) (P : Pl) : Int := match look id P with | none => 4 | some bs => if inB a xs.length bs.length = true then 0 else 2
def sP (id a : Int) (xs : List Int) (P : Pl) : Pl := match look id P with | none => P | some bs => if inB a xs.length bs.length = true then ins (id, layB bs a.toNat xs) (rem id P) else P
/-- What Drop answers. -/
def rE (id : Int) (P : Pl) : Int := match look id P with | none => 4 | some _ => 0
/-- What Get answers. -/
def gE (id a n : Int) (P : Pl) : Int := match look id P with | none => 4 | some bs => if inB a n bs.length = true then 0 else 2
def gB (id a n : Int) (P : Pl) : List Int := match look id P with | none => [] | some bs => if inB a n bs.length = true then (bs.drop a.toNat).take n.toNat else []

/-- What a call has left of a store: its buffers, and all else alone. -/
structure Left5 (w w' : World) (base S G M : Nat) (all : Int) (K : List Ent) (P' : Pl) : Prop where
  go : ∃ K', Sto w' base S G M all (sumB K') K' ∧ prj K' = P' ∧ Out (Mine G M K) w w' ∧ ∀ b, Mine G M K' b → Mine G M K b ∨ w.heap.size ≤ b
theorem Left5.same {w : World} {base S G M : Nat} {all : Int} {K : List Ent} (h : Sto w base S G M all (sumB K) K) : Left5 w w base S G M all K (prj K) := ⟨⟨K, h, rfl, Out.refl _ _, fun _ hb => .inl hb⟩⟩

section
variable {w : World} {base S G M : Nat} {all : Int} {K : List Ent}
theorem data_step (h : Sto w base S G M all (sumB K) K) {id : Int} (hid : I64 id) {v : Value} {xs : List Int} (hr : Row .u8 w v xs) (hx : xs.length ≤ 140737488355328) (hn : K.length < 1000000) :
    Calls Try.prog 10 #[.pointer (some ⟨S, 0, none⟩), .int .i64 id, v] w fun e w' => e = .returned (.int .i64 (dE all id xs (prj K))) ∧ Left5 w w' base S G M all K (dP all id xs (prj K)) := by
  unfold dE dP
  rw [prj_sum, prj_lenOf]
  by_cases hlow : id < 1
  · rw [if_pos hlow, if_pos hlow]
    refine (data_low id hlow v S w).mono ?_
    rintro e w' ⟨rfl, rfl⟩
    exact ⟨rfl, Left5.same h⟩
  · rw [if_neg hlow, if_neg hlow]
    by_cases hfull : all - (sumB K : Int) + lenOf id K < xs.length
    · rw [if_pos hfull, if_pos hfull]
      refine (data_full h hid (by omega) hr hfull).mono ?_
      rintro e w' ⟨rfl, hs, ho⟩
      exact ⟨rfl, ⟨K, hs, rfl, ho, fun _ hb => .inl hb⟩⟩
    · rw [if_neg hfull, if_neg hfull]
      have hsum := lenOf_le h.rise id
      refine (data_put h hid (by omega) hr (by omega) hx (by unfold maxLen; omega)).mono ?_
      rintro e w' ⟨v', rfl, hs, ho, hb⟩
      refine ⟨rfl, ⟨ins (id, v', xs) (rem id K), ?_, ?_, ho, fun b hb2 => ?_⟩⟩
      · have e : ((sumB (ins (id, v', xs) (rem id K)) : Nat) : Int) = max 0 ((sumB K : Int) - lenOf id K + xs.length) := by
          rw [sumB_ins]
          simp only
          omega
        rw [e]
        exact hs
      · rw [prj_ins, prj_rem]
      · rcases mine_ins hb2 with h1 | h1
        · exact .inl h1
        · exact .inr (hb b h1)
theorem sub_step (h : Sto w base S G M all (sumB K) K) {id : Int} (hid : I64 id) (a : Int) {v : Value} {xs : List Int} (hr : Row .u8 w v xs) :
    Calls Try.prog 12 #[.pointer (some ⟨S, 0, none⟩), .int .i64 id, .int .i64 a, v] w fun e w' => e = .returned (.int .i64 (sE id a xs (prj K))) ∧ Left5 w w' base S G M all K (sP id a xs (prj K)) := by
  unfold sE sP
  rw [prj_look]
  cases hl : look id K with
  | none =>
    refine (sub_none h hid hl a hr).mono ?_
    rintro e w' ⟨rfl, rfl⟩
    exact ⟨rfl, Left5.same h⟩
  | some q =>
    obtain ⟨u, bs⟩ := q
    simp only [Option.map_some]
    cases hb : inB a xs.length bs.length with
    | false =>
      simp only [Bool.false_eq_true, if_false]
      refine (sub_bad h hid hl a hr hb).mono ?_
      rintro e w' ⟨rfl, rfl⟩
      exact ⟨rfl, Left5.same h⟩
    | true =>
      simp only [if_true]
      obtain ⟨p, m, rfl, hm, hpm⟩ := inB_nat hb
      have hm2 : xs.length = m := by omega
      refine (sub_some h hid hl p hr (by omega)).mono ?_
      rintro e w' ⟨rfl, hs, ho⟩
      have hlay : (layB bs p xs).length = bs.length := layB_len (by omega)
      refine ⟨rfl, ⟨ins (id, u, layB bs p xs) (rem id K), ?_, ?_, ho, fun b hb2 => ?_⟩⟩
      · have e : sumB (ins (id, u, layB bs p xs) (rem id K)) = sumB K := by
          have h5 := lenOf_le h.rise id
          have h6 : lenOf id K = bs.length := by unfold lenOf; rw [hl]; rfl
          rw [sumB_ins]
          simp only [hlay]
          omega
        rw [e]
        exact hs
      · rw [prj_ins, prj_rem, Int.toNat_natCast]
      · rcases mine_ins hb2 with h1 | h1
        · exact .inl h1
        · exact .inl (.inr (.inr ⟨_, look_mem hl, h1⟩))
theorem drop_step (h : Sto w base S G M all (sumB K) K) {id : Int} (hid : I64 id) :
    Calls Try.prog 19 #[.pointer (some ⟨S, 0, none⟩), .int .i64 id] w fun e w' => e = .returned (.int .i64 (rE id (prj K))) ∧ Left5 w w' base S G M all K (rem id (prj K)) := by
  unfold rE
  cases hl : look id K with
  | none =>
    have hl2 : look id (prj K) = none := by rw [prj_look, hl]; rfl
    rw [hl2, rem_none hl2]
    refine (drop_none h hid hl).mono ?_
    rintro e w' ⟨rfl, rfl⟩
    exact ⟨rfl, Left5.same h⟩
  | some q =>
    obtain ⟨u, bs⟩ := q
    have hl2 : look id (prj K) = some bs := by rw [prj_look, hl]; rfl
    rw [hl2]
    refine (drop_some h hid hl).mono ?_
    rintro e w' ⟨rfl, hs, ho⟩
    refine ⟨rfl, ⟨rem id K, ?_, prj_rem id K, ho, fun b hb2 => .inl (mine_rem hb2)⟩⟩
    have e : ((sumB (rem id K) : Nat) : Int) = max 0 ((sumB K : Int) - bs.length) := by
      have h5 := lenOf_le h.rise id
      have h6 : lenOf id K = bs.length := by unfold lenOf; rw [hl]; rfl
      omega
    rw [e]
    exact hs
theorem get_step (h : Sto w base S G M all (sumB K) K) {id : Int} (hid : I64 id) (a n : Int) :
    Calls Try.prog 14 #[.pointer (some ⟨S, 0, none⟩), .int .i64 id, .int .i64 a, .int .i64 n] w fun e w' => ∃ ao cap, e = .returned (.tuple #[.slice ao (gB id a n (prj K)).length cap, .int .i64 (gE id a n (prj K))]) ∧ Row .u8 w' (.slice ao (gB id a n (prj K)).length cap) (gB id a n (prj K)) ∧ Ext w w' := by
  unfold gE gB
  rw [prj_look]
  cases hl : look id K with
  | none =>
    refine (get_none h hid hl a n).mono ?_
    rintro e w' ⟨rfl, rfl⟩
    exact ⟨none, 0, rfl, Row.nil _ _, Ext.refl _⟩
  | some q =>
    obtain ⟨u, bs⟩ := q
    simp only [Option.map_some]
    cases hb : inB a n bs.length with
    | false =>
      simp only [Bool.false_eq_true, if_false]
      refine (get_bad h hid hl a n hb).mono ?_
      rintro e w' ⟨rfl, rfl⟩
      exact ⟨none, 0, rfl, Row.nil _ _, Ext.refl _⟩
    | true =>
      simp only [if_true]
      obtain ⟨p, m, rfl, rfl, hpm⟩ := inB_nat hb
      have hlen : ((bs.drop p).take m).length = m := by simp; omega
      refine (get_some h hid hl p m hpm).mono ?_
      rintro e w' ⟨ao, cap, rfl, hown, hx⟩
      rw [Int.toNat_natCast, Int.toNat_natCast, hlen]
      exact ⟨ao, cap, rfl, hown.row, hx⟩
theorem size_step (h : Sto w base S G M all (sumB K) K) {id : Int} (hid : I64 id) :
    Calls Try.prog 17 #[.pointer (some ⟨S, 0, none⟩), .int .i64 id] w fun e w' => e = .returned (.tuple #[.int .i64 (lenP id (prj K) : Nat), .int .i64 (rE id (prj K))]) ∧ w' = w := by
  rw [prj_lenOf]
  unfold rE lenOf
  rw [prj_look]
  cases hl : look id K with
  | none => exact size_none h hid hl
  | some q =>
    obtain ⟨u, bs⟩ := q
    exact size_some h hid hl
end
end Go.Proofs.Ytagbenjaidikmaa
