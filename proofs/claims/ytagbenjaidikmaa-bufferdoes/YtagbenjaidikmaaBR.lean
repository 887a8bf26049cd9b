/-
  The document's store of buffers: its rows in memory; the walks of Left, Find, copied, inside, Same.
-/
import Derived.Test.YtagbenjaidikmaaBG
import Derived.Maps.AppendAt
import Derived.Test.YtagbenjaidikmaaW7
namespace Go.Proofs.Ytagbenjaidikmaa
open Go.RowKit

def bcells (L : List Ent) : List Value := L.flatMap fun p => [.int .i64 p.1, p.2.1]
theorem bcells_len (L : List Ent) : (bcells L).length = L.length * 2 := by
  induction L with
  | nil => rfl
  | cons x r ih =>
    unfold bcells at ih ⊢
    rw [List.flatMap_cons, List.length_append, ih]
    simp
    omega
theorem bcells_snoc (L : List Ent) (x : Ent) : bcells (L ++ [x]) = bcells L ++ [.int .i64 x.1, x.2.1] := by
  unfold bcells
  rw [List.flatMap_append]
  simp
theorem bcells_get : ∀ (L : List Ent) (i : Nat) (h : i < L.length), (bcells L)[i * 2]? = some (.int .i64 L[i].1) ∧ (bcells L)[i * 2 + 1]? = some L[i].2.1
  | x :: r, 0, _ => ⟨rfl, rfl⟩
  | x :: r, i + 1, h => by
    have ih := bcells_get r i (by simpa using h)
    have e : bcells (x :: r) = [.int .i64 x.1, x.2.1] ++ bcells r := rfl
    rw [e, List.getElem?_append_right (by simp; omega), List.getElem?_append_right (by simp; omega)]
    simp only [List.length_cons, List.length_nil, List.getElem_cons_succ]
    rw [show (i + 1) * 2 - (0 + 1 + 1) = i * 2 by omega, show (i + 1) * 2 + 1 - (0 + 1 + 1) = i * 2 + 1 by omega]
    exact ih

/-- A row of the document's buffers, made by the call; none of its blocks is T's. -/
structure RB (w : World) (T : Nat → Prop) (base : Nat) (v : Value) (L : List Ent) : Prop where
  own : w.ownsRow base 49 2 v L.length (bcells L)
  far : ∀ b, v.ownBlock = some b → ¬ T b
  row : ∀ p ∈ L, Row .u8 w p.2.1 p.2.2
  farR : ∀ p ∈ L, p.2.2 ≠ [] → ∀ b, p.2.1.ownBlock = some b → ¬ T b
  rise : Rise L
  ids : ∀ p ∈ L, 1 ≤ p.1 ∧ I64 p.1

section
variable {w w' : World} {T T' : Nat → Prop} {base : Nat} {v : Value} {L : List Ent}
theorem RB.ext (h : RB w T base v L) (hx : Ext w w') : RB w' T base v L := by
  refine ⟨World.ownsRow.kept h.own (ext_grown hx none) ?_, h.far, fun p hp => (h.row p hp).ext hx, h.farR, h.rise, h.ids⟩
  cases v.ownBlock <;> simp
theorem Row.out {k : IntKind} {u : Value} {xs : List Int} (h : Row k w u xs) (ho : Out T w w') (hf : xs ≠ [] → ∀ b, u.ownBlock = some b → ¬ T b) : Row k w' u xs := by
  rcases h with h | ⟨h0, b, off, cap, rfl, hl, hm, hc⟩
  · exact .inl h
  · refine .inr ⟨h0, b, off, cap, rfl, hl, hm, fun i hi => ?_⟩
    rw [World.cell?_of_block (w := w) (ho.block b (World.block_lt_of_cell? w _ (hc i hi)) (hf h0 b rfl))]
    exact hc i hi
/-- Other blocks turn, T's alone; T may grow by new blocks. -/
theorem RB.out (h : RB w T base v L) (ho : Out T w w') (ht : ∀ b, T' b → T b ∨ w.heap.size ≤ b) : RB w' T' base v L := by
  have hlt : ∀ b, v.ownBlock = some b → b < w.heap.size := fun b hb => (World.ownsRow.lt h.own b hb).2
  refine ⟨?_, fun b hb h2 => ?_, fun p hp => (h.row p hp).out ho (h.farR p hp), fun p hp hne b hb h2 => ?_, h.rise, h.ids⟩
  · have h1 := h.own
    refine ⟨h1.1, ?_⟩
    rcases h1.2 with hn | ⟨g, cap, cur, rfl, hb, hgg, rest⟩
    · exact .inl hn
    · exact .inr ⟨g, cap, cur, rfl, hb, (ho.block g (hlt g rfl) (h.far g rfl)).trans hgg, rest⟩
  · rcases ht b h2 with h3 | h3
    · exact h.far b hb h3
    · have := hlt b hb
      omega
  · rcases ht b h2 with h3 | h3
    · exact h.farR p hp hne b hb h3
    · rcases h.row p hp with ⟨h00, ao, cap, e, _⟩ | ⟨h0, b2, off, cap, e, _, _, hc⟩
      · exact absurd h00 hne
      · rw [e] at hb
        cases hb
        have h4 : b2 < w.heap.size := World.block_lt_of_cell? w _ (hc 0 (List.length_pos_iff.2 h0))
        have h5 : w.heap.size ≤ b2 := h3
        omega
theorem RB.shape (h : RB w T base v L) : ∃ ao cap, v = .slice ao L.length cap ∧ (ao = none → cap = 0) ∧ L.length ≤ cap ∧ cap ≤ maxLen := by
  rcases h.own.2 with ⟨rfl, h0⟩ | ⟨g, cap, cur, rfl, _, _, h1, h2, _⟩
  · rw [h0]
    exact ⟨none, 0, rfl, fun _ => rfl, Nat.le_refl _, Nat.zero_le _⟩
  · exact ⟨_, cap, rfl, (fun h => by cases h), h1, h2⟩
theorem RB.at {ao : Option Addr} {n cap : Nat} (h : RB w T base (.slice ao n cap) L) (i : Nat) (hi : i < L.length) : ∃ g, ao = some ⟨g, 0, none⟩ ∧ w.cell? ⟨g, i * 2, none⟩ = some (.int .i64 L[i].1) ∧ w.cell? ⟨g, i * 2 + 1, none⟩ = some L[i].2.1 := by
  rcases h.own.2 with ⟨e, h0⟩ | ⟨g, c, cur, e, _, hg, h1, h2, _⟩
  · omega
  · cases e
    have hc := World.ownsRow.cells h.own (g := g) rfl
    obtain ⟨e1, e2⟩ := bcells_get L i hi
    have c1 := hc _ _ e1
    have c2 := hc _ _ e2
    rw [Addr.add_lit, Nat.zero_add] at c1 c2
    exact ⟨g, rfl, c1, c2⟩
theorem RB.nil (w : World) (T : Nat → Prop) (base : Nat) : RB w T base (.slice none 0 0) [] :=
  ⟨World.ownsRow_nil _ _ _ _, by simp [Value.ownBlock], by simp, by simp, by simp [Rise], by simp⟩
end

/-- The document's store as a value: how many bytes in all, its buffers. -/
def rsto (all : Int) (v : Value) : Array Value := #[.int .i64 all, v]

section
variable {w : World} {T : Nat → Prop} {base : Nat} {v : Value} {L : List Ent} {all : Int}
theorem sumB_take (K : List Ent) (j : Nat) (h : j < K.length) : sumB (K.take (j + 1)) = sumB (K.take j) + K[j].2.2.length := by
  unfold sumB sumL
  rw [List.take_succ_eq_append_getElem h, List.map_append, List.sum_append]
  simp
theorem sumB_le (K : List Ent) (j : Nat) : sumB (K.take j) ≤ sumB K := by
  conv => rhs; rw [← List.take_append_drop j K]
  unfold sumB sumL
  rw [List.map_append, List.sum_append]
  omega

set_option maxHeartbeats 2000000 in
theorem refLeft_any (h : RB w T base v L) (h0 : 0 ≤ all) (h1 : all ≤ 262144) (hs : (sumB L : Int) ≤ all) :
    Calls Try.prog 22 #[.agg (rsto all v)] w fun e w' => e = .returned (.int .i64 (all - sumB L)) ∧ Ext w w' := by
  obtain ⟨ao, cap, rfl, hao, hlc, hcm⟩ := h.shape
  have hcm2 : cap ≤ 9223372036854775807 := by unfold maxLen at hcm; omega
  have HH := hide h
  have HA := hide hao
  clear h hao hcm
  unfold rsto
  go_enter Try.func22, Try.ntmps22
  go_wp2_with fail
  have hb := Blk.new w #[.int .i64 all, .slice ao L.length cap] 33
  have H1 := hide (And.intro ((unhide HH).ext ((Ext.refl w).alloc (.cells #[.int .i64 all, .slice ao L.length cap] 33))) ((Ext.refl w).alloc (.cells #[.int .i64 all, .slice ao L.length cap] 33)))
  have cB : (w.alloc (.cells #[.int .i64 all, .slice ao L.length cap] 33)).cell? ⟨w.heap.size, 1, none⟩ = some (.slice ao L.length cap) := hb.cell (i := 1) rfl
  generalize w.alloc (.cells #[.int .i64 all, .slice ao L.length cap] 33) = w1 at H1 cB ⊢
  clear hb
  go_loopw [4, 3] (fun i s wr => ∃ k : Nat, k ≤ L.length ∧ i = .int .i64 (k : Int) ∧ s = .int .i64 (all - (sumB (L.take k) : Int)) ∧ wr = w1) (fun i _ _ => L.length - (intOf i).toNat)
  case atStart => exact ⟨0, Nat.zero_le _, rfl, by simp [sumB, sumL], rfl⟩
  case round =>
    obtain ⟨k, hk, rfl, rfl, rfl⟩ := hrel
    have hle := sumB_le L k
    by_cases hlt : k < L.length
    · obtain ⟨g, rfl, c1, c2⟩ := (unhide H1).1.at k hlt
      have hst := sumB_take L k hlt
      have hle2 := sumB_le L (k + 1)
      obtain ⟨bo, bcap, e5, _⟩ := ((unhide H1).1.row _ (List.getElem_mem hlt)).shape
      rw [e5] at c2
      generalize L[k].2.2 = bs at hst c2 e5
      have hkn : (k : Int) < (L.length : Int) := by omega
      have HST := hide hst
      have hb1 : sumB (L.take k) + bs.length ≤ sumB L := by omega
      clear hst hle2 e5 c1
      go_wp2
      go_roundw
      case rel => exact ⟨k + 1, by omega, by go_num, by rw [unhide HST]; go_num, by first | rfl | trivial⟩
      case measure => simp [intOf]; omega
    · obtain rfl : k = L.length := by omega
      rw [List.take_length]
      clear hlt hk hle
      go_wp2
      go_ret
      exact ⟨rfl, (unhide H1).2⟩

set_option maxHeartbeats 2000000 in
theorem refFind_none (h : RB w T base v L) {id : Int} (hn : look id L = none) :
    Calls Try.prog 18 #[.agg (rsto all v), .int .i64 id] w fun e w' => e = .returned (.int .i64 (-1)) ∧ Ext w w' := by
  obtain ⟨ao, cap, rfl, hao, hlc, hcm⟩ := h.shape
  have hcm2 : cap ≤ 9223372036854775807 := by unfold maxLen at hcm; omega
  have HH := hide h
  have HN := hide (look_none hn)
  clear h hao hcm hn
  unfold rsto
  go_enter Try.func18, Try.ntmps18
  go_wp2_with fail
  have hb := Blk.new w #[.int .i64 all, .slice ao L.length cap] 33
  have H1 := hide (And.intro ((unhide HH).ext ((Ext.refl w).alloc (.cells #[.int .i64 all, .slice ao L.length cap] 33))) ((Ext.refl w).alloc (.cells #[.int .i64 all, .slice ao L.length cap] 33)))
  have cB : (w.alloc (.cells #[.int .i64 all, .slice ao L.length cap] 33)).cell? ⟨w.heap.size, 1, none⟩ = some (.slice ao L.length cap) := hb.cell (i := 1) rfl
  generalize w.alloc (.cells #[.int .i64 all, .slice ao L.length cap] 33) = w1 at H1 cB ⊢
  clear hb
  go_loopw [5] (fun i wr => ∃ k : Nat, k ≤ L.length ∧ i = .int .i64 (k : Int) ∧ wr = w1) (fun i _ => L.length - (intOf i).toNat)
  case atStart => exact ⟨0, Nat.zero_le _, rfl, rfl⟩
  case round =>
    obtain ⟨k, hk, rfl, rfl⟩ := hrel
    by_cases hlt : k < L.length
    · obtain ⟨g, rfl, c1, c2⟩ := (unhide H1).1.at k hlt
      have hne : (L[k].1 == id) = false := by simpa using unhide HN _ (List.getElem_mem hlt)
      generalize L[k].1 = j at c1 hne
      have hkn : (k : Int) < (L.length : Int) := by omega
      clear c2
      go_wp2
      go_roundw
      case rel => exact ⟨k + 1, by omega, by go_num, by first | rfl | trivial⟩
      case measure => simp [intOf]; omega
    · obtain rfl : k = L.length := by omega
      clear hlt hk
      go_wp2
      go_ret
      exact ⟨rfl, (unhide H1).2⟩
set_option maxHeartbeats 2000000 in
theorem refFind_some (h : RB w T base v L) {id : Int} {u : Value} {bs : List Int} (hn : look id L = some (u, bs)) :
    Calls Try.prog 18 #[.agg (rsto all v), .int .i64 id] w fun e w' => (∃ (j : Nat) (hj : j < L.length), e = .returned (.int .i64 (j : Int)) ∧ L[j] = (id, u, bs)) ∧ Ext w w' := by
  obtain ⟨ao, cap, rfl, hao, hlc, hcm⟩ := h.shape
  have hcm2 : cap ≤ 9223372036854775807 := by unfold maxLen at hcm; omega
  have HH := hide h
  have HN := hide hn
  clear h hao hcm hn
  unfold rsto
  go_enter Try.func18, Try.ntmps18
  go_wp2_with fail
  have hb := Blk.new w #[.int .i64 all, .slice ao L.length cap] 33
  have H1 := hide (And.intro ((unhide HH).ext ((Ext.refl w).alloc (.cells #[.int .i64 all, .slice ao L.length cap] 33))) ((Ext.refl w).alloc (.cells #[.int .i64 all, .slice ao L.length cap] 33)))
  have cB : (w.alloc (.cells #[.int .i64 all, .slice ao L.length cap] 33)).cell? ⟨w.heap.size, 1, none⟩ = some (.slice ao L.length cap) := hb.cell (i := 1) rfl
  generalize w.alloc (.cells #[.int .i64 all, .slice ao L.length cap] 33) = w1 at H1 cB ⊢
  clear hb
  go_loopw [5] (fun i wr => ∃ k : Nat, k ≤ L.length ∧ i = .int .i64 (k : Int) ∧ (∀ p ∈ L.take k, p.1 ≠ id) ∧ wr = w1) (fun i _ => L.length - (intOf i).toNat)
  case atStart => exact ⟨0, Nat.zero_le _, rfl, by simp, rfl⟩
  case round =>
    obtain ⟨k, hk, rfl, hno, rfl⟩ := hrel
    have HNO := hide hno
    clear hno
    by_cases hlt : k < L.length
    · obtain ⟨g, rfl, c1, c2⟩ := (unhide H1).1.at k hlt
      have hkn : (k : Int) < (L.length : Int) := by omega
      clear c2
      by_cases he : L[k].1 = id
      · have hne : (L[k].1 == id) = true := by simp [he]
        have HJ := hide (show L[k] = (id, u, bs) by
          have h1 : (id, L[k].2) ∈ L := by rw [← he]; exact List.getElem_mem hlt
          have h2 := look_of_mem (unhide HH).rise h1
          rw [unhide HN] at h2
          have h3 : L[k] = (L[k].1, L[k].2) := rfl
          rw [h3, he, ← Option.some.inj h2])
        clear he
        generalize hq : L[k].1 = j at c1 hne
        clear hq
        go_wp2
        go_ret
        exact ⟨⟨k, hlt, rfl, unhide HJ⟩, (unhide H1).2⟩
      · have hne : (L[k].1 == id) = false := by simp [he]
        have HNK := hide (show ∀ p ∈ L.take (k + 1), p.1 ≠ id by
          intro p hp
          rw [List.take_succ_eq_append_getElem hlt, List.mem_append] at hp
          rcases hp with hp | hp
          · exact unhide HNO p hp
          · simp at hp
            subst hp
            exact he)
        clear he
        generalize hq : L[k].1 = j at c1 hne
        clear hq
        go_wp2
        go_roundw
        case rel => exact ⟨k + 1, by omega, by go_num, unhide HNK, by first | rfl | trivial⟩
        case measure => simp [intOf]; omega
    · exfalso
      have hm := look_mem (unhide HN)
      have hno := unhide HNO
      rw [List.take_of_length_le (by omega)] at hno
      exact hno _ hm rfl

set_option maxHeartbeats 2000000 in
theorem copied_any (u : Value) (xs : List Int) (w : World) (hr : Row .u8 w u xs) (hm : xs.length ≤ 140737488355328) :
    Calls Try.prog 30 #[u] w fun e w' => ∃ g, e = .returned (.slice (some ⟨g, 0, none⟩) xs.length xs.length) ∧ Own .u8 w' w.heap.size 5 (.slice (some ⟨g, 0, none⟩) xs.length xs.length) xs ∧ Ext w w' := by
  obtain ⟨i0, hi, hz0, hz1, hz2⟩ := info_parts info5
  obtain ⟨ao, cap, rfl, hao, hlc, hcm⟩ := hr.shape
  have hcm2 : cap ≤ 9223372036854775807 := by unfold maxLen at hcm; omega
  have HR := hide hr
  clear hr hao hcm
  go_enter Try.func30, Try.ntmps30
  go_wp2_with (first | (at_make; refine wpList_make_Zeros _ rfl _ _ 34 rfl w.heap.size 5 i0 .u8 Try.underlying34 hi hz0 hz1 _ _ _ _ xs.length rfl rfl rfl rfl ?b1 ?b2 ?b3 ?_))
  case b1 => rw [hz2]; omega
  case b2 => unfold maxLen; omega
  case b3 => exact Nat.le_refl _
  intro w1 hown hg
  have H1 := hide (And.intro hown (grown_below hg (Nat.le_refl _) (by simp)))
  clear hown hg
  go_wp2_with fail
  go_loopw [4] (fun i wr => ∃ k : Nat, k ≤ xs.length ∧ i = .int .i64 (k : Int) ∧ Own .u8 wr w.heap.size 5 (.slice (some ⟨w.heap.size, 0, none⟩) xs.length xs.length) (xs.take k ++ List.replicate (xs.length - k) 0) ∧ Ext w wr) (fun i _ => xs.length - (intOf i).toNat)
  case atStart => exact ⟨0, Nat.zero_le _, rfl, by simpa using (unhide H1).1, (unhide H1).2⟩
  case round =>
    clear H1
    obtain ⟨k, hk, rfl, hO, hX⟩ := hrel
    by_cases hlt : k < xs.length
    · obtain ⟨b, off, rfl, hc⟩ := ((unhide HR).ext hX).at k hlt
      have ck := hc k hlt
      have hkn : (k : Int) < (xs.length : Int) := by omega
      have hl : (xs.take k ++ List.replicate (xs.length - k) 0).length = xs.length := by simp; omega
      have c2 := hO.cellAt k (by omega)
      have f2 := hO.frozenAt k
      have hO2 := hO.stored k xs[k]
      have e2 : (xs.take k ++ List.replicate (xs.length - k) 0).set k xs[k] = xs.take (k + 1) ++ List.replicate (xs.length - (k + 1)) 0 := by
        rw [show xs.length - k = (xs.length - (k + 1)) + 1 by omega, List.replicate_succ, List.set_append_right _ _ (by simp; omega)]
        simp only [List.length_take, Nat.min_eq_left (Nat.le_of_lt hlt), Nat.sub_self, List.set_cons_zero]
        rw [List.take_succ_eq_append_getElem hlt, List.append_assoc]
        rfl
      rw [e2] at hO2
      have hX2 : Ext w (wr.setCell ⟨w.heap.size, k, none⟩ (.int .u8 xs[k])) := below_grown hX (grownBy_set _ _ _ _) hX.size (Nat.le_refl _)
      have H2 := hide (And.intro hO2 hX2)
      generalize (xs.take k ++ List.replicate (xs.length - k) 0)[k]'(by omega) = old at c2
      generalize xs[k] = x at ck H2
      clear hO hX hc hO2 hX2 e2 hl
      go_wp2
      go_roundw
      case rel => exact ⟨k + 1, by omega, by go_num, (unhide H2).1, (unhide H2).2⟩
      case measure => simp [intOf]; omega
    · obtain rfl : k = xs.length := by omega
      rw [Nat.sub_self, List.replicate_zero, List.append_nil, List.take_length] at hO
      have H2 := hide (And.intro hO hX)
      clear hO hX hlt hk
      go_wp2
      go_ret
      exact ⟨_, rfl, (unhide H2).1, (unhide H2).2⟩
end

set_option maxHeartbeats 1000000 in
theorem inside_any (at' n all : Int) (h0 : 0 ≤ all) (h1 : all ≤ 9223372036854775807) (w : World) :
    Calls Try.prog 32 #[.int .i64 at', .int .i64 n, .int .i64 all] w fun e w' => e = .returned (.bool (inB at' n all)) ∧ w' = w := by
  go_enter Try.func32, Try.ntmps32
  have E := hide (show inB at' n all = decide (0 ≤ at' ∧ at' ≤ all ∧ 0 ≤ n ∧ n ≤ all - at') from rfl)
  by_cases a1 : 0 ≤ at'
  · by_cases a2 : at' ≤ all
    · by_cases a3 : 0 ≤ n
      · by_cases a4 : n ≤ all - at'
        · go_wp2
          go_ret
          refine ⟨?_, rfl⟩
          rw [unhide E, decide_eq_true ⟨a1, a2, a3, a4⟩]; rfl
        · have E2 := hide (show inB at' n all = false by rw [unhide E, decide_eq_false (by omega)])
          go_wp2
          go_ret
          refine ⟨?_, rfl⟩
          rw [unhide E2]; rfl
      · have E2 := hide (show inB at' n all = false by rw [unhide E, decide_eq_false (by omega)])
        go_wp2
        go_ret
        refine ⟨?_, rfl⟩
        rw [unhide E2]; rfl
    · have E2 := hide (show inB at' n all = false by rw [unhide E, decide_eq_false (by omega)])
      go_wp2
      go_ret
      refine ⟨?_, rfl⟩
      rw [unhide E2]; rfl
  · have E2 := hide (show inB at' n all = false by rw [unhide E, decide_eq_false (by omega)])
    go_wp2
    go_ret
    refine ⟨?_, rfl⟩
    rw [unhide E2]; rfl
end Go.Proofs.Ytagbenjaidikmaa
