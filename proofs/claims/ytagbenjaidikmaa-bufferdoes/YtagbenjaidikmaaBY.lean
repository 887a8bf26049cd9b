/-
  The store and the document's store side by side: what holds of both between two calls.
-/
import Derived.Test.YtagbenjaidikmaaBX
namespace Go.Proofs.Ytagbenjaidikmaa
open Go.RowKit

/-- The store of blocks S, G, M with the buffers K; the document's in block mb with the buffers L. -/
structure LI (w wr : World) (S G M mb : Nat) (B : Int) (K L : List Ent) (vm : Value) : Prop where
  sto : Sto wr w.heap.size S G M B (sumB K) K
  rb : RB wr (fun b => Mine G M K b ∨ b = mb) w.heap.size vm L
  blk : Blk wr mb #[.int .i64 B, vm] 33
  nm : ¬ Mine G M K mb
  nS : mb ≠ S
  low : w.heap.size ≤ mb
  ext : Ext w wr

section
variable {w wr w' : World} {S G M mb : Nat} {B : Int} {K L : List Ent} {vm : Value}
theorem LI.exts (h : LI w wr S G M mb B K L vm) (hx : Ext wr w') : LI w w' S G M mb B K L vm := ⟨h.sto.ext hx, h.rb.ext hx, h.blk.ext hx, h.nm, h.nS, h.low, h.ext.trans hx⟩
theorem LI.tlt (h : LI w wr S G M mb B K L vm) : ∀ b, (Mine G M K b ∨ b = mb) → b < wr.heap.size := by
  intro b hb
  rcases hb with hb | rfl
  · exact h.sto.mine_lt hb
  · exact h.blk.lt
/-- The store was called. -/
theorem LI.call {P' : Pl} (h : LI w wr S G M mb B K L vm) (hl : Left5 wr w' w.heap.size S G M B K P') : ∃ K', LI w w' S G M mb B K' L vm ∧ prj K' = P' := by
  obtain ⟨K', hs, hp, ho, hm⟩ := hl.go
  have hlt := h.blk.lt
  refine ⟨K', ⟨hs, ?_, h.blk.out ho h.nm, fun e => ?_, h.nS, h.low, Below.trans h.ext (h.sto.below ho)⟩, hp⟩
  · refine h.rb.out ⟨ho.os, ho.tape, ho.output, ho.size, fun k hk hn => ho.block k hk (fun h2 => hn (.inl h2))⟩ (fun b hb => ?_)
    rcases hb with hb | rfl
    · exact (hm b hb).imp (fun h2 => .inl h2) (fun h2 => h2)
    · exact .inl (.inr rfl)
  · rcases hm mb e with h2 | h2
    · exact h.nm h2
    · omega
/-- Another block than the store's was written. -/
theorem Sto.other {base : Nat} {all tk : Int} {r : Nat} (h : Sto wr base S G M all tk K) (hg : wr.grownBy w' (some r)) (hS : r ≠ S) (hm : ¬ Mine G M K r) : Sto w' base S G M all tk K := by
  refine ⟨h.st.grown hg (fun e => hS e.symm), h.bu.grown hg (fun e => hm (.inl e.symm)), h.ok, h.mp.kept hg (fun e => ?_), h.rise, h.ids, fun p hp => (h.own p hp).grown hg (fun b hb e => ?_), h.fit, h.apart, h.alone, h.low, h.ne⟩
  · cases e
    exact hm (.inr (.inl rfl))
  · cases e
    exact hm (.inr (.inr ⟨p, hp, hb⟩))
/-- The document's store was called, and stands in mb anew. -/
theorem LI.put {L' : List Ent} {ao ao' : Option Addr} {n n' cap cap' : Nat} (h : LI w wr S G M mb B K L (.slice ao n cap)) (hx : Ext wr w') (hr : RB w' (fun b => Mine G M K b ∨ b = mb) w.heap.size (.slice ao' n' cap') L') :
    LI w ((w'.setCell ⟨mb, 0, none⟩ (.int .i64 B)).setCell ⟨mb, 1, none⟩ (.slice ao' n' cap')) S G M mb B K L' (.slice ao' n' cap') := by
  have h2 := h.exts hx
  have hg : w'.grownBy ((w'.setCell ⟨mb, 0, none⟩ (.int .i64 B)).setCell ⟨mb, 1, none⟩ (.slice ao' n' cap')) (some mb) := (grownBy_set _ _ _ _).trans (grownBy_set _ _ _ _)
  exact ⟨h2.sto.other hg h.nS h.nm, hr.kept1 h2.blk (fun e => hr.far _ e (.inr rfl)) hg, (h2.blk.set 0 _).set 1 _, h.nm, h.nS, h.low, below_grown h2.ext hg h2.ext.size h.low⟩
end

theorem dP_len (all id : Int) (xs : List Int) (P : Pl) : (dP all id xs P).length ≤ P.length + 1 := by
  unfold dP
  have := len_rem id P
  split
  · omega
  · split
    · omega
    · rw [len_ins]; omega
theorem sP_len (id a : Int) (xs : List Int) (P : Pl) : (sP id a xs P).length ≤ P.length + 1 := by
  unfold sP
  have := len_rem id P
  split
  · omega
  · split
    · rw [len_ins]; omega
    · omega
theorem mem_le_sum {K : List Ent} {p : Ent} (h : p ∈ K) : p.2.2.length ≤ sumB K := by
  induction K with
  | nil => simp at h
  | cons x r ih =>
    simp only [sumB, sumL, List.map_cons, List.sum_cons] at ih ⊢
    rcases List.mem_cons.1 h with rfl | h
    · omega
    · have := ih h
      omega
theorem kind5 (K : Int) : (wrap64 (K.tmod 5 + 5)).tmod 5 = 0 ∨ (wrap64 (K.tmod 5 + 5)).tmod 5 = 1 ∨ (wrap64 (K.tmod 5 + 5)).tmod 5 = 2 ∨ (wrap64 (K.tmod 5 + 5)).tmod 5 = 3 ∨ (wrap64 (K.tmod 5 + 5)).tmod 5 = 4 := by
  have h1 := Int.lt_tmod_of_pos K (show (0 : Int) < 5 by omega)
  have h2 := Int.tmod_lt_of_pos K (show (0 : Int) < 5 by omega)
  generalize K.tmod 5 = r at *
  rw [show wrap64 (r + 5) = r + 5 by unfold wrap64; omega, Int.tmod_eq_emod_of_nonneg (by omega)]
  omega
section
variable {w wr : World} {S G M mb : Nat} {B : Int} {K L : List Ent} {vm : Value}
theorem LI.sums (h : LI w wr S G M mb B K L vm) (he : prj K = prj L) : 0 ≤ B ∧ B ≤ 262144 ∧ sumB L = sumB K ∧ (sumB L : Int) ≤ B ∧ ∀ p ∈ L, p.2.2.length ≤ 262144 := by
  obtain ⟨q0, q1, q2⟩ := h.sto.ok
  have e : sumB L = sumB K := by rw [← prj_sum, ← prj_sum, he]
  refine ⟨by omega, q2, e, by omega, fun p hp => ?_⟩
  have := mem_le_sum hp
  omega
end
end Go.Proofs.Ytagbenjaidikmaa
