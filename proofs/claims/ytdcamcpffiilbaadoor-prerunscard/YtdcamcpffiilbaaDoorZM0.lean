/-
  What a call leaves alone; rows of tokens that lie elsewhere.
-/
import Derived.Test.YtdcamcpffiilbaaDoorXM
import Derived.Maps.AppendAt
namespace Go.Proofs.YtdcamcpffiilbaaDoor
open Go.RowKit
set_option linter.unusedVariables false
set_option linter.unusedSimpArgs false

/-! ### What a call leaves alone -/
/-- All blocks but T's are as they were. -/
structure Out (T : Nat → Prop) (w w' : World) : Prop where
  os : w'.os = w.os
  tape : w'.tape = w.tape
  output : w'.output = w.output
  size : w.heap.size ≤ w'.heap.size
  block : ∀ k, k < w.heap.size → ¬ T k → w'.heap[k]? = w.heap[k]?
/-- T' is T and perhaps blocks that were not there. -/
def Wid (T T' : Nat → Prop) (w : World) : Prop := ∀ b, (b < w.heap.size → T b → T' b) ∧ (T' b → T b ∨ w.heap.size ≤ b)
section
variable {T T' T'' : Nat → Prop} {a b c w w' w'' : World}
theorem Out.refl (T : Nat → Prop) (w : World) : Out T w w := ⟨rfl, rfl, rfl, Nat.le_refl _, fun _ _ _ => rfl⟩
theorem Out.trans (h : Out T a b) (k : Out T' b c) (ht : ∀ k, T' k → T k ∨ a.heap.size ≤ k) : Out T a c :=
  ⟨k.os.trans h.os, k.tape.trans h.tape, k.output.trans h.output, Nat.le_trans h.size k.size, fun i hi hn => (k.block i (Nat.lt_of_lt_of_le hi h.size) (fun hT => by rcases ht i hT with h1 | h1; exact hn h1; omega)).trans (h.block i hi hn)⟩
theorem Out.wide (h : Out T w w') (ht : ∀ k, T k → T' k) : Out T' w w' := ⟨h.os, h.tape, h.output, h.size, fun i hi hn => h.block i hi (fun e => hn (ht i e))⟩
theorem Out.of_ext (h : Ext w w') : Out T w w' := ⟨h.os, h.tape, h.output, h.size, fun k hk _ => h.block k hk⟩
theorem Out.of_grown {r : Option Nat} (h : w.grownBy w' r) (hr : ∀ k, r = some k → T k) : Out T w w' :=
  ⟨h.os, h.tape, h.output, h.size, fun k hk hn => h.block k hk (fun e => hn (hr k e.symm))⟩
theorem Out.ext (h : Out T w w') (ht : ∀ k, T k → w.heap.size ≤ k) : Ext w w' := ⟨h.os, h.tape, h.output, h.size, fun k hk => h.block k hk (fun e => by have := ht k e; omega)⟩
theorem Out.ext0 (h : Out T w w') {v : World} (hx : Ext v w) (ht : ∀ k, T k → v.heap.size ≤ k) : Ext v w' :=
  ⟨h.os.trans hx.os, h.tape.trans hx.tape, h.output.trans hx.output, Nat.le_trans hx.size h.size, fun k hk => (h.block k (Nat.lt_of_lt_of_le hk hx.size) (fun e => by have := ht k e; omega)).trans (hx.block k hk)⟩
theorem Blk.out {n : Nat} {cs : Array Value} {t : TypeId} (h : Blk w n cs t) (ho : Out T w w') (hn : ¬ T n) : Blk w' n cs t := (ho.block n h.lt hn).trans h
theorem Wid.refl (T : Nat → Prop) (w : World) : Wid T T w := fun b => ⟨fun _ h => h, .inl⟩
theorem Wid.low (h : Wid T T' w') (hs : w.heap.size ≤ w'.heap.size) : Wid T T' w := fun b => ⟨fun hb e => (h b).1 (Nat.lt_of_lt_of_le hb hs) e, fun e => (h b).2 e |>.imp id (Nat.le_trans hs)⟩
theorem Wid.trans (h : Wid T T' w) (k : Wid T' T'' w') (hs : w.heap.size ≤ w'.heap.size) : Wid T T'' w := fun b => ⟨fun hb e => (k b).1 (Nat.lt_of_lt_of_le hb hs) ((h b).1 hb e), fun e => by
  rcases (k b).2 e with h1 | h1
  · exact (h b).2 h1
  · exact .inr (by omega)⟩
end

/-! ### Rows of tokens out of T -/
/-- The tokens of a row, its block none of T's. -/
def TF (T : Nat → Prop) (w : World) (v : Value) (L : List Tok) : Prop := TR w v L ∧ ∀ b off n cap, v = .slice (some ⟨b, off, none⟩) n cap → 0 < L.length → ¬ T b
section
variable {T T' : Nat → Prop} {w w' : World} {v : Value} {L : List Tok}
theorem TokAt.out {b off : Nat} {t : Tok} (h : TokAt w b off t) (ho : Out T w w') (hb : ¬ T b) : TokAt w' b off t := by
  have hc : ∀ j u, w.cell? ⟨b, j, none⟩ = some u → w'.cell? ⟨b, j, none⟩ = some u := fun j u hu => by
    have hl := World.block_lt_of_cell? w _ hu
    have := ho.block b hl hb
    unfold World.cell? at hu ⊢
    simp only at hu ⊢
    rw [this]
    exact hu
  exact ⟨hc _ _ h.kind, hc _ _ h.text, hc _ _ h.num, hc _ _ h.place, hc _ _ h.line⟩
theorem TF.out (h : TF T w v L) (ho : Out T w w') : TF T w' v L := by
  obtain ⟨⟨ao, cap, rfl, h1, h2, h3, h4⟩, hT⟩ := h
  refine ⟨⟨ao, cap, rfl, h1, h2, h3, fun i hi => ?_⟩, hT⟩
  obtain ⟨b, off, rfl, c⟩ := h4 i hi
  exact ⟨b, off, rfl, c.out ho (hT b off _ _ rfl (by omega))⟩
theorem TF.wid (h : TF T w v L) (hw : Wid T T' w) : TF T' w v L := by
  refine ⟨h.1, fun b off n cap e hL hT => ?_⟩
  rcases (hw b).2 hT with h1 | h1
  · exact h.2 b off n cap e hL h1
  · obtain ⟨ao, cap', e', _, _, _, h4⟩ := h.1
    obtain ⟨b', off', e2, c⟩ := h4 0 hL
    rw [e] at e'
    cases e'
    cases e2
    have := World.block_lt_of_cell? w _ c.kind
    simp only at this
    omega
theorem TF.step (h : TF T w v L) (ho : Out T w w') (hw : Wid T T' w) : TF T' w' v L := by
  have h1 := h.wid hw
  have h2 := h.out ho
  exact ⟨h2.1, h1.2⟩
theorem TF.ext (h : TF T w v L) (hx : Ext w w') : TF T w' v L := ⟨h.1.ext hx, h.2⟩
theorem TF.nil (w : World) : TF T w (.slice none 0 0) [] := ⟨TR.nil w, fun _ _ _ _ e => by cases e⟩
/-- A row that came with a call's answer. -/
theorem TF.of_TO {base : Nat} (h : TO w base v L) (ht : ∀ b, base ≤ b → ¬ T b) : TF T w v L := by
  refine ⟨h.tr, fun b off n cap e hL => ?_⟩
  rcases h.2 with ⟨_, h0⟩ | ⟨g, c, cur, e2, hb, _⟩
  · omega
  · rw [e] at e2
    cases e2
    exact ht b hb
/-- The tokens behind the first one. -/
theorem TF.tail {ao : Option Addr} {b off n cap : Nat} {t : Tok} (h : TF T w (.slice (some ⟨b, off, none⟩) n cap) (t :: L)) : TF T w (.slice (some ⟨b, off + 5, none⟩) L.length (cap - 1)) L := by
  obtain ⟨⟨ao, cap', e, h1, h2, h3, h4⟩, hT⟩ := h
  cases e
  simp only [List.length_cons] at h2
  refine ⟨⟨_, _, rfl, (fun e => by cases e), by omega, by omega, fun i hi => ?_⟩, fun b' off' n' cap'' e' hL => ?_⟩
  · obtain ⟨b', off', e', c⟩ := h4 (i + 1) (by simpa using hi)
    cases e'
    refine ⟨b, off + 5, rfl, ?_⟩
    rw [show off + 5 + i * 5 = off + (i + 1) * 5 by omega]
    simpa using c
  · cases e'
    exact hT b off _ _ rfl (by simp)
end

end Go.Proofs.YtdcamcpffiilbaaDoor
