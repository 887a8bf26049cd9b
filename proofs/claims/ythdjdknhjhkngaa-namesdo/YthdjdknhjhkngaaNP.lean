/-
  Rising lists of names, to their last one; worlds that a range over a function leaves, and the marks that it leaves behind.
-/
import Derived.Test.YthdjdknhjhkngaaNN
import Derived.Test.YthdjdknhjhkngaaNO
namespace Go.Proofs.Ythdjdknhjhkngaa
open Go.RowKit

/-- The last of a list; 0, if there is none. -/
def lastN (l : List Nat) : Nat := l.getLastD 0
theorem lastN_nil : lastN [] = 0 := rfl
theorem lastN_snoc (l : List Nat) (x : Nat) : lastN (l ++ [x]) = x := by simp [lastN]
theorem last_le {l : List Nat} (h : l.Pairwise (· < ·)) {a : Nat} (ha : a ∈ l) : a ≤ lastN l := by
  rcases List.eq_nil_or_concat l with rfl | ⟨l', z, rfl⟩
  · cases ha
  · rw [List.concat_eq_append] at h ha ⊢
    rw [lastN_snoc]
    rcases List.mem_append.1 ha with h1 | h1
    · exact Nat.le_of_lt ((List.pairwise_append.1 h).2.2 a h1 z (by simp))
    · simp at h1
      omega
theorem good_last {s : Nat → Int} {c : Int} {l : List Nat} {x : Nat} (h : l ++ [x] <+: sel s c 64) : lastN l < x ∧ ∀ k, lastN l < k → k < x → s k ≠ c := by
  obtain ⟨t, ht⟩ := h
  have hp := sel_rise s c 64
  have hx : x ∈ sel s c 64 := by rw [← ht]; simp
  have hx1 := sel_mem.1 hx
  have hp0 := hp
  rw [← ht, List.append_assoc] at hp
  obtain ⟨p1, p2, p3⟩ := List.pairwise_append.1 hp
  constructor
  · rcases List.eq_nil_or_concat l with rfl | ⟨l', z, rfl⟩
    · rw [lastN_nil]
      omega
    · rw [List.concat_eq_append, lastN_snoc]
      exact p3 z (by simp) x (by simp)
  · intro k h1 h2 hk
    have hm : k ∈ sel s c 64 := sel_mem.2 ⟨by omega, by omega, hk⟩
    rw [← ht, List.append_assoc] at hm
    rcases List.mem_append.1 hm with h3 | h3
    · have := last_le p1 h3
      omega
    · rcases List.mem_append.1 h3 with h4 | h4
      · simp at h4
        omega
      · have := (List.pairwise_append.1 p2).2.2 x (by simp) k h4
        omega
theorem all_last {s : Nat → Int} {c : Int} {k : Nat} (h1 : lastN (sel s c 64) < k) (h2 : k ≤ 64) : s k ≠ c := by
  intro hk
  have := last_le (sel_rise s c 64) (sel_mem.2 ⟨by omega, h2, hk⟩)
  omega
theorem vals_snoc {s : Nat → Int} {c : Int} (l : List (Nam s c)) (x : Nam s c) : vals (l ++ [x]) = vals l ++ [x.1] := by simp [vals]

/-- Nothing that was there in wb has turned, and the marks lie behind it. -/
structure St (wb : World) (Ds : List Nat) (W : World) : Prop where
  bel : Below wb.heap.size wb W
  marks : ∀ D ∈ Ds, wb.heap.size ≤ D ∧ W.heap[D]? = some (.deferred (some []))
theorem St.alloc {wb : World} {Ds : List Nat} {W : World} (h : St wb Ds W) (o : Obj) : St wb Ds (W.alloc o) :=
  ⟨h.bel.alloc h.bel.size o, fun D hD => ⟨(h.marks D hD).1, ((Ext.refl W).alloc o |>.block D (Array.getElem?_eq_some_iff.1 (h.marks D hD).2).1).trans (h.marks D hD).2⟩⟩
theorem St.set {wb : World} {Ds : List Nat} {W : World} (h : St wb Ds W) {b : Nat} (hb : wb.heap.size ≤ b) (i : Nat) (v : Value) : St wb Ds (W.setCell ⟨b, i, none⟩ v) :=
  ⟨h.bel.setCell (p := ⟨b, i, none⟩) hb v, fun D hD => ⟨(h.marks D hD).1, (KeepsOthers.setCell W ⟨b, i, none⟩ v).same D _ (h.marks D hD).2 rfl⟩⟩
theorem St.own {wb : World} {Ds : List Nat} {W W' : World} {row : Option Nat} {B : Nat} (h : St wb Ds W) (hg : W.grownBy W' row) (hr : ∀ r, row = some r → B ≤ r) (hB : wb.heap.size ≤ B) (hD : ∀ D ∈ Ds, D < B) : St wb Ds W' :=
  ⟨h.bel.grown hg h.bel.size (fun r e => Nat.le_trans hB (hr r e)), fun D hD' => ⟨(h.marks D hD').1, (hg.block D (Array.getElem?_eq_some_iff.1 (h.marks D hD').2).1 (fun e => by have := hr D e.symm; have := hD D hD'; omega)).trans (h.marks D hD').2⟩⟩
theorem St.cons {wb : World} {Ds : List Nat} {W : World} {D : Nat} (h : St wb Ds W) (h1 : wb.heap.size ≤ D) (h2 : W.heap[D]? = some (.deferred (some []))) : St wb (D :: Ds) W :=
  ⟨h.bel, fun D' hD' => by
    rcases List.mem_cons.1 hD' with rfl | h3
    · exact ⟨h1, h2⟩
    · exact h.marks D' h3⟩
theorem St.lt {wb : World} {Ds : List Nat} {W : World} (h : St wb Ds W) : ∀ D ∈ Ds, D < W.heap.size := fun D hD => (Array.getElem?_eq_some_iff.1 (h.marks D hD).2).1

/-- A function that leaves with marks: they are taken, one by one. -/
theorem leaves_marks {F : Fence} {n : Nat} {P : Program} {fn : Func} {tmps : Array Value} {R : Ending → World → Prop} {b0 : Nat} : ∀ (Ds : List Nat) (W : World), b0 ≤ W.heap.size → Ds.Nodup → (∀ D ∈ Ds, b0 ≤ D ∧ W.heap[D]? = some (.deferred (some []))) →
    (∀ W', Below b0 W W' → LeavesInM F n P fn tmps R [] .returning W') → LeavesInM F n P fn tmps R (Ds.map fun D => ({ target := .collected D, args := #[] } : Deferred)) .returning W := by
  intro Ds
  induction Ds with
  | nil => exact fun W _ _ _ h => h W (Below.refl _ _)
  | cons D Ds ih =>
    intro W hb hn hD h
    obtain ⟨hn1, hn2⟩ := List.nodup_cons.1 hn
    have hd := hD D (by simp)
    have hbel : Below b0 W (W.putObj D (.deferred none)) := (Below.refl b0 W).grown (grownBy_putObj' W D _) hb (fun k e => by cases e; exact hd.1)
    refine ⟨by simp, .inl ⟨D, _, rfl, run_takeDeferred hd.2, ih _ (Nat.le_trans hb hbel.size) hn2 (fun D' hD' => ?_) (fun W' h' => h W' (hbel.trans h'))⟩⟩
    have h3 := hD D' (by simp [hD'])
    have hne : D' ≠ D := fun e => hn1 (by rw [← e]; exact hD')
    exact ⟨h3.1, (World.putObj_heap_other hne).trans h3.2⟩
end Go.Proofs.Ythdjdknhjhkngaa
