/-
  Images that a law plays: short, in memory of its own.
-/
import Derived.Test.YtpjapdifmfpcnaaKW
import Derived.Test.YtpjapdifmfpcnaaJQ
import Derived.Test.YtpjapdifmfpcnaaFrI
namespace Go.Proofs.Ytpjapdifmfpcnaa
open Go.ChangeShapes Go.WideShapes Go.ChangeAt Go.RowKit
set_option linter.unusedVariables false
set_option linter.unusedSimpArgs false

theorem ImgIn.short {W : World} {I : Img} {v : Value} {L : List Ent} (h : ImgIn W I v L) : ∀ p ∈ L, p.2.2.2.length ≤ 140737488355328 := fun p hp => by
  have := (h.all p hp).2.2.1
  omega
/-- An image of the call's own in block b, its bytes bytes. -/
structure Mine (w : World) (base b : Nat) (I : Img) (v : Value) (L : List Ent) : Prop where
  blk : Blk w b #[.int .i64 I.f, v, .int .i64 I.ws, .int .i64 I.wt, .int .i64 I.mn, .int .i64 I.mg] 24
  lo : LO w base v L
  abs : I.L = absL L
  byt : ∀ p ∈ L, Byt p.2.2.2
  len : L.length ≤ 9
  bys : ∀ p ∈ L, p.2.2.2.length ≤ 20000
theorem Mine.ext {w w' : World} {base b : Nat} {I : Img} {v : Value} {L : List Ent} (h : Mine w base b I v L) (hx : Ext w w') : Mine w' base b I v L := ⟨h.blk.ext hx, h.lo.ext hx, h.abs, h.byt, h.len, h.bys⟩
def shI (I : Img) : Img := ⟨I.f, shortL I.L, I.ws, I.wt, I.mn, I.mg⟩
theorem short_len (A : List Lev) : (shortL A).length ≤ 9 := by simp [shortL]; omega
theorem short_bys (A : List Lev) : ∀ p ∈ shortL A, p.2.2.length ≤ 20000 := by
  intro p hp
  obtain ⟨q, _, rfl⟩ := List.mem_map.1 hp
  simp [cutE]
  omega
theorem short_byt {A : List Lev} (h : ∀ p ∈ A, Byt p.2.2) : ∀ p ∈ shortL A, Byt p.2.2 := by
  intro p hp
  obtain ⟨q, hq, rfl⟩ := List.mem_map.1 hp
  intro x hx
  exact h q (List.mem_of_mem_take hq) x (List.mem_of_mem_take hx)
theorem abs_mem {L : List Ent} {p : Ent} (h : p ∈ L) : absE p ∈ absL L := List.mem_map.2 ⟨p, h, rfl⟩
theorem abs_byt {L : List Ent} (h : ∀ p ∈ L, Byt p.2.2.2) : ∀ p ∈ absL L, Byt p.2.2 := by
  intro p hp
  obtain ⟨q, hq, rfl⟩ := List.mem_map.1 hp
  exact h q hq

/-- What short gives of an image that came in. -/
theorem short_in {W w : World} {I : Img} {v : Value} {L : List Ent} (h : ImgIn W I v L) (hx : Ext W w) :
    Calls Try.prog 7 #[.agg #[.int .i64 I.f, v, .int .i64 I.ws, .int .i64 I.wt, .int .i64 I.mn, .int .i64 I.mg]] w fun e w' => ∃ ao cap D, e = .returned (.agg #[.int .i64 I.f, .slice ao D.length cap, .int .i64 I.ws, .int .i64 I.wt, .int .i64 I.mn, .int .i64 I.mg]) ∧ LO w' w.heap.size (.slice ao D.length cap) D ∧ absL D = (shI I).L ∧ Ext w w' := by
  refine (short_any (I := I) (h.lr.ext hx) h.short).mono ?_
  rintro e w' ⟨ao, cap, D, rfl, h1, h2, h3⟩
  exact ⟨ao, cap, D, rfl, h1, by rw [h2, ← h.abs]; rfl, h3⟩
theorem mine_of {W w : World} {base b : Nat} {I : Img} {v v' : Value} {L D : List Ent} (h : ImgIn W I v L) (hB : Blk w b #[.int .i64 I.f, v', .int .i64 I.ws, .int .i64 I.wt, .int .i64 I.mn, .int .i64 I.mg] 24) (hl : LO w base v' D) (ha : absL D = (shI I).L) : Mine w base b (shI I) v' D := by
  have hb := short_byt (abs_byt fun p hp => (h.all p hp).2.1)
  have e : (shI I).L = shortL (absL L) := by show shortL I.L = _; rw [h.abs]
  refine ⟨hB, hl, ha.symm, fun p hp => ?_, ?_, fun p hp => ?_⟩
  · have := abs_mem hp
    rw [ha, e] at this
    exact hb _ this
  · rw [← absL_len, ha]
    exact short_len _
  · have := abs_mem hp
    rw [ha] at this
    exact short_bys _ _ this

theorem mine_put {w : World} {base a : Nat} {I : Img} {v v' : Value} {L D : List Ent} {W : World} (h : ImgIn W I v L) {o0 o1 o2 o3 o4 o5 : Value} (hB : Blk w a #[o0, o1, o2, o3, o4, o5] 24) (hl : LO w base v' D) (ha : absL D = (shI I).L) :
    Mine ((((((w.setCell ⟨a, 0, none⟩ (.int .i64 I.f)).setCell ⟨a, 1, none⟩ v').setCell ⟨a, 2, none⟩ (.int .i64 I.ws)).setCell ⟨a, 3, none⟩ (.int .i64 I.wt)).setCell ⟨a, 4, none⟩ (.int .i64 I.mn)).setCell ⟨a, 5, none⟩ (.int .i64 I.mg)) base a (shI I) v' D :=
  mine_of h (hB.put6 _ _ _ _ _ _) (hl.grown hB ⟨by decide, by decide⟩ (grown_put6 _ _ _ _ _ _ _ _)) ha
theorem Mine.put {w : World} {base a b : Nat} {I : Img} {v : Value} {D : List Ent} (h : Mine w base a I v D) {o0 o1 o2 o3 o4 o5 : Value} (hB : Blk w b #[o0, o1, o2, o3, o4, o5] 24) (hab : a ≠ b) (x0 x1 x2 x3 x4 x5 : Value) :
    Mine ((((((w.setCell ⟨b, 0, none⟩ x0).setCell ⟨b, 1, none⟩ x1).setCell ⟨b, 2, none⟩ x2).setCell ⟨b, 3, none⟩ x3).setCell ⟨b, 4, none⟩ x4).setCell ⟨b, 5, none⟩ x5) base a I v D :=
  ⟨h.blk.grown (grown_put6 _ _ _ _ _ _ _ _) hab, h.lo.grown hB ⟨by decide, by decide⟩ (grown_put6 _ _ _ _ _ _ _ _), h.abs, h.byt, h.len, h.bys⟩

end Go.Proofs.Ytpjapdifmfpcnaa
