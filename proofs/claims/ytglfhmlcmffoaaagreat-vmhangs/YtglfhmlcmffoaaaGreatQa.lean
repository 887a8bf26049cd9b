/-
  'append' onto a slice of the call's own, at a step of a region that draws its order: whatever row is appended, nil or empty too. Nothing here speaks of the program.
-/
import Derived.Test.YtglfhmlcmffoaaaGreatQt
import Derived.Test.YtglfhmlcmffoaaaGreatLemJ
import Derived.Maps.AppendAt
namespace Go.Proofs.YtglfhmlcmffoaaaGreat
open Go.RowKit

theorem Own.made_at {k : IntKind} {e : TypeId} {base g : Nat} (w : World) (hg : w.heap.size = g) (hb : base ≤ g) : Own k (w.alloc (.cells #[] e)) base e (.slice (some ⟨g, 0, none⟩) 0 0) [] := by
  subst hg
  exact Own.made w hb

theorem Own.drew {k : IntKind} {e : TypeId} {base : Nat} {w : World} {v : Value} {xs : List Int} (h : Own k w base e v xs) : Own k w.drew base e v xs := h
theorem run_append_Own {P : Program} (w : World) (t ty : TypeId) (base : Nat) (e : TypeId) (i : TypeInfo) (k : IntKind) (bytes : Nat) (ht : P.underlying t = some (.slice e)) (hi : P.info? e = some i) (hz : i.zero = some (.int k 0))
    (hsize : i.size = 1) (hby : i.bytes = bytes) (v : Value) (hown : Own k w base e v []) (vx : Value) (ys : List Int) (hrow : Row k w vx ys) (h63 : ys.length ≤ maxLen) (hbytes : ys.length * bytes ≤ 140737488355328) (hbase : base ≤ w.heap.size) :
    ∃ ao cap w', (Builtin.append_ #[t, t] ty #[v, vx]).run P w = .ok (.slice ao ys.length cap) w' ∧ Own k w' base e (.slice ao ys.length cap) ys ∧ w.grownBy w' v.ownBlock := by
  have fin : ∀ v' w', w'.ownsRow base e 1 v' (0 + ys.length) (([] : List Int).map (Value.int k) ++ ys.map (Value.int k)) → Own k w' base e v' ys := by
    intro v' w' h1
    unfold Own
    rw [Nat.zero_add] at h1
    exact h1
  rcases hrow with ⟨rfl, ao, cap, rfl, h0, hm⟩ | ⟨hne, b, off, cap, rfl, hl, hm, hc⟩
  · cases ao with
    | none =>
      obtain rfl := h0 rfl
      obtain ⟨ao, cap, hv⟩ := hown.shape
      subst hv
      exact ⟨ao, cap, w, run_append_owned_none (P := P) (w := w) base t ty e i 1 ht hi _ 0 _ hown, hown, World.grownBy.refl _ _⟩
    | some ad =>
      obtain ⟨v', w', hr, h2, h3, _⟩ := run_append_own_at (P := P) w base t ty e i (.int k 0) 1 bytes ht hi hz hsize hby rfl (by decide) v 0 _ hown ad 0 cap [] rfl (by simp) (by simp) (by simp) (by simp) hbase
      have ho := fin v' w' h2
      obtain ⟨ao', cap', hv⟩ := ho.shape
      subst hv
      exact ⟨ao', cap', w', hr, ho, h3⟩
  · obtain ⟨v', w', hr, h2, h3, _⟩ := run_append_own_at (P := P) w base t ty e i (.int k 0) 1 bytes ht hi hz hsize hby rfl (by decide) v 0 _ hown ⟨b, off, none⟩ ys.length cap (ys.map (Value.int k)) (by simp) (Row.news hc) (ints_oneCell _ _) (by simpa using h63) (by simpa using hbytes) hbase
    have ho := fin v' w' h2
    obtain ⟨ao', cap', hv⟩ := ho.shape
    subst hv
    exact ⟨ao', cap', w', hr, ho, h3⟩

theorem step_append_Own {P : Program} {ops : Array Oper} {o : Oper} {a : Act} {w : World} {K : Act → World → Prop} {Q : Exit → Act → World → Prop} {E : Prop} (hgd : o.guard = none) (s x : Operand) (t : TypeId)
    (ho : o.op = .call { callee := .builtin .append, args := #[s, x], argTypes := #[t, t] })
    (base : Nat) (e : TypeId) (i : TypeInfo) (k : IntKind) (bytes : Nat) (ht : P.underlying t = some (.slice e)) (hi : P.info? e = some i) (hz : i.zero = some (.int k 0)) (hsize : i.size = 1) (hby : i.bytes = bytes)
    (v : Value) (hs : a.eval s = v) (vx : Value) (hx : a.eval x = vx) (hown : Own k w base e v []) (ys : List Int) (hrow : Row k w vx ys) (h63 : ys.length ≤ maxLen) (hbytes : ys.length * bytes ≤ 140737488355328) (hbase : base ≤ w.heap.size)
    (h : ∀ ao cap w', Own k w' base e (.slice ao ys.length cap) ys → w.grownBy w' v.ownBlock → K (a.put o.dst (.slice ao ys.length cap)) w') :
    if Region.wanted o (yielded ops a.tmps) = true then Oper.wp P o a w K Q else E := by
  have hw : Region.wanted o (yielded ops a.tmps) = true := by simp [Region.wanted, hgd]
  rw [if_pos hw]
  obtain ⟨ao, cap, w', hr, h2, h3⟩ := run_append_Own (P := P) w t o.type base e i k bytes ht hi hz hsize hby v hown vx ys hrow h63 hbytes hbase
  unfold Oper.wp execOp
  simp only [ho, resolve, invoke, builtin, Sem.run_bind, Sem.run_pure, Result.andThen_ok, List.map_toArray, List.map_cons, List.map_nil, hs, hx, hr]
  exact h ao cap w' h2 h3

theorem own_of_block {k : IntKind} {e : TypeId} {base g : Nat} {w : World} (hb : base ≤ g) (h : w.heap[g]? = some (.cells #[] e (0, 0))) : Own k w base e (.slice (some ⟨g, 0, none⟩) 0 0) [] := by
  exact ⟨rfl, .inr ⟨g, 0, #[], rfl, hb, h, Nat.le_refl _, by unfold maxLen; omega, rfl, rfl⟩⟩
theorem heap_at1 (w : World) (o : Obj) : (w.alloc o).drew.heap[w.heap.size]? = some o := heap_alloc_new w o
theorem heap_at2a (w : World) (o o' : Obj) : ((w.alloc o).alloc o').drew.heap[w.heap.size]? = some o := by
  show ((w.alloc o).alloc o').heap[w.heap.size]? = some o
  have h := heap_alloc_new w o
  have hl : w.heap.size < (w.alloc o).heap.size := by simp
  exact (((Ext.refl (w.alloc o)).alloc o').block _ hl).trans h
theorem heap_at2b (w : World) (o o' : Obj) : ((w.alloc o).alloc o').drew.heap[w.heap.size + 1]? = some o' := by
  show ((w.alloc o).alloc o').heap[w.heap.size + 1]? = some o'
  have h := heap_alloc_new (w.alloc o) o'
  rwa [show (w.alloc o).heap.size = w.heap.size + 1 by simp] at h
theorem ext_1 (w : World) (o : Obj) : Ext w (w.alloc o).drew := ((Ext.refl w).alloc o).drew
theorem ext_2 (w : World) (o o' : Obj) : Ext w ((w.alloc o).alloc o').drew := (((Ext.refl w).alloc o).alloc o').drew

/-- The same, as a walk needs it: the empty slice lies in block g, which was made since w1. -/
theorem step_append_R {P : Program} {ops : Array Oper} {o : Oper} {a : Act} {w : World} {K : Act → World → Prop} {Q : Exit → Act → World → Prop} {E : Prop} (hgd : o.guard = none) (s x : Operand) (t : TypeId)
    (ho : o.op = .call { callee := .builtin .append, args := #[s, x], argTypes := #[t, t] })
    (e : TypeId) (i : TypeInfo) (k : IntKind) (bytes : Nat) (ht : P.underlying t = some (.slice e)) (hi : P.info? e = some i) (hz : i.zero = some (.int k 0)) (hsize : i.size = 1) (hby : i.bytes = bytes)
    (w1 : World) (ys : List Int) (vx : Value) (hrow : Row k w1 vx ys) (h63 : ys.length ≤ maxLen) (hbytes : ys.length * bytes ≤ 140737488355328)
    (g : Nat) (hs : a.eval s = .slice (some ⟨g, 0, none⟩) 0 0) (hx : a.eval x = vx) (hg : w1.heap.size ≤ g) (hext : Ext w1 w) (hb : w.heap[g]? = some (.cells #[] e (0, 0)))
    (h : ∀ ao cap w', Row k w' (.slice ao ys.length cap) ys → Ext w1 w' → (∀ r cs ty, r ≠ g → Blk w r cs ty → Blk w' r cs ty) → K (a.put o.dst (.slice ao ys.length cap)) w') :
    if Region.wanted o (yielded ops a.tmps) = true then Oper.wp P o a w K Q else E := by
  refine step_append_Own hgd s x t ho w1.heap.size e i k bytes ht hi hz hsize hby _ hs vx hx (own_of_block hg hb) ys (hrow.ext hext) h63 hbytes hext.size fun ao cap w' h1 h2 => ?_
  have h3 : w.grownBy w' (some g) := h2
  exact h ao cap w' h1.row (below_grown hext h3 hext.size hg) fun r cs ty hne hB => hB.grown h3 hne

/-- Four values laid into a block of four. -/
theorem Blk.set4 {w : World} {b : Nat} {y0 y1 y2 y3 : Value} {t : TypeId} (h : w.heap[b]? = some (.cells #[y0, y1, y2, y3] t (0, 0))) (x0 x1 x2 x3 : Value) :
    ((((w.setCell ⟨b, 0, none⟩ x0).setCell ⟨b, 1, none⟩ x1).setCell ⟨b, 2, none⟩ x2).setCell ⟨b, 3, none⟩ x3).heap[b]? = some (.cells #[x0, x1, x2, x3] t (0, 0)) := by
  have h0 := heap_setCell_same w b 0 _ t x0 h
  have h1 := heap_setCell_same _ b 1 _ t x1 h0
  have h2 := heap_setCell_same _ b 2 _ t x2 h1
  have h3 := heap_setCell_same _ b 3 _ t x3 h2
  simpa using h3
end Go.Proofs.YtglfhmlcmffoaaaGreat
