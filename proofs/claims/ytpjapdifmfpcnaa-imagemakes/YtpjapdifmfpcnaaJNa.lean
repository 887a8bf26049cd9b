/-
  Images: what the walks of ranges over places share.
-/
import Derived.Test.YtpjapdifmfpcnaaJD
namespace Go.Proofs.Ytpjapdifmfpcnaa
open Go.RowKit Go.Shelf
set_option linter.unusedVariables false
set_option linter.unusedSimpArgs false
attribute [local go_sem] Oper.semAt_some

theorem chs_sum {f : Int} {s : Nat} (hs : sizI f = (s : Int)) (h0 : s ≠ 0) : (chs8 f).sum = 8 * s ∧ (chs8 f).length ≤ 4 ∧ (∀ k ∈ chs8 f, 1 ≤ k ∧ k ≤ 8) ∧ s ≤ 4 := by
  unfold sizI at hs
  have hf : f = 1 ∨ f = 2 ∨ f = 3 ∨ f = 4 ∨ f = 5 ∨ f = 6 ∨ f = 7 := by
    by_cases h1 : f = 1
    · omega
    · rw [if_neg h1] at hs
      by_cases h2 : f = 5 ∨ f = 6
      · omega
      · rw [if_neg h2] at hs
        by_cases h3 : 2 ≤ f ∧ f ≤ 7
        · omega
        · rw [if_neg h3] at hs
          omega
  rcases hf with rfl | rfl | rfl | rfl | rfl | rfl | rfl
  all_goals simp at hs
  all_goals have hs2 : s = 4 ∨ s = 2 ∨ s = 1 := by omega
  all_goals rcases hs2 with rfl | rfl | rfl
  all_goals first | omega | decide

/-- The marks that ranges over functions leave. -/
def mks (ds : List Nat) : List Deferred := ds.map fun D => ({ target := .collected D, args := #[] } : Deferred)
/-- How far next has come. -/
structure NxI (w4 wr : World) (Bm : Nat) (cs : Array Value) (g N : Nat) (ds : List Nat) (xs : List Int) : Prop where
  ext : Ext w4 wr
  sml : Blk wr Bm cs 48
  own : Own .u8 wr w4.heap.size 5 (.slice (some ⟨g, 0, none⟩) N N) xs
  nod : ds.Nodup
  mrk : ∀ D ∈ ds, w4.heap.size ≤ D ∧ wr.heap[D]? = some (.deferred (some []))
theorem NxI.exts {w4 wr w' : World} {Bm g N : Nat} {cs : Array Value} {ds : List Nat} {xs : List Int} (h : NxI w4 wr Bm cs g N ds xs) (hx : Ext wr w') : NxI w4 w' Bm cs g N ds xs :=
  ⟨h.ext.trans hx, h.sml.ext hx, h.own.kept hx, h.nod, fun D hD => ⟨(h.mrk D hD).1, (hx.block D (Array.getElem?_eq_some_iff.1 (h.mrk D hD).2).1).trans (h.mrk D hD).2⟩⟩
theorem NxI.lt {w4 wr : World} {Bm g N : Nat} {cs : Array Value} {ds : List Nat} {xs : List Int} (h : NxI w4 wr Bm cs g N ds xs) : ∀ D ∈ ds, D < wr.heap.size := fun D hD => (Array.getElem?_eq_some_iff.1 (h.mrk D hD).2).1
/-- What is not cells is not turned by what turns cells. -/
theorem keeps_grown {W W' : World} {g : Nat} {cs : Array Value} {t : TypeId} (hg : W.grownBy W' (some g)) (hc : W.heap[g]? = some (.cells cs t (0, 0))) : KeepsOthers W W' :=
  ⟨hg.size, fun k o hk ho => (hg.block k (Array.getElem?_eq_some_iff.1 hk).1 (fun e => by cases e; rw [hc] at hk; cases hk; cases ho)).trans hk⟩
theorem keeps_ext {W W' : World} (hx : Ext W W') : KeepsOthers W W' := ⟨hx.size, fun k o hk _ => (hx.block k (Array.getElem?_eq_some_iff.1 hk).1).trans hk⟩

theorem own_kept {k : IntKind} {W W' : World} {base : Nat} {t : TypeId} {v : Value} {xs : List Int} {row : Option Nat} (h : Own k W base t v xs) (hg : W.grownBy W' row) (hr : ∀ r, row = some r → ∃ o : Obj, W.heap[r]? = some o ∧ o.isCells = false) : Own k W' base t v xs := by
  refine World.ownsRow.kept h hg ?_
  cases hv : v.ownBlock with
  | none => exact .inl rfl
  | some b =>
    refine .inr fun e => ?_
    obtain ⟨o, ho, hc⟩ := hr b e.symm
    rcases h.2 with ⟨e1, _⟩ | ⟨g, c, cur, e1, _, hg2, _⟩
    · rw [e1] at hv; cases hv
    · rw [e1] at hv
      cases hv
      rw [hg2] at ho
      cases ho
      cases hc
theorem NxI.kept {w4 A B : World} {Bm g N : Nat} {cs : Array Value} {ds : List Nat} {xs : List Int} {row : Option Nat} {B0 : Nat} (h : NxI w4 A Bm cs g N ds xs) (hg : A.grownBy B row) (hr : ∀ r, row = some r → B0 ≤ r ∧ ∃ o : Obj, A.heap[r]? = some o ∧ o.isCells = false) (h4 : w4.heap.size ≤ B0) (hD : ∀ D ∈ ds, D < B0) : NxI w4 B Bm cs g N ds xs :=
  ⟨h.ext.grown hg h.ext.size (fun r e => by have := (hr r e).1; omega), blk_kept h.sml hg (fun r e => (hr r e).2), own_kept h.own hg (fun r e => (hr r e).2), h.nod, fun D hD2 => ⟨(h.mrk D hD2).1, (hg.block D (Array.getElem?_eq_some_iff.1 (h.mrk D hD2).2).1 (fun e => by have := (hr D e.symm).1; have := hD D hD2; omega)).trans (h.mrk D hD2).2⟩⟩
/-- A row does not lie in a block of another type. -/
theorem own_neT {k : IntKind} {w : World} {base b : Nat} {e t : TypeId} {v : Value} {xs : List Int} {cs : Array Value} (h : Own k w base e v xs) (hB : Blk w b cs t) (ht : t ≠ e) : ∀ b2, v.ownBlock = some b2 → b2 ≠ b := by
  intro b2 hb2 e3
  rcases h.2 with ⟨e1, _⟩ | ⟨g, c, cur, e1, _, hg, _⟩
  · rw [e1] at hb2; cases hb2
  · rw [e1] at hb2
    cases hb2
    have e4 : g = b := e3
    rw [e4, show w.heap[b]? = some (.cells cs t (0, 0)) from hB] at hg
    simp at hg
    exact ht hg.2
/-- What a row of one type turns, a row of another does not see. -/
theorem own_by2 {k k2 : IntKind} {w w' : World} {base base2 : Nat} {e e2 : TypeId} {v v2 : Value} {xs ys : List Int} (h : Own k w base e v xs) (h2 : Own k2 w base2 e2 v2 ys) (hne : e2 ≠ e) (hg : w.grownBy w' v2.ownBlock) : Own k w' base e v xs := by
  refine World.ownsRow.kept h hg ?_
  cases hv : v.ownBlock with
  | none => exact .inl rfl
  | some b =>
    refine .inr fun e3 => ?_
    rcases h2.2 with ⟨e1, _⟩ | ⟨g, c, cur, e1, _, hg2, _⟩
    · rw [e1] at e3; cases e3
    · rw [e1] at e3
      have e4 : b = g := by simpa [Value.ownBlock] using e3
      exact own_neT h (b := g) (cs := cur) (t := e2) hg2 hne b hv e4
theorem blk_by2 {k2 : IntKind} {w w' : World} {b base2 : Nat} {t e2 : TypeId} {v2 : Value} {cs : Array Value} {ys : List Int} (h : Blk w b cs t) (h2 : Own k2 w base2 e2 v2 ys) (hne : t ≠ e2) (hg : w.grownBy w' v2.ownBlock) : Blk w' b cs t :=
  (hg.block b h.lt fun e => own_neT h2 h hne b e.symm rfl).trans h
theorem keeps_own {k : IntKind} {w w' : World} {base : Nat} {e : TypeId} {v : Value} {xs : List Int} (h : Own k w base e v xs) (hg : w.grownBy w' v.ownBlock) : KeepsOthers w w' :=
  ⟨hg.size, fun i o hi ho => (hg.block i (Array.getElem?_eq_some_iff.1 hi).1 (fun e1 => by
    rcases h.2 with ⟨e2, _⟩ | ⟨g, c, cur, e2, _, hg2, _⟩
    · rw [e2] at e1; cases e1
    · rw [e2] at e1
      have e4 : i = g := by simpa [Value.ownBlock] using e1
      rw [e4, hg2] at hi
      cases hi
      cases ho)).trans hi⟩
/-- 'append' at a step of a region that draws, its run known. -/
theorem step_run {P : Program} {ops : Array Oper} {o : Oper} {a : Act} {w w' : World} {K : Act → World → Prop} {Q : Exit → Act → World → Prop} {E : Prop} (hgd : o.guard = none) (s x : Operand) (t : TypeId)
    (ho : o.op = .call { callee := .builtin .append, args := #[s, x], argTypes := #[t, t] }) {v vx v' : Value} (hs : a.eval s = v) (hx : a.eval x = vx) (hr : (Builtin.append_ #[t, t] o.type #[v, vx]).run P w = .ok v' w') (h : K (a.put o.dst v') w') :
    if Region.wanted o (yielded ops a.tmps) = true then Oper.wp P o a w K Q else E := by
  have hw : Region.wanted o (yielded ops a.tmps) = true := by simp [Region.wanted, hgd]
  rw [if_pos hw]
  unfold Oper.wp execOp
  simp only [ho, resolve, invoke, builtin, Sem.run_bind, Sem.run_pure, Result.andThen_ok, List.map_toArray, List.map_cons, List.map_nil, hs, hx, hr]
  exact h
/-- 'append' of one number to a row of the call's own. -/
theorem app_one {k : IntKind} {P : Program} {w : World} {base : Nat} {e t ty : TypeId} {i0 : TypeInfo} {bytes : Nat} (ht : P.underlying t = some (.slice e)) (hi : P.info? e = some i0) (hz : i0.zero = some (.int k 0)) (hs1 : i0.size = 1) (hby : i0.bytes = bytes) {v : Value} {G : List Int} (ho : Own k w base e v G) (x : Int) (hb : base ≤ w.heap.size) (h63 : G.length + 1 ≤ maxLen) (hbb : (G.length + 1) * bytes ≤ 140737488355328) :
    ∃ ao cap w', (Builtin.append_ #[t, t] ty #[v, .slice (some ⟨w.heap.size, 0, none⟩) 1 1]).run P (w.alloc (.cells #[.int k x] e)) = .ok (.slice ao (G.length + 1) cap) w' ∧ Own k w' base e (.slice ao (G.length + 1) cap) (G ++ [x]) ∧ (w.alloc (.cells #[.int k x] e)).grownBy w' v.ownBlock := by
  have hown := ho.alloc (.cells #[.int k x] e)
  obtain ⟨v', w2, hrun, h1, h2, _⟩ := run_append_own_at (P := P) (w.alloc (.cells #[.int k x] e)) base t ty e i0 (.int k 0) 1 bytes ht hi hz hs1 hby rfl (by decide) v G.length (G.map (Value.int k)) hown ⟨w.heap.size, 0, none⟩ 1 1 [.int k x] rfl
    (by
      intro j u hu
      rw [Addr.add_lit, Nat.zero_add]
      exact (Blk.new w #[.int k x] e).cell (by simpa using hu)) (by simp [Value.oneCell']) h63 hbb (by simp; omega)
  have h3 : Own k w2 base e v' (G ++ [x]) := by
    unfold Own
    rw [List.length_append, List.map_append]
    exact h1
  obtain ⟨ao, cap, hv⟩ := h3.shape
  rw [show (G ++ [x]).length = G.length + 1 by simp] at hv
  subst hv
  exact ⟨ao, cap, w2, hrun, h3, h2⟩
/-- What is cells stays. -/
def CellsKept (W W' : World) : Prop := ∀ (k : Nat) cs t z, W.heap[k]? = some (.cells cs t z) → W'.heap[k]? = some (.cells cs t z)
theorem CellsKept.blk {W W' : World} {b : Nat} {cs : Array Value} {t : TypeId} (h : CellsKept W W') (hB : Blk W b cs t) : Blk W' b cs t := h b cs t (0, 0) hB
theorem CellsKept.own {k : IntKind} {W W' : World} {base : Nat} {t : TypeId} {v : Value} {xs : List Int} (h : CellsKept W W') (ho : Own k W base t v xs) : Own k W' base t v xs := by
  obtain ⟨h1, h2⟩ := ho
  refine ⟨h1, ?_⟩
  rcases h2 with h2 | ⟨g, c, cur, e, hb, hg, r⟩
  · exact .inl h2
  · exact .inr ⟨g, c, cur, e, hb, h g cur t (0, 0) hg, r⟩
/-- A function that leaves with marks: they are taken, one by one. -/
theorem leaves_marks {F : Fence} {n : Nat} {P : Program} {fn : Func} {tmps : Array Value} {R : Ending → World → Prop} {b0 : Nat} : ∀ (Ds : List Nat) (W : World), b0 ≤ W.heap.size → Ds.Nodup → (∀ D ∈ Ds, b0 ≤ D ∧ W.heap[D]? = some (.deferred (some []))) →
    (∀ W', Below b0 W W' → CellsKept W W' → LeavesInM F n P fn tmps R [] .returning W') → LeavesInM F n P fn tmps R (Ds.map fun D => ({ target := .collected D, args := #[] } : Deferred)) .returning W := by
  intro Ds
  induction Ds with
  | nil => exact fun W _ _ _ h => h W (Below.refl _ _) (fun _ _ _ _ h => h)
  | cons D Ds ih =>
    intro W hb hn hD h
    obtain ⟨hn1, hn2⟩ := List.nodup_cons.1 hn
    have hd := hD D (by simp)
    have hbel : Below b0 W (W.putObj D (.deferred none)) := (Below.refl b0 W).grown (grownBy_putObj' W D _) hb (fun k e => by cases e; exact hd.1)
    have hck : CellsKept W (W.putObj D (.deferred none)) := fun k cs t z hk => by
      have hne : k ≠ D := fun e => by
        rw [e, hd.2] at hk
        cases hk
      exact (World.putObj_heap_other hne).trans hk
    refine ⟨by simp, .inl ⟨D, _, rfl, run_takeDeferred hd.2, ih _ (Nat.le_trans hb hbel.size) hn2 (fun D' hD' => ?_) (fun W' h' h2 => h W' (hbel.trans h') (fun k cs t z hk => h2 k cs t z (hck k cs t z hk)))⟩⟩
    have h3 := hD D' (by simp [hD'])
    have hne : D' ≠ D := fun e => hn1 (by rw [← e]; exact hD')
    exact ⟨h3.1, (World.putObj_heap_other hne).trans h3.2⟩
/-- What a round of the range holds: the group under way. -/
structure RgI (w4 W : World) (Bm : Nat) (cs : Array Value) (g N : Nat) (ds : List Nat) (xs : List Int) (Bg : Nat) (G : List Int) : Prop where
  nx : NxI w4 W Bm cs g N ds xs
  grp : ∃ ao cap, Blk W Bg #[.slice ao G.length cap] 87 ∧ Own .u32 W w4.heap.size 88 (.slice ao G.length cap) G
/-- The numbers of pixels. -/
def gnum (s : Nat) (bs : List Int) {N : Nat} (pre : List (Plc N)) : List Int := (vals pre).map fun q => numOf (cellL s bs q)
theorem gnum_len (s : Nat) (bs : List Int) {N : Nat} (pre : List (Plc N)) : (gnum s bs pre).length = pre.length := by simp [gnum, vals]
theorem gnum_snoc (s : Nat) (bs : List Int) {N : Nat} (pre : List (Plc N)) (x : Plc N) : gnum s bs (pre ++ [x]) = gnum s bs pre ++ [numOf (cellL s bs x.1)] := by simp [gnum, vals]
theorem gnum_grp {s W H : Nat} {bs : List Int} {N : Nat} {ys : List (Plc N)} {x y : Nat} (h : vals ys = plcs W (2 * x) (2 * y) (min 2 W) (min 2 H)) : gnum s bs ys = (grp s W H bs x y).map numOf := by
  unfold gnum
  rw [h]
  unfold plcs grp
  rw [List.map_map, List.map_map]
  rfl
theorem idx_at {w i j : Nat} (h : i < w) : (j * w + i) % w = i ∧ (j * w + i) / w = j := by
  rw [Nat.add_comm, Nat.add_mul_mod_self_right, Nat.mod_eq_of_lt h, Nat.add_mul_div_right _ _ (by omega), Nat.div_eq_of_lt h, Nat.zero_add]
  exact ⟨rfl, rfl⟩
theorem pow8s {s : Nat} (h : s ≤ 4) : (2 : Int) ^ (8 * s) ≤ 4294967296 := by
  have b : 2 ^ (8 * s) ≤ 2 ^ 32 := Nat.pow_le_pow_right (by decide) (by omega)
  have e : (2 : Int) ^ (8 * s) = ((2 ^ (8 * s) : Nat) : Int) := by simp
  omega
theorem wrap_id {n : Int} (h0 : -9223372036854775808 ≤ n) (h1 : n ≤ 9223372036854775807) : IntKind.i64.wrap n = n := by
  simp only [IntKind.wrap, IntKind.bits, IntKind.signed, show ((2 : Int) ^ 64) = 18446744073709551616 from rfl, show ((2 : Int) ^ (64 - 1)) = 9223372036854775808 from rfl, Bool.true_and, decide_eq_true_eq]
  split <;> omega
theorem infoU : (Try.prog.info? 88).map (fun i => (i.zero, i.size, i.bytes)) = some (some (.int .u32 0), 1, 4) := by kernel_rfl

end Go.Proofs.Ytpjapdifmfpcnaa
