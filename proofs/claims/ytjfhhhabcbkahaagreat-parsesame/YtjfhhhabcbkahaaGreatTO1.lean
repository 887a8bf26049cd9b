/-
  Nodes in memory: a row of the call's own, each with a row of its kids' numbers.
-/
import Derived.Test.YtjfhhhabcbkahaaGreatTC
namespace Go.Proofs.YtjfhhhabcbkahaaGreat
open Go.RowKit
set_option linter.unusedVariables false
set_option linter.unusedSimpArgs false

abbrev Nt := Value × Nd
def ncell (p : Nt) : List Value := [.int .i64 p.2.kind, .string ⟨p.2.ty.toArray⟩, .string ⟨p.2.text.toArray⟩, .int .i32 p.2.num, p.1, .int .i64 p.2.place]
def ncells (ns : List Nt) : List Value := ns.flatMap ncell
def kvals (ks : List Nat) : List Value := ks.map (fun k : Nat => Value.int .i64 (k : Int))
theorem ncells_len (ns : List Nt) : (ncells ns).length = ns.length * 6 := by
  induction ns with
  | nil => rfl
  | cons x r ih =>
    unfold ncells at ih ⊢
    rw [List.flatMap_cons, List.length_append, ih]
    simp [ncell]
    omega
theorem ncells_append (A B : List Nt) : ncells (A ++ B) = ncells A ++ ncells B := by
  unfold ncells
  rw [List.flatMap_append]
theorem ncells_one (x : Nt) : ncells [x] = ncell x := by simp [ncells]
theorem ncells_get : ∀ (ns : List Nt) (i : Nat) (h : i < ns.length) (j : Nat), j < 6 → (ncells ns)[i * 6 + j]? = (ncell ns[i])[j]?
  | x :: r, 0, _, j, hj => by
    have e : ncells (x :: r) = ncell x ++ ncells r := rfl
    rw [e, List.getElem?_append_left (by simp [ncell]; omega)]
    simp
  | x :: r, i + 1, h, j, hj => by
    have ih := ncells_get r i (by simpa using h) j hj
    have e : ncells (x :: r) = ncell x ++ ncells r := rfl
    have el : (ncell x).length = 6 := rfl
    rw [e, List.getElem?_append_right (by omega), el, show (i + 1) * 6 + j - 6 = i * 6 + j by omega]
    simpa using ih
def withK (x : Nd) (ks : List Nat) : Nd := ⟨x.kind, x.ty, x.text, x.num, x.place, ks, x.deep⟩
theorem ncells_set (A B : List Nt) (x : Nt) (v : Value) (ks : List Nat) : (ncells (A ++ x :: B)).set (A.length * 6 + 4) v = ncells (A ++ (v, withK x.2 ks) :: B) := by
  rw [ncells_append, ncells_append, List.set_append_right _ _ (by rw [ncells_len]; omega), ncells_len, Nat.add_sub_cancel_left]
  rfl
/-- The slice v is the call's own and holds these nodes. -/
structure NR (w : World) (base : Nat) (v : Value) (ns : List Nt) : Prop where
  own : w.ownsRow base 39 6 v ns.length (ncells ns)
  kid : ∀ p ∈ ns, w.ownsRow base 3 1 p.1 p.2.kids.length (kvals p.2.kids)
  alone : ns.Pairwise (fun p q => ∀ g, p.1.ownBlock = some g → q.1.ownBlock ≠ some g)
section
variable {w w' : World} {base : Nat} {v : Value} {ns : List Nt}
theorem NR.nil (w : World) (base : Nat) : NR w base (.slice none 0 0) [] := ⟨World.ownsRow_nil _ _ _ _, (fun p hp => by cases hp), List.Pairwise.nil⟩
theorem owns_kept {e : TypeId} {s n : Nat} {xs : List Value} {u : Value} (h : w.ownsRow base e s u n xs) (hb : ∀ k, k < w.heap.size → base ≤ k → u.ownBlock = some k → w'.heap[k]? = w.heap[k]?) : w'.ownsRow base e s u n xs := by
  refine ⟨h.1, ?_⟩
  rcases h.2 with h0 | ⟨g, cap, cur, e1, h5, h6, h7⟩
  · exact .inl h0
  · refine .inr ⟨g, cap, cur, e1, h5, ?_, h7⟩
    rw [hb g (World.ownsRow.lt h g (by rw [e1]; rfl)).2 h5 (by rw [e1]; rfl)]
    exact h6
theorem NR.out {T : Nat → Prop} (h : NR w base v ns) (ho : Out T w w') (hT : ∀ k, T k → k < base) : NR w' base v ns :=
  ⟨owns_kept h.own (fun k h1 h2 _ => ho.block k h1 (fun e => by have := hT k e; omega)), fun p hp => owns_kept (h.kid p hp) (fun k h1 h2 _ => ho.block k h1 (fun e => by have := hT k e; omega)), h.alone⟩
theorem NR.ext (h : NR w base v ns) (hx : Ext w w') : NR w' base v ns := h.out (T := fun _ => False) (Out.of_ext hx) (fun _ e => e.elim)
/-- A row of numbers does not lie where the nodes lie. -/
theorem NR.apart (h : NR w base v ns) {u : Value} {n : Nat} {xs : List Value} (hu : w.ownsRow base 3 1 u n xs) {g : Nat} (hg : u.ownBlock = some g) : v.ownBlock ≠ some g := fun e => by
  rcases h.own.2 with ⟨e1, _⟩ | ⟨g1, c1, cur1, e1, _, h1, _⟩
  · rw [e1] at e; cases e
  rcases hu.2 with ⟨e2, _⟩ | ⟨g2, c2, cur2, e2, _, h2, _⟩
  · rw [e2] at hg; cases hg
  rw [e1] at e
  rw [e2] at hg
  cases e
  cases hg
  rw [h1] at h2
  cases h2
theorem infoN : (Tryz.prog.info? 39).map (fun i => (i.zero, i.size, i.bytes)) = some (some (.agg #[.int .i64 0, .string ⟨#[]⟩, .string ⟨#[]⟩, .int .i32 0, .slice none 0 0, .int .i64 0]), 6, 80) := by kernel_rfl
theorem infoI : (Tryz.prog.info? 3).map (fun i => (i.zero, i.size, i.bytes)) = some (some (.int .i64 0), 1, 8) := by kernel_rfl
/-- 'append(nodes, x)', x without kids, laid last. -/
theorem NR.push (h : NR w base v ns) (x : Nd) (hb : base ≤ w.heap.size) (hl : ns.length ≤ 1000000000) :
    ∃ ao cap w', (Builtin.append_ #[22, 22] 22 #[v, .slice (some ⟨w.heap.size, 0, none⟩) 1 1]).run Tryz.prog (w.alloc (.cells (ncell (.slice none 0 0, withK x [])).toArray 39)) = .ok (.slice ao (ns.length + 1) cap) w' ∧
      NR w' base (.slice ao (ns.length + 1) cap) (ns ++ [(.slice none 0 0, withK x [])]) ∧ w.grownBy w' v.ownBlock ∧ ∀ g, (Value.slice ao (ns.length + 1) cap).ownBlock = some g → v.ownBlock = some g ∨ w.heap.size < g := by
  obtain ⟨i0, hi, hz0, hz1, hz2⟩ := info_parts3 infoN
  have hown := World.ownsRow.alloc h.own (.cells (ncell (.slice none 0 0, withK x [])).toArray 39)
  obtain ⟨v', w2, hrun, q1, q2, _, q4⟩ := run_append_own_at (P := Tryz.prog) (w.alloc (.cells (ncell (.slice none 0 0, withK x [])).toArray 39)) base 22 22 39 i0 _ 6 80 Tryz.underlying22 hi hz0 hz1 hz2 rfl (by decide) v ns.length (ncells ns) hown ⟨w.heap.size, 0, none⟩ 1 1 (ncell (.slice none 0 0, withK x [])) rfl
    (by
      intro j u hu
      have hB := Blk.new w (ncell (.slice none 0 0, withK x [])).toArray 39
      rw [Addr.add_lit, Nat.zero_add]
      exact hB.cell (by simpa using hu))
    (by
      intro u hu
      simp [ncell] at hu
      rcases hu with rfl | rfl | rfl | rfl | rfl | rfl <;> rfl)
    (by unfold maxLen; omega) (by omega) (by simp; omega)
  have hsh : ∃ ao cap, v' = .slice ao (ns.length + 1) cap := by
    rcases q1.2 with ⟨e, h0⟩ | ⟨g, c, cur, e, _⟩
    · omega
    · exact ⟨_, _, e⟩
  obtain ⟨ao, cap, rfl⟩ := hsh
  have hg6 : w.grownBy w2 v.ownBlock := (extGrown ((Ext.refl w).alloc _) _).trans q2
  have hloc : ∀ g, (Value.slice ao (ns.length + 1) cap).ownBlock = some g → v.ownBlock = some g ∨ w.heap.size < g := fun g hg => by
    rcases q4 with q4 | q4
    · exact .inl (q4 ▸ hg)
    · rw [q4] at hg
      simp at hg
      exact .inr (by omega)
  refine ⟨ao, cap, w2, hrun, ⟨?_, fun p hp => ?_, ?_⟩, hg6, hloc⟩
  · rw [List.length_append, ncells_append, ncells_one]
    exact q1
  · rcases List.mem_append.1 hp with hp | hp
    · exact owns_kept (h.kid p hp) (fun k h1 h2 h3 => hg6.block k h1 (fun e => h.apart (h.kid p hp) h3 e.symm))
    · rw [List.mem_singleton] at hp
      subst hp
      exact World.ownsRow_nil _ _ _ _
  · refine List.pairwise_append.2 ⟨h.alone, List.pairwise_singleton _ _, fun p hp q hq g hg e => ?_⟩
    rw [List.mem_singleton] at hq
    subst hq
    cases e
/-- 'nodes[i].Kids = append(nodes[i].Kids, k)'. -/
theorem NR.kidApp {gv n cap : Nat} {A B : List Nt} {x : Nt} (h : NR w base (.slice (some ⟨gv, 0, none⟩) n cap) (A ++ x :: B)) (k : Nat) (hb : base ≤ w.heap.size) (hl : x.2.kids.length ≤ 1000000000) :
    ∃ ao c w', (Builtin.append_ #[37, 37] 37 #[x.1, .slice (some ⟨w.heap.size, 0, none⟩) 1 1]).run Tryz.prog (w.alloc (.cells #[.int .i64 (k : Int)] 3)) = .ok (.slice ao (x.2.kids.length + 1) c) w' ∧
      w'.heap[gv]? = w.heap[gv]? ∧ w.grownBy w' x.1.ownBlock ∧ NR (w'.setCell ⟨gv, A.length * 6 + 4, none⟩ (.slice ao (x.2.kids.length + 1) c)) base (.slice (some ⟨gv, 0, none⟩) n cap) (A ++ (.slice ao (x.2.kids.length + 1) c, withK x.2 (x.2.kids ++ [k])) :: B) := by
  obtain ⟨i0, hi, hz0, hz1, hz2⟩ := info_parts3 infoI
  have hxm : x ∈ A ++ x :: B := by simp
  have hown := World.ownsRow.alloc (h.kid x hxm) (.cells #[.int .i64 (k : Int)] 3)
  obtain ⟨v', w2, hrun, q1, q2, _, q4⟩ := run_append_own_at (P := Tryz.prog) (w.alloc (.cells #[.int .i64 (k : Int)] 3)) base 37 37 3 i0 _ 1 8 Tryz.underlying37 hi hz0 hz1 hz2 rfl (by decide) x.1 x.2.kids.length (kvals x.2.kids) hown ⟨w.heap.size, 0, none⟩ 1 1 [.int .i64 (k : Int)] rfl
    (by
      intro j u hu
      have hB := Blk.new w #[.int .i64 (k : Int)] 3
      rw [Addr.add_lit, Nat.zero_add]
      exact hB.cell (by simpa using hu))
    (by
      intro u hu
      simp at hu
      subst hu
      rfl)
    (by unfold maxLen; omega) (by omega) (by simp; omega)
  have hsh : ∃ ao c, v' = .slice ao (x.2.kids.length + 1) c := by
    rcases q1.2 with ⟨e, h0⟩ | ⟨g, c, cur, e, _⟩
    · omega
    · exact ⟨_, _, e⟩
  obtain ⟨ao, c, rfl⟩ := hsh
  have hg6 : w.grownBy w2 x.1.ownBlock := (extGrown ((Ext.refl w).alloc _) _).trans q2
  have hloc : ∀ g, (Value.slice ao (x.2.kids.length + 1) c).ownBlock = some g → x.1.ownBlock = some g ∨ w.heap.size < g := fun g hg => by
    rcases q4 with q4 | q4
    · exact .inl (q4 ▸ hg)
    · rw [q4] at hg
      simp at hg
      exact .inr (by omega)
  have hgv : gv < w.heap.size := (World.ownsRow.lt h.own gv rfl).2
  have hvx : x.1.ownBlock ≠ some gv := fun e => h.apart (h.kid x hxm) e rfl
  have hbl : w2.heap[gv]? = w.heap[gv]? := hg6.block gv hgv (fun e => hvx e.symm)
  have hn : n = (A ++ x :: B).length := by
    rcases h.own.2 with ⟨e, _⟩ | ⟨g2, c2, cur, e, _⟩
    · cases e
    · cases e; rfl
  have hown2 : w2.ownsRow base 39 6 (.slice (some ⟨gv, 0, none⟩) n cap) (A ++ x :: B).length (ncells (A ++ x :: B)) := owns_kept h.own (fun m h1 h2 h3 => by
    have e : gv = m := by simpa [Value.ownBlock] using h3
    subst e
    exact hbl)
  obtain ⟨h3, g3⟩ := World.ownsRow.stored (hn ▸ hown2) (A.length * 6 + 4) (.slice ao (x.2.kids.length + 1) c)
  rw [ncells_set A B x _ (x.2.kids ++ [k])] at h3
  have hal := List.pairwise_append.1 h.alone
  have hb2 := List.pairwise_cons.1 hal.2.1
  have hold : ∀ p ∈ A ++ B, ∀ g, p.1.ownBlock = some g → x.1.ownBlock ≠ some g := fun p hp g hg e => by
    rcases List.mem_append.1 hp with hp | hp
    · exact hal.2.2 p hp x (by simp) g hg e
    · exact hb2.1 p hp g e hg
  have hmem : ∀ p ∈ A ++ B, p ∈ A ++ x :: B := fun p hp => by
    rcases List.mem_append.1 hp with hp | hp
    · exact List.mem_append_left _ hp
    · exact List.mem_append_right _ (List.mem_cons_of_mem _ hp)
  have hkeep : ∀ p ∈ A ++ B, (w2.setCell ⟨gv, A.length * 6 + 4, none⟩ (.slice ao (x.2.kids.length + 1) c)).ownsRow base 3 1 p.1 p.2.kids.length (kvals p.2.kids) := fun p hp => by
    refine owns_kept (h.kid p (hmem p hp)) (fun m h1 h2 h5 => ?_)
    rw [heap_setCell_other _ _ m _ (show m ≠ gv from fun e => h.apart (h.kid p (hmem p hp)) h5 (by rw [e]; rfl))]
    exact hg6.block m h1 (fun e => hold p hp m h5 e.symm)
  have hnew : ∀ p ∈ A ++ B, ∀ g, p.1.ownBlock = some g → (Value.slice ao (x.2.kids.length + 1) c).ownBlock ≠ some g := fun p hp g hg e => by
    rcases hloc g e with h5 | h5
    · exact hold p hp g hg h5
    · have := (World.ownsRow.lt (h.kid p (hmem p hp)) g hg).2
      omega
  refine ⟨ao, c, w2, hrun, hbl, hg6, ⟨?_, fun p hp => ?_, ?_⟩⟩
  · have e : (A ++ (Value.slice ao (x.2.kids.length + 1) c, withK x.2 (x.2.kids ++ [k])) :: B).length = (A ++ x :: B).length := by simp
    rw [e, hn]
    exact h3
  · rcases List.mem_append.1 hp with hp | hp
    · exact hkeep p (List.mem_append_left _ hp)
    · rcases List.mem_cons.1 hp with rfl | hp
      · have e1 : (withK x.2 (x.2.kids ++ [k])).kids = x.2.kids ++ [k] := rfl
        have e2 : kvals (x.2.kids ++ [k]) = kvals x.2.kids ++ [.int .i64 (k : Int)] := by simp [kvals]
        simp only [e1, List.length_append, List.length_singleton, e2]
        refine owns_kept q1 (fun m h1 h2 h5 => heap_setCell_other _ _ m _ (fun e => ?_))
        simp only at e
        rcases hloc m h5 with h6 | h6
        · exact hvx (by rw [h6, e])
        · omega
      · exact hkeep p (List.mem_append_right _ hp)
  · refine List.pairwise_append.2 ⟨hal.1, List.pairwise_cons.2 ⟨fun q hq g h1 h2 => hnew q (List.mem_append_right _ hq) g h2 h1, hb2.2⟩, fun p hp q hq g k1 => ?_⟩
    rcases List.mem_cons.1 hq with rfl | hq
    · exact hnew p (List.mem_append_left _ hp) g k1
    · exact hal.2.2 p hp q (List.mem_cons_of_mem _ hq) g k1
end
end Go.Proofs.YtjfhhhabcbkahaaGreat
