/-
  Parts and a parser in memory.
-/
import Derived.Test.YtjfhhhabcbkahaaGreatTB
import Derived.Test.YtjfhhhabcbkahaaGreatZM0
import Derived.Laws.EntriesVeiled
namespace Go.Proofs.YtjfhhhabcbkahaaGreat
open Go.RowKit
set_option linter.unusedVariables false
set_option linter.unusedSimpArgs false

theorem setX {w w1 : World} {b i : Nat} {v : Value} (h : Ext w w1) (hb : w.heap.size ≤ b) : Ext w (w1.setCell ⟨b, i, none⟩ v) := below_grown h (grownBy_set w1 b i v) h.size hb

/-! ### Rows of texts -/
/-- The slice v holds the texts ts, in no block of T's. -/
def SF (T : Nat → Prop) (w : World) (v : Value) (ts : List Byts8) : Prop := ∃ ao cap, v = .slice ao ts.length cap ∧ ts.length ≤ cap ∧ cap ≤ maxLen ∧ ∀ i (h : i < ts.length), ∃ b off, ao = some ⟨b, off, none⟩ ∧ ¬ T b ∧ w.cell? ⟨b, off + i, none⟩ = some (.string ⟨ts[i].toArray⟩)
section
variable {T T' : Nat → Prop} {w w' : World} {v : Value} {ts : List Byts8}
theorem cell_out {p : Addr} {u : Value} (h : w.cell? p = some u) (ho : Out T w w') (hb : ¬ T p.block) : w'.cell? p = some u := by
  have hl := World.block_lt_of_cell? w _ h
  have := ho.block p.block hl hb
  unfold World.cell? at h ⊢
  rw [this]
  exact h
theorem SF.out (h : SF T w v ts) (ho : Out T w w') : SF T w' v ts := by
  obtain ⟨ao, cap, e, h1, h2, h3⟩ := h
  refine ⟨ao, cap, e, h1, h2, fun i hi => ?_⟩
  obtain ⟨b, off, e2, hb, hc⟩ := h3 i hi
  exact ⟨b, off, e2, hb, cell_out hc ho hb⟩
theorem SF.ext (h : SF T w v ts) (hx : Ext w w') : SF T w' v ts := h.out (Out.of_ext hx)
theorem SF.any (h : SF T w v ts) (hT : ∀ b, T' b → T b) : SF T' w v ts := by
  obtain ⟨ao, cap, e, h1, h2, h3⟩ := h
  refine ⟨ao, cap, e, h1, h2, fun i hi => ?_⟩
  obtain ⟨b, off, e2, hb, hc⟩ := h3 i hi
  exact ⟨b, off, e2, fun ht => hb (hT b ht), hc⟩
/-- Texts that were laid just now. -/
theorem SF.new {b : Nat} {t : TypeId} (ts : List Byts8) (hB : Blk w b (ts.map (fun x => Value.string ⟨x.toArray⟩)).toArray t) (hb : ¬ T b) (hl : ts.length ≤ maxLen) : SF T w (.slice (some ⟨b, 0, none⟩) ts.length ts.length) ts := by
  refine ⟨_, _, rfl, Nat.le_refl _, hl, fun i hi => ⟨b, 0, rfl, hb, ?_⟩⟩
  refine hB.cell ?_
  simp [hi]
end

/-! ### Parts -/
def ndC (kind : Int) (ty text : Byts8) (num place : Int) (kv : Value) : Array Value := #[.int .i64 kind, .string ⟨ty.toArray⟩, .string ⟨text.toArray⟩, .int .i32 num, .slice none 0 0, .int .i64 place, kv]
def ptrK (k : Nat × List Nd) : Value := .pointer (some ⟨k.1, 0, none⟩)
/-- Block b is a part, x the nodes of it and of all within it; all of it lies from lo on, below hi. -/
def PT : Nat → World → Nat → Nat → Nat → List Nd → Prop
  | 0, _, _, _, _, _ => False
  | n + 1, w, lo, hi, b, x => ∃ (kind : Int) (ty text : Byts8) (num place : Int) (kv : Value) (ks : List (Nat × List Nd)), lo ≤ b ∧ b < hi ∧ Blk w b (ndC kind ty text num place kv) 78 ∧
      w.ownsRow lo 53 1 kv ks.length (ks.map ptrK) ∧ (∀ g, kv.ownBlock = some g → g < hi) ∧ x = mkN kind ty text num place (ks.map Prod.snd) ∧ ∀ k ∈ ks, PT n w lo hi k.1 k.2
theorem owns_same {w w' : World} {lo hi n : Nat} {e : TypeId} {v : Value} {xs : List Value} (h : w.ownsRow lo e 1 v n xs) (hv : ∀ g, v.ownBlock = some g → g < hi) (hs : ∀ k, lo ≤ k → k < hi → w'.heap[k]? = w.heap[k]?) : w'.ownsRow lo e 1 v n xs := by
  refine ⟨h.1, ?_⟩
  rcases h.2 with h0 | ⟨g, cap, cur, e1, h1, h2, h3⟩
  · exact .inl h0
  · refine .inr ⟨g, cap, cur, e1, h1, ?_, h3⟩
    rw [hs g h1 (hv g (by rw [e1]; rfl))]
    exact h2
theorem owns_lower {w : World} {lo lo' n : Nat} {e : TypeId} {v : Value} {xs : List Value} (h : w.ownsRow lo e 1 v n xs) (hl : lo' ≤ lo) : w.ownsRow lo' e 1 v n xs := by
  refine ⟨h.1, ?_⟩
  rcases h.2 with h0 | ⟨g, cap, cur, e1, h1, r⟩
  · exact .inl h0
  · exact .inr ⟨g, cap, cur, e1, by omega, r⟩
theorem PT.same {w w' : World} {lo hi : Nat} (hs : ∀ k, lo ≤ k → k < hi → w'.heap[k]? = w.heap[k]?) : ∀ {n b : Nat} {x : List Nd}, PT n w lo hi b x → PT n w' lo hi b x
  | n + 1, b, x, ⟨kind, ty, text, num, place, kv, ks, h1, h2, h3, h4, h5, h6, h7⟩ =>
    ⟨kind, ty, text, num, place, kv, ks, h1, h2, (hs b h1 h2).trans h3, owns_same h4 h5 hs, h5, h6, fun k hk => PT.same hs (h7 k hk)⟩
theorem PT.wide {w : World} {lo hi lo' hi' : Nat} (hl : lo' ≤ lo) (hh : hi ≤ hi') : ∀ {n b : Nat} {x : List Nd}, PT n w lo hi b x → PT n w lo' hi' b x
  | n + 1, b, x, ⟨kind, ty, text, num, place, kv, ks, h1, h2, h3, h4, h5, h6, h7⟩ =>
    ⟨kind, ty, text, num, place, kv, ks, by omega, by omega, h3, owns_lower h4 hl, fun g hg => by have := h5 g hg; omega, h6, fun k hk => PT.wide hl hh (h7 k hk)⟩
theorem PT.more {w : World} {lo hi : Nat} : ∀ {n m b : Nat} {x : List Nd}, n ≤ m → PT n w lo hi b x → PT m w lo hi b x
  | n + 1, m + 1, b, x, hm, ⟨kind, ty, text, num, place, kv, ks, h1, h2, h3, h4, h5, h6, h7⟩ =>
    ⟨kind, ty, text, num, place, kv, ks, h1, h2, h3, h4, h5, h6, fun k hk => PT.more (by omega) (h7 k hk)⟩
  | n + 1, 0, b, x, hm, _ => by omega
/-- Block b is a part. -/
structure PIn (w : World) (lo hi b : Nat) (x : List Nd) : Prop where
  ex : ∃ n, PT n w lo hi b x
  top : hi ≤ w.heap.size
theorem PIn.low {w : World} {lo hi b : Nat} {x : List Nd} (h : PIn w lo hi b x) : lo ≤ b ∧ b < hi := by
  obtain ⟨n, h⟩ := h.ex
  cases n with
  | zero => exact h.elim
  | succ n =>
    obtain ⟨_, _, _, _, _, _, _, h1, h2, _⟩ := h
    exact ⟨h1, h2⟩
theorem PIn.same {w w' : World} {lo hi b : Nat} {x : List Nd} (h : PIn w lo hi b x) (hs : ∀ k, lo ≤ k → k < hi → w'.heap[k]? = w.heap[k]?) (hz : w.heap.size ≤ w'.heap.size) : PIn w' lo hi b x := by
  obtain ⟨n, h1⟩ := h.ex
  exact ⟨⟨n, h1.same hs⟩, Nat.le_trans h.top hz⟩
theorem PIn.wide {w : World} {lo hi lo' hi' b : Nat} {x : List Nd} (h : PIn w lo hi b x) (hl : lo' ≤ lo) (hh : hi ≤ hi') (ht : hi' ≤ w.heap.size) : PIn w lo' hi' b x := by
  obtain ⟨n, h1⟩ := h.ex
  exact ⟨⟨n, h1.wide hl hh⟩, ht⟩
theorem PIn.out {w w' : World} {lo hi b : Nat} {x : List Nd} {T : Nat → Prop} (h : PIn w lo hi b x) (ho : Out T w w') (hT : ∀ k, lo ≤ k → k < hi → ¬ T k) : PIn w' lo hi b x :=
  h.same (fun k h1 h2 => ho.block k (Nat.lt_of_lt_of_le h2 h.top) (hT k h1 h2)) ho.size
theorem PIn.ext {w w' : World} {lo hi b : Nat} {x : List Nd} (h : PIn w lo hi b x) (hx : Ext w w') : PIn w' lo hi b x := h.out (T := fun _ => False) (Out.of_ext hx) (fun _ _ _ e => e)
theorem PIn.kindC {w : World} {lo hi b : Nat} {x : List Nd} (h : PIn w lo hi b x) : ∃ ty text num place kv, Blk w b (ndC (kindL x) ty text num place kv) 78 := by
  obtain ⟨n, h⟩ := h.ex
  cases n with
  | zero => exact h.elim
  | succ n =>
    obtain ⟨kind, ty, text, num, place, kv, ks, h1, h2, h3, _, _, rfl, _⟩ := h
    exact ⟨ty, text, num, place, kv, h3⟩
/-- A row of parts; none of it lies in X. -/
structure PRs (w : World) (lo hi : Nat) (X : Nat → Prop) (v : Value) (l : List (List Nd)) : Prop where
  ex : ∃ ks : List (Nat × List Nd), l = ks.map Prod.snd ∧ w.ownsRow lo 53 1 v ks.length (ks.map ptrK) ∧ (∀ g, v.ownBlock = some g → g < hi ∧ ¬ X g) ∧
    ∀ k ∈ ks, ∃ a b, lo ≤ a ∧ b ≤ hi ∧ PIn w a b k.1 k.2 ∧ ∀ m, a ≤ m → m < b → ¬ X m ∧ v.ownBlock ≠ some m
  top : hi ≤ w.heap.size
section
variable {w w' : World} {lo hi lo' hi' b : Nat} {v : Value} {l : List (List Nd)} {T X X' : Nat → Prop}
theorem PRs.same (h : PRs w lo hi X v l) (hs : ∀ k, lo ≤ k → k < hi → ¬ X k → w'.heap[k]? = w.heap[k]?) (hz : w.heap.size ≤ w'.heap.size) : PRs w' lo hi X v l := by
  obtain ⟨ks, h1, h2, h3, h4⟩ := h.ex
  refine ⟨⟨ks, h1, ?_, h3, fun k hk => ?_⟩, Nat.le_trans h.top hz⟩
  · refine ⟨h2.1, ?_⟩
    rcases h2.2 with h0 | ⟨g, cap, cur, e1, h5, h6, h7⟩
    · exact .inl h0
    · refine .inr ⟨g, cap, cur, e1, h5, ?_, h7⟩
      have := h3 g (by rw [e1]; rfl)
      rw [hs g h5 this.1 this.2]
      exact h6
  · obtain ⟨a, c, ha, hc, hp, hx⟩ := h4 k hk
    exact ⟨a, c, ha, hc, hp.same (fun m m1 m2 => hs m (by omega) (by omega) (hx m m1 m2).1) hz, hx⟩
theorem PRs.out (h : PRs w lo hi X v l) (ho : Out T w w') (hT : ∀ k, T k → k < lo ∨ X k) : PRs w' lo hi X v l :=
  h.same (fun k h1 h2 h3 => ho.block k (Nat.lt_of_lt_of_le h2 h.top) (fun e => by rcases hT k e with h4 | h4; omega; exact h3 h4)) ho.size
theorem PRs.ext (h : PRs w lo hi X v l) (hx : Ext w w') : PRs w' lo hi X v l := h.out (T := fun _ => False) (Out.of_ext hx) (fun _ e => e.elim)
theorem PRs.wide (h : PRs w lo hi X v l) (hl : lo' ≤ lo) (hh : hi ≤ hi') (ht : hi' ≤ w.heap.size) : PRs w lo' hi' X v l := by
  obtain ⟨ks, h1, h2, h3, h4⟩ := h.ex
  refine ⟨⟨ks, h1, owns_lower h2 hl, fun g hg => ⟨by have := (h3 g hg).1; omega, (h3 g hg).2⟩, fun k hk => ?_⟩, ht⟩
  obtain ⟨a, c, ha, hc, r⟩ := h4 k hk
  exact ⟨a, c, by omega, by omega, r⟩
theorem PRs.imp (h : PRs w lo hi X v l) (hX : ∀ k, X' k → X k ∨ hi ≤ k ∨ k < lo) : PRs w lo hi X' v l := by
  obtain ⟨ks, h1, h2, h3, h4⟩ := h.ex
  refine ⟨⟨ks, h1, h2, fun g hg => ⟨(h3 g hg).1, fun e => ?_⟩, fun k hk => ?_⟩, h.top⟩
  · have := h3 g hg
    have h6 := (World.ownsRow.lt h2 g hg).1
    rcases hX g e with h5 | h5 | h5
    · exact this.2 h5
    · omega
    · omega
  · obtain ⟨a, c, ha, hc, hp, hx⟩ := h4 k hk
    refine ⟨a, c, ha, hc, hp, fun m m1 m2 => ⟨fun e => ?_, (hx m m1 m2).2⟩⟩
    rcases hX m e with h5 | h5 | h5
    · exact (hx m m1 m2).1 h5
    · omega
    · omega
theorem PRs.nil (w : World) (lo hi : Nat) (X : Nat → Prop) (ht : hi ≤ w.heap.size) : PRs w lo hi X (.slice none 0 0) [] :=
  ⟨⟨[], rfl, World.ownsRow_nil _ _ _ _, (fun _ e => by cases e), fun k hk => by cases hk⟩, ht⟩
/-- One part, in a row of its own behind it. -/
theorem PRs.one {x : List Nd} {g a : Nat} (h : PIn w a g b x) (hB : Blk w g #[.pointer (some ⟨b, 0, none⟩)] 53) (hl : lo ≤ a) (h1 : lo ≤ g) (h2 : g < hi) (ht : hi ≤ w.heap.size) (hX : ∀ k, X k → k < lo ∨ hi ≤ k) : PRs w lo hi X (.slice (some ⟨g, 0, none⟩) 1 1) [x] := by
  refine ⟨⟨[(b, x)], rfl, ⟨rfl, .inr ⟨g, 1, #[.pointer (some ⟨b, 0, none⟩)], rfl, h1, hB, Nat.le_refl _, by decide, rfl, rfl⟩⟩, fun k e => ?_, fun k hk => ?_⟩, ht⟩
  · cases e
    refine ⟨h2, fun e => ?_⟩
    simp only at e
    rcases hX _ e with h3 | h3 <;> omega
  · rw [List.mem_singleton] at hk
    subst hk
    refine ⟨a, g, hl, by omega, h, fun m m1 m2 => ⟨fun e => ?_, fun e => ?_⟩⟩
    · rcases hX _ e with h3 | h3 <;> omega
    · have e2 : g = m := by simpa [Value.ownBlock] using e
      omega
theorem PRs.lt (h : PRs w lo hi X v l) (g : Nat) (hg : v.ownBlock = some g) : g < hi := by
  obtain ⟨ks, _, _, h3, _⟩ := h.ex
  exact (h3 g hg).1
theorem PRs.ge (h : PRs w lo hi X v l) (g : Nat) (hg : v.ownBlock = some g) : lo ≤ g := by
  obtain ⟨ks, _, h2, _⟩ := h.ex
  exact (World.ownsRow.lt h2 g hg).1
theorem PRs.shape (h : PRs w lo hi X v l) : ∃ ao cap, v = .slice ao l.length cap := by
  obtain ⟨ks, rfl, h2, _⟩ := h.ex
  rcases h2.2 with ⟨e, h0⟩ | ⟨g, cap, cur, e, _⟩
  · exact ⟨none, 0, by rw [e, List.length_map, h0]⟩
  · exact ⟨_, cap, by rw [e, List.length_map]⟩
theorem fuel_all : ∀ (ks : List (Nat × List Nd)), (∀ k ∈ ks, PIn w lo hi k.1 k.2) → ∃ n, ∀ k ∈ ks, PT n w lo hi k.1 k.2
  | [], _ => ⟨0, fun k hk => by cases hk⟩
  | k :: ks, h => by
    obtain ⟨n, hn⟩ := fuel_all ks (fun x hx => h x (by simp [hx]))
    obtain ⟨m, hm⟩ := (h k (by simp)).ex
    refine ⟨max n m, fun x hx => ?_⟩
    rcases List.mem_cons.1 hx with rfl | hx
    · exact hm.more (by omega)
    · exact (hn x hx).more (by omega)
/-- A node with its kids is a part. -/
theorem PIn.made {kind : Int} {ty text : Byts8} {num place : Int} (hB : Blk w b (ndC kind ty text num place v) 78) (hr : PRs w lo hi X v l) (h1 : lo ≤ b) (h2 : b < hi) : PIn w lo hi b (mkN kind ty text num place l) := by
  obtain ⟨ks, rfl, ho, hv, hk⟩ := hr.ex
  obtain ⟨n, hn⟩ := fuel_all ks (fun k hm => by
    obtain ⟨a, c, ha, hc, hp, _⟩ := hk k hm
    exact hp.wide ha hc hr.top)
  exact ⟨⟨n + 1, kind, ty, text, num, place, v, ks, h1, h2, hB, ho, fun g hg => (hv g hg).1, rfl, hn⟩, hr.top⟩
theorem infoP : (Tryz.prog.info? 53).map (fun i => (i.zero, i.size, i.bytes)) = some (some (.pointer none), 1, 8) := by kernel_rfl
/-- 'append(row, part)', the part's pointer laid last. -/
theorem PRs.app {x : List Nd} {a : Nat} (h : PRs w lo w.heap.size X v l) (hp : PIn w a w.heap.size b x) (hla : lo ≤ a) (hva : ∀ g, v.ownBlock = some g → g < a) (hXa : ∀ k, X k → k < a) (hlo : lo ≤ w.heap.size) (hl : l.length ≤ 1000000000000) :
    ∃ ao cap w', (Builtin.append_ #[76, 76] 76 #[v, .slice (some ⟨w.heap.size, 0, none⟩) 1 1]).run Tryz.prog (w.alloc (.cells #[.pointer (some ⟨b, 0, none⟩)] 53)) = .ok (.slice ao (l.length + 1) cap) w' ∧
      PRs w' lo w'.heap.size X (.slice ao (l.length + 1) cap) (l ++ [x]) ∧ w.grownBy w' v.ownBlock ∧ ∀ g, (Value.slice ao (l.length + 1) cap).ownBlock = some g → v.ownBlock = some g ∨ w.heap.size < g := by
  obtain ⟨i0, hi, hz0, hz1, hz2⟩ := info_parts3 infoP
  obtain ⟨ks, rfl, h2, h3, h4⟩ := h.ex
  have hown := World.ownsRow.alloc h2 (.cells #[.pointer (some ⟨b, 0, none⟩)] 53)
  rw [List.length_map] at hl ⊢
  obtain ⟨v', w2, hrun, q1, q2, _, q4⟩ := run_append_own_at (P := Tryz.prog) (w.alloc (.cells #[.pointer (some ⟨b, 0, none⟩)] 53)) lo 76 76 53 i0 _ 1 8 Tryz.underlying76 hi hz0 hz1 hz2 rfl (by decide) v ks.length (ks.map ptrK) hown ⟨w.heap.size, 0, none⟩ 1 1 [.pointer (some ⟨b, 0, none⟩)] rfl
    (by
      intro j u hu
      have hB := Blk.new w #[.pointer (some ⟨b, 0, none⟩)] 53
      rw [Addr.add_lit, Nat.zero_add]
      exact hB.cell (by simpa using hu))
    (by
      intro u hu
      simp at hu
      subst hu
      rfl)
    (by unfold maxLen; omega) (by omega) (by simp; omega)
  have hsh : ∃ ao cap, v' = .slice ao (ks.length + 1) cap := by
    rcases q1.2 with ⟨e, h0⟩ | ⟨g, c, cur, e, _⟩
    · omega
    · exact ⟨_, _, e⟩
  obtain ⟨ao, cap, rfl⟩ := hsh
  have hs2 : w.heap.size < w2.heap.size := by have := q2.size; simp at this; omega
  have hloc : ∀ g, (Value.slice ao (ks.length + 1) cap).ownBlock = some g → v.ownBlock = some g ∨ w.heap.size < g := fun g hg => by
    rcases q4 with q4 | q4
    · exact .inl (q4 ▸ hg)
    · rw [q4] at hg
      simp at hg
      exact .inr (by omega)
  have hg6 : w.grownBy w2 v.ownBlock := (extGrown ((Ext.refl w).alloc _) _).trans q2
  have hxs : ∀ k, X k → k < w.heap.size := fun k hk => by have := hXa k hk; have := hp.low; have := hp.top; omega
  refine ⟨ao, cap, w2, hrun, ⟨⟨ks ++ [(b, x)], by simp, ?_, fun g hg => ?_, fun k hk => ?_⟩, Nat.le_refl _⟩, hg6, hloc⟩
  · rw [List.length_append, List.map_append]
    exact q1
  · have hlt := (World.ownsRow.lt q1 g hg).2
    refine ⟨hlt, fun e => ?_⟩
    rcases hloc g hg with h5 | h5
    · exact (h3 g h5).2 e
    · have := hxs g e
      omega
  · rcases List.mem_append.1 hk with hk | hk
    · obtain ⟨a', c, ha, hc, hpk, hx⟩ := h4 k hk
      refine ⟨a', c, ha, by omega, hpk.same (fun m m1 m2 => hg6.block m (by omega) (fun e => (hx m m1 m2).2 e.symm)) (by omega), fun m m1 m2 => ⟨(hx m m1 m2).1, fun e => ?_⟩⟩
      rcases hloc m e with h5 | h5
      · exact (hx m m1 m2).2 h5
      · omega
    · rw [List.mem_singleton] at hk
      subst hk
      refine ⟨a, w.heap.size, hla, by omega, hp.same (fun m m1 m2 => hg6.block m m2 (fun e => by have := hva m e.symm; omega)) (by omega), fun m m1 m2 => ⟨fun e => by have := hXa m e; omega, fun e => ?_⟩⟩
      rcases hloc m e with h5 | h5
      · have := hva m h5
        omega
      · omega
end

/-! ### The parser -/
def prC (tv : Value) (i : Nat) (lv : Value) : Array Value := #[tv, .int .i64 i, lv]
def fnL (k : Nat) : FuncId := match k with | 0 => 53 | 1 => 54 | 2 => 55 | 3 => 56 | 4 => 57 | _ => 58
/-- The levels' table. -/
def LV (w : World) (pb : Nat) (lv : Value) : Prop := ∃ lb, lv = .slice (some ⟨lb, 0, none⟩) 6 6 ∧ lb ≠ pb ∧ ∀ k, k < 6 → ∃ ov, w.cell? ⟨lb, k * 2, none⟩ = some (.func (.func (fnL k)) #[.pointer (some ⟨pb, 0, none⟩)] #[]) ∧ w.cell? ⟨lb, k * 2 + 1, none⟩ = some ov ∧ SF (fun b => b = pb) w ov (opsW k)
/-- Block pb is a parser, i tokens being taken. -/
structure PE (w : World) (pb : Nat) (L : List Tok) (tv lv : Value) (i : Nat) : Prop where
  blk : Blk w pb (prC tv i lv) 71
  toks : TF (fun b => b = pb) w tv L
  lev : LV w pb lv
section
variable {w w' : World} {pb : Nat} {L : List Tok} {tv lv : Value} {i : Nat}
theorem LV.out (h : LV w pb lv) (ho : Out (fun b => b = pb) w w') : LV w' pb lv := by
  obtain ⟨lb, e, hl, h1⟩ := h
  refine ⟨lb, e, hl, fun k hk => ?_⟩
  obtain ⟨ov, c1, c2, h2⟩ := h1 k hk
  exact ⟨ov, cell_out c1 ho hl, cell_out c2 ho hl, h2.out ho⟩
theorem PE.ext (h : PE w pb L tv lv i) (hx : Ext w w') : PE w' pb L tv lv i := ⟨h.blk.ext hx, h.toks.ext hx, h.lev.out (Out.of_ext hx)⟩
theorem PE.lt (h : PE w pb L tv lv i) : pb < w.heap.size := h.blk.lt
/-- The next token is taken. -/
theorem PE.step (h : PE w pb L tv lv i) (j : Nat) : PE (w.setCell ⟨pb, 1, none⟩ (.int .i64 j)) pb L tv lv j ∧ Out (fun b => b = pb) w (w.setCell ⟨pb, 1, none⟩ (.int .i64 j)) := by
  have ho : Out (fun b => b = pb) w (w.setCell ⟨pb, 1, none⟩ (.int .i64 j)) := Out.of_grown (grownBy_set w pb 1 _) (fun k e => by cases e; rfl)
  exact ⟨⟨h.blk.set 1 _, h.toks.out ho, h.lev.out ho⟩, ho⟩
end
end Go.Proofs.YtjfhhhabcbkahaaGreat
