/-
  Rules, as they are met: what they answer; nodes that are being made; several parts, parts in parentheses.
-/
import Derived.Test.YtjfhhhabcbkahaaGreatTH
import Derived.Deep.RegionLaw
namespace Go.Proofs.YtjfhhhabcbkahaaGreat
open Go.RowKit
set_option linter.unusedVariables false
set_option linter.unusedSimpArgs false

section
variable {w w0 w' w'' : World} {pb : Nat} {L : List Tok} {tv lv : Value} {i j lo : Nat}
/-- What a rule answers: a part from lo on. -/
def RQ (w : World) (pb : Nat) (L : List Tok) (tv lv : Value) (lo : Nat) (R : Rp) (e : Ending) (w' : World) : Prop := St w pb L tv lv R.1 w' ∧ (match R.2 with | none => e = .panicked Pan | some x => ∃ b, e = .returned (.pointer (some ⟨b, 0, none⟩)) ∧ PIn w' lo w'.heap.size b x)
/-- What a rule of a row answers. -/
def RLQ (w : World) (pb : Nat) (L : List Tok) (tv lv : Value) (R : Rl) (e : Ending) (w' : World) : Prop := St w pb L tv lv R.1 w' ∧ (match R.2 with | none => e = .panicked Pan | some l => ∃ ao cap, e = .returned (.slice ao l.length cap) ∧ PRs w' w.heap.size w'.heap.size (fun _ => False) (.slice ao l.length cap) l)
theorem RQ.pan (hs : St w pb L tv lv j w') {R : Rp} (h : R = (j, .none)) : RQ w pb L tv lv lo R (.panicked Pan) w' := by subst h; exact ⟨hs, rfl⟩
theorem RQ.ok {b : Nat} {x : List Nd} (hs : St w pb L tv lv j w') (hp : PIn w' lo w'.heap.size b x) {R : Rp} (h : R = (j, .some x)) : RQ w pb L tv lv lo R (.returned (.pointer (some ⟨b, 0, none⟩))) w' := by subst h; exact ⟨hs, b, rfl, hp⟩
theorem RLQ.pan (hs : St w pb L tv lv j w') {R : Rl} (h : R = (j, .none)) : RLQ w pb L tv lv R (.panicked Pan) w' := by subst h; exact ⟨hs, rfl⟩
theorem RLQ.ok {ao : Option Addr} {n cap : Nat} {l : List (List Nd)} (hs : St w pb L tv lv j w') (hp : PRs w' w.heap.size w'.heap.size (fun _ => False) (.slice ao n cap) l) {R : Rl} (h : R = (j, .some l)) : RLQ w pb L tv lv R (.returned (.slice ao n cap)) w' := by
  subst h
  obtain ⟨ao', cap', e⟩ := hp.shape
  cases e
  exact ⟨hs, ao, cap, rfl, hp⟩
theorem bnd_some {A B : Type} {r : Nat × Option A} {j : Nat} {a : A} {f : Nat → A → Nat × Option B} (h : r = (j, some a)) : bnd r f = f j a := by subst h; rfl
theorem bnd_none {A B : Type} {r : Nat × Option A} {j : Nat} {f : Nat → A → Nat × Option B} (h : r = (j, none)) : bnd r f = (j, none) := by subst h; rfl
/-- A node that is being made, in block xb, from lo on; what is the call's own lies from s0 on. -/
structure ND (w : World) (lo s0 xb : Nat) (kind : Int) (ty text : Byts8) (num place : Int) (kv : Value) (l : List (List Nd)) : Prop where
  blk : Blk w xb (ndC kind ty text num place kv) 78
  low : s0 ≤ xb
  lows : lo ≤ s0
  row : PRs w lo w.heap.size (fun b => b = xb) kv l
  own : ∀ g, kv.ownBlock = some g → s0 ≤ g
variable {s0 xb : Nat} {kind : Int} {ty text : Byts8} {num place : Int} {kv : Value} {l : List (List Nd)}
theorem ND.out (h : ND w lo s0 xb kind ty text num place kv l) (ho : Out (fun b => b = pb) w w') (hp : pb < lo) : ND w' lo s0 xb kind ty text num place kv l :=
  ⟨h.blk.out ho (by have := h.low; have := h.lows; omega), h.low, h.lows, (h.row.out ho (fun k e => .inl (by omega))).wide (Nat.le_refl _) ho.size (Nat.le_refl _), h.own⟩
theorem ND.ext (h : ND w lo s0 xb kind ty text num place kv l) (hx : Ext w w') : ND w' lo s0 xb kind ty text num place kv l :=
  ⟨h.blk.ext hx, h.low, h.lows, (h.row.ext hx).wide (Nat.le_refl _) hx.size (Nat.le_refl _), h.own⟩
theorem ND.part (h : ND w lo s0 xb kind ty text num place kv l) : PIn w lo w.heap.size xb (mkN kind ty text num place l) := PIn.made h.blk h.row (Nat.le_trans h.lows h.low) h.blk.lt
/-- Begun without kids. -/
theorem ND.new (hb : Blk w xb (ndC kind [] [] 0 place (.slice none 0 0)) 78) (hl : s0 ≤ xb) : ND w s0 s0 xb kind [] [] 0 place (.slice none 0 0) [] :=
  ⟨hb, hl, Nat.le_refl _, PRs.nil _ _ _ _ (Nat.le_refl _), fun _ e => by cases e⟩
theorem ND.setC (h : ND w lo s0 xb kind ty text num place kv l) (c : Nat) (v : Value) {ty' text' : Byts8} {num' : Int} (hc : (ndC kind ty text num place kv).setIfInBounds c v = ndC kind ty' text' num' place kv) : ND (w.setCell ⟨xb, c, none⟩ v) lo s0 xb kind ty' text' num' place kv l := by
  refine ⟨hc ▸ h.blk.set c v, h.low, h.lows, ?_, h.own⟩
  have := h.row.same (w' := w.setCell ⟨xb, c, none⟩ v) (fun k _ _ hk => heap_setCell_other _ _ _ _ (by simpa using hk)) (by simp)
  exact this.wide (Nat.le_refl _) (by simp) (Nat.le_refl _)
theorem ND.setText (h : ND w lo s0 xb kind ty text num place kv l) (t : Byts8) : ND (w.setCell ⟨xb, 2, none⟩ (.string ⟨t.toArray⟩)) lo s0 xb kind ty t num place kv l := h.setC 2 _ rfl
theorem ND.setType (h : ND w lo s0 xb kind ty text num place kv l) (t : Byts8) : ND (w.setCell ⟨xb, 1, none⟩ (.string ⟨t.toArray⟩)) lo s0 xb kind t text num place kv l := h.setC 1 _ rfl
theorem ND.setNum (h : ND w lo s0 xb kind ty text num place kv l) (n : Int) : ND (w.setCell ⟨xb, 3, none⟩ (.int .i32 n)) lo s0 xb kind ty text n place kv l := h.setC 3 _ rfl
/-- All its kids are laid at once. -/
theorem ND.setKids {v' : Value} {l' : List (List Nd)} (h : ND w lo s0 xb kind ty text num place kv l) (hr : PRs w lo w.heap.size (fun b => b = xb) v' l') (ho : ∀ g, v'.ownBlock = some g → s0 ≤ g) : ND (w.setCell ⟨xb, 6, none⟩ v') lo s0 xb kind ty text num place v' l' := by
  refine ⟨h.blk.set 6 v', h.low, h.lows, ?_, ho⟩
  have := hr.same (w' := w.setCell ⟨xb, 6, none⟩ v') (fun k _ _ hk => heap_setCell_other _ _ _ _ (by simpa using hk)) (by simp)
  exact this.wide (Nat.le_refl _) (by simp) (Nat.le_refl _)
/-- 'x.kids = append(x.kids, part)'. -/
theorem ND.app {x : List Nd} {a b : Nat} (h : ND w lo s0 xb kind ty text num place kv l) (hp : PIn w a w.heap.size b x) (hxa : xb < a) (hva : ∀ g, kv.ownBlock = some g → g < a) (hl : l.length ≤ 1000000000000) :
    ∃ ao cap w', (Builtin.append_ #[76, 76] 76 #[kv, .slice (some ⟨w.heap.size, 0, none⟩) 1 1]).run Tryz.prog (w.alloc (.cells #[.pointer (some ⟨b, 0, none⟩)] 53)) = .ok (.slice ao (l.length + 1) cap) w' ∧
      w'.cell? ⟨xb, 6, none⟩ = some kv ∧ w'.frozen? ⟨xb, 6, none⟩ = false ∧ w.grownBy w' kv.ownBlock ∧ ND (w'.setCell ⟨xb, 6, none⟩ (.slice ao (l.length + 1) cap)) lo s0 xb kind ty text num place (.slice ao (l.length + 1) cap) (l ++ [x]) := by
  have hsz := h.blk.lt
  have h1 := h.low
  have h2 := h.lows
  obtain ⟨ao, cap, w2, hrun, hr, hg, hloc⟩ := h.row.app hp (by omega) hva (fun k e => by omega) (by omega) hl
  have hne : kv.ownBlock ≠ some xb := fun e => by
    obtain ⟨ks, _, _, h5, _⟩ := h.row.ex
    exact (h5 xb e).2 rfl
  have hB : Blk w2 xb (ndC kind ty text num place kv) 78 := (hg.block xb hsz (fun e => hne e.symm)).trans h.blk
  refine ⟨ao, cap, w2, hrun, hB.cell rfl, hB.free 6, hg, ⟨hB.set 6 _, h1, h2, ?_, fun g e => ?_⟩⟩
  · have := hr.same (w' := w2.setCell ⟨xb, 6, none⟩ (.slice ao (l.length + 1) cap)) (fun k _ _ hk => heap_setCell_other _ _ _ _ (by simpa using hk)) (by simp)
    exact this.wide (Nat.le_refl _) (by simp) (Nat.le_refl _)
  · rcases hloc g e with h6 | h6
    · exact h.own g h6
    · omega
end
end Go.Proofs.YtjfhhhabcbkahaaGreat
