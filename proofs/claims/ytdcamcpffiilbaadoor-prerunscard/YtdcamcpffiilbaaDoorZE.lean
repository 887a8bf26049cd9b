/-
  open.
-/
import Derived.Test.YtdcamcpffiilbaaDoorZD
namespace Go.Proofs.YtdcamcpffiilbaaDoor
open Go.RowKit
set_option linter.unusedVariables false
set_option linter.unusedSimpArgs false

theorem infoPt : (Tryd.prog.info? 80).map (fun i => (i.zero, i.size, i.bytes)) = some (some (.agg #[.bool false, .bool false, .bool false]), 3, 3) := by kernel_rfl
/-- 'append(parts, x)', the block of x laid last. -/
theorem wpList_append_part {w : World} {ops : Array Oper} {rest : List Oper} {o : Oper} {a : Act} {Q : Exit → Act → World → Prop} (hgd : o.guard = none) (s x : Operand)
    (ho : o.op = .call { callee := .builtin .append, args := #[s, x], argTypes := #[38, 38] }) (base : Nat) (v : Value) (ps : List Part) (p : Part) (hs : a.eval s = v)
    (hown : PO w base v ps) (g c : Nat) (hx : a.eval x = .slice (some ⟨g, 0, none⟩) 1 c) (t : TypeId) (hB : Blk w g (pcell p).toArray t)
    (hL : ps.length ≤ 2000000000000) (hbase : base ≤ w.heap.size)
    (h : ∀ ao cap w', PO w' base (.slice ao (ps.length + 1) cap) (ps ++ [p]) → w.grownBy w' v.ownBlock → (∀ b, (Value.slice ao (ps.length + 1) cap).ownBlock = some b → v.ownBlock = some b ∨ w.heap.size ≤ b) → wpList Tryd.prog ops Q rest (a.put o.dst (.slice ao (ps.length + 1) cap)) w') :
    wpList Tryd.prog ops Q (o :: rest) a w := by
  obtain ⟨i0, hi, hz0, hz1, hz2⟩ := info_parts3 infoPt
  refine wpList_append_own_at w hgd s x 38 ho base 80 i0 _ 3 3 Tryd.underlying38 hi hz0 hz1 hz2 rfl (by decide) v ps.length (pcells ps) hs hown ⟨g, 0, none⟩ 1 c (pcell p) hx rfl ?_ ?_ (by unfold maxLen; omega) (by omega) hbase ?_
  · intro j u hu
    rw [Addr.add_lit, Nat.zero_add]
    exact hB.cell (by simpa using hu)
  · intro u hu
    simp [pcell] at hu
    rcases hu with rfl | rfl | rfl <;> rfl
  · intro v' w' h1 h2 _ h4
    have e1 : pcells ps ++ pcell p = pcells (ps ++ [p]) := by rw [pcells_app]; simp [pcells]
    have hl : (ps ++ [p]).length = ps.length + 1 := by simp
    rw [e1] at h1
    have hsh : ∃ ao cap, v' = .slice ao (ps.length + 1) cap := by
      rcases h1.2 with ⟨_, h0⟩ | ⟨g2, c2, cur, e, _⟩
      · omega
      · exact ⟨_, _, e⟩
    obtain ⟨ao, cap, rfl⟩ := hsh
    refine h ao cap w' (by unfold PO; rw [hl]; exact h1) h2 (fun b hb => ?_)
    rcases h4 with h4 | h4
    · exact .inl (h4 ▸ hb)
    · rw [h4] at hb
      cases hb
      exact .inr (Nat.le_refl _)

section
variable {w w' : World} {T T' : Nat → Prop} {base rb mb n : Nat} {po : Option Addr} {pc : Nat} {to : Option Addr} {tc : Nat} {E : Env} {ps : List Part} {tl : List Tok}
theorem RD.openParts {po' : Option Addr} {pc' : Nat} {qs : List Part} (h : RD w T base rb mb n po pc to tc E ps tl) (hg : w.grownBy w' (Value.slice po ps.length pc).ownBlock) (hp : PO w' base (.slice po' qs.length pc') qs)
    (hloc : ∀ b, (Value.slice po' qs.length pc').ownBlock = some b → (Value.slice po ps.length pc).ownBlock = some b ∨ w.heap.size ≤ b) :
    ∃ T', Wid T T' w ∧ RD (w'.setCell ⟨rb, 1, none⟩ (.slice po' qs.length pc')) T' base rb mb n po' pc' to tc E qs tl ∧ Out T w (w'.setCell ⟨rb, 1, none⟩ (.slice po' qs.length pc')) := by
  obtain ⟨f, hf, hs⟩ := h.map
  have hrbl := h.blk.lt
  have hmbl := hf.lt
  have ho6 : Out T w w' := Out.of_grown hg (fun k e => (h.tpo k e).1)
  have hg7 := grownBy_set w' rb 1 (.slice po' qs.length pc')
  have ho : Out T w (w'.setCell ⟨rb, 1, none⟩ (.slice po' qs.length pc')) := ho6.trans (Out.of_grown hg7 (T := T) (fun k e => by cases e; exact h.trb)) (fun k e => .inl e)
  have hnew : ∀ b, (Value.slice po' qs.length pc').ownBlock = some b → b ≠ rb ∧ b ≠ mb := fun b hb => by
    rcases hloc b hb with h1 | h1
    · exact (h.tpo b h1).2
    · exact ⟨by omega, by omega⟩
  refine ⟨fun b => T b ∨ (Value.slice po' qs.length pc').ownBlock = some b, fun b => ⟨fun _ => .inl, fun e => ?_⟩, ⟨?_, ⟨f, (hf.kept hg (fun e => (h.tpo mb e.symm).2.2 rfl)).kept hg7 (fun e => h.ne (by cases e; rfl)), fun k => (hs k).step ho (fun b => ⟨fun _ => .inl, fun e => ?_⟩)⟩, ?_, ?_, .inl h.trb, .inl h.tmb, h.ne, fun b hb => ⟨.inr hb, hnew b hb⟩, fun b hb => ⟨.inl (h.tto b hb).1, (h.tto b hb).2.1, (h.tto b hb).2.2.1, fun e => ?_⟩, fun b hb => ?_, Nat.le_trans h.high ho.size⟩, ho⟩
  · rcases e with e | e
    · exact .inl e
    · rcases hloc b e with h1 | h1
      · exact .inl (h.tpo b h1).1
      · exact .inr h1
  · exact (blkGrownO h.blk hg (fun e => (h.tpo rb e).2.1 rfl)).set 1 (.slice po' qs.length pc')
  · rcases e with e | e
    · exact .inl e
    · rcases hloc b e with h1 | h1
      · exact .inl (h.tpo b h1).1
      · exact .inr h1
  · refine World.ownsRow.kept hp hg7 ?_
    cases hv : (Value.slice po' qs.length pc').ownBlock with
    | none => exact .inl rfl
    | some b => exact .inr (fun e => by cases e; exact (hnew _ hv).1 rfl)
  · refine World.ownsRow.kept (World.ownsRow.kept h.told hg ?_) hg7 ?_
    · cases hv : (Value.slice to tl.length tc).ownBlock with
      | none => exact .inl rfl
      | some b => exact .inr (fun e => (h.tto _ hv).2.2.2 e.symm)
    · cases hv : (Value.slice to tl.length tc).ownBlock with
      | none => exact .inl rfl
      | some b => exact .inr (fun e => by cases e; exact (h.tto _ hv).2.1 rfl)
  · rcases hloc b e with h1 | h1
    · exact (h.tto b hb).2.2.2 h1
    · have := (World.ownsRow.lt h.told b hb).2
      omega
  · rcases hb with hb | hb
    · exact h.low b hb
    · exact (World.ownsRow.lt hp b hb).1
theorem RD.look (h : RD w T base rb mb n po pc to tc E ps tl) (k : Byts8) (hk : k.length ≤ maxLen) : ∃ ao m cap, (∀ wx, Ext w wx → (Instr.lookup 37 (.map (some mb)) (.string ⟨k.toArray⟩) true).run Tryd.prog wx = .ok (.tuple #[.slice ao m cap, .bool (E k).isSome]) wx) ∧ (∀ L, E k = some L → m = L.length ∧ TF T w (.slice ao m cap) L) := by
  obtain ⟨f, hf, hs⟩ := h.map
  have hr := fun wx hx => (hf.ext (w' := wx) hx).look (t := 37) (e := 23) (z := .slice none 0 0) Tryd.underlying37 (by kernel_rfl) k hk
  have hst := hs k
  unfold Stnd at hst
  split at hst
  · rename_i e1 e2
    rw [e1] at hr
    rw [e2]
    exact ⟨none, 0, 0, hr, fun L hL => by cases hL⟩
  · rename_i v L' e1 e2
    obtain ⟨ao, cap, e, _⟩ := hst.1
    subst e
    rw [e1] at hr
    rw [e2]
    exact ⟨ao, _, cap, hr, fun L hL => by cases hL; exact ⟨rfl, hst⟩⟩
  · exact hst.elim
end

theorem isWord_one {L : List Tok} (h : isWordL L = true) : ∃ t, L = [t] ∧ t.kind = 1 := by
  match L, h with
  | [t], h => exact ⟨t, rfl, by simpa [isWordL] using h⟩

set_option maxHeartbeats 4000000 in
set_option maxRecDepth 100000 in
theorem open_any {T : Nat → Prop} {base rb mb n : Nat} {po : Option Addr} {pc : Nat} {to : Option Addr} {tc : Nat} {E : Env} {ps : List Part} {tl : List Tok} (w : World) (h : RD w T base rb mb n po pc to tc E ps tl) (hps : ps.length ≤ 100000)
    (R : List Tok) (ro : Option Addr) (rc : Nat) (hR : TR w (.slice ro R.length rc) R) (hlen : ∀ t ∈ R, t.text.length ≤ 1000000) (wanted : Bool) :
    Calls Tryd.prog 47 #[.pointer (some ⟨rb, 0, none⟩), .slice ro R.length rc, .bool wanted] w (Did w T base rb mb n to tc tl ((openP E ps R wanted).map fun q => (E, q))) := by
  have HC := hide (counts_any w h hps)
  have H := hide h
  have HR := hide hR
  have c1 := h.blk.cell (i := 1) (v := .slice po ps.length pc) rfl
  have hb := h.high
  clear h hR
  have key : ∀ (p : Part) (wx : World), Ext w wx → ∀ ao cap w6, PO w6 base (.slice ao (ps.length + 1) cap) (ps ++ [p]) → wx.grownBy w6 (Value.slice po ps.length pc).ownBlock → (∀ b, (Value.slice ao (ps.length + 1) cap).ownBlock = some b → (Value.slice po ps.length pc).ownBlock = some b ∨ wx.heap.size ≤ b) →
      Blk w6 rb #[.map (some mb), .slice po ps.length pc, .slice to tl.length tc] 40 ∧ Did w T base rb mb n to tc tl (some (E, ps ++ [p])) (.returned (.bool true)) (w6.setCell ⟨rb, 1, none⟩ (.slice ao (ps.length + 1) cap)) := fun p wx hx ao cap w6 hp hg hloc => by
    have hl : (ps ++ [p]).length = ps.length + 1 := by simp
    obtain ⟨T', hw, hrd, hout⟩ := ((unhide H).ext hx).openParts (qs := ps ++ [p]) (w' := w6) hg (by rw [hl]; exact hp) (by rw [hl]; exact hloc)
    rw [hl] at hrd hout
    refine ⟨blkGrownO ((unhide H).ext hx).blk hg (fun e => ((unhide H).tpo rb e).2.1 rfl), (Out.of_ext hx).trans hout (fun b hb => .inl hb), rfl, T', ao, cap, hw.low hx.size, hrd.more (Nat.le_succ _)⟩
  have KEY := hide key
  clear key
  cases hcp : countsP ps with
  | false =>
    have hq : ((openP E ps R wanted).map fun q => (E, q)) = some (E, ps ++ [⟨false, false, false⟩]) := by unfold openP; simp [hcp]
    rw [hq]
    rw [hcp] at HC
    clear hq hcp
    go_enter Tryd.func47, Tryd.ntmps47
    go_wp2_with fail
    refine (unhide HC).mono ?_
    rintro e w1 ⟨rfl, k, rfl⟩
    obtain ⟨w1, hw1⟩ : ∃ w1, w1 = w.drewN k := ⟨_, rfl⟩
    have X1 : Hid (Ext w w1) := by rw [hw1]; exact (Ext.refl w).drewN k
    rw [← hw1]
    clear hw1
    have c1 := ((unhide H).ext (unhide X1)).blk.cell (i := 1) (v := .slice po ps.length pc) rfl
    go_wp2_with (at_builtin; refine wpList_append_part rfl (.tmp 16) (.tmp 18) rfl base _ ps ⟨false, false, false⟩ rfl (((unhide H).ext (unhide X1)).ext ((Ext.refl _).alloc _)).parts _ 1 rfl _ (blkAt rfl) ?c2 ?c3 ?_)
    case c2 => omega
    case c3 => have := (unhide X1).size; simp; omega
    intro ao cap w6 hp hg hloc
    obtain ⟨hB, hD⟩ := unhide KEY _ _ ((unhide X1).alloc _) ao cap w6 hp hg (by rw [World.size_alloc]; exact hloc)
    have d1 := hB.cell (i := 1) (v := .slice po ps.length pc) rfl
    have fy := fun i => hB.free i
    have HD := hide hD
    clear hB hD hp hg hloc c1
    go_wp2
    go_ret
    exact unhide HD
  | true =>
    rw [hcp] at HC
    cases hw : isWordL R with
    | false =>
      have hq : ((openP E ps R wanted).map fun q => (E, q)) = none := by unfold openP; simp [hcp, hw]
      rw [hq]
      clear hq hcp
      go_enter Tryd.func47, Tryd.ntmps47
      go_wp2_with fail
      refine (unhide HC).mono ?_
      rintro e w1 ⟨rfl, k, rfl⟩
      have HW := isWordT_any R ro rc (w.drewN k) ((unhide HR).ext ((Ext.refl w).drewN k))
      rw [hw] at HW
      have HWW := hide HW
      clear HW hw
      go_wp2_with fail
      refine (unhide HWW).mono ?_
      rintro e w2 ⟨rfl, rfl⟩
      go_wp2
      go_ret
      exact ⟨Out.of_ext ((Ext.refl w).drewN k), rfl⟩
    | true =>
      obtain ⟨x, hx, _⟩ := isWord_one hw
      subst hx
      have hq : ((openP E ps [x] wanted).map fun q => (E, q)) = some (E, ps ++ [⟨(E x.text).isSome == wanted, (E x.text).isSome != wanted, false⟩]) := by unfold openP; simp [hcp, hw, hd0]
      rw [hq]
      clear hq hcp
      obtain ⟨b, off, rfl, c⟩ := (unhide HR).at 0 (by simp)
      have cx := c.text
      simp only [Nat.zero_mul, Nat.add_zero, List.getElem_cons_zero] at cx
      clear c
      obtain ⟨ao0, m0, cap0, hlook, _⟩ := (unhide H).look x.text (by have := hlen x (by simp); unfold maxLen; omega)
      have HLK := hide hlook
      clear hlook
      generalize (E x.text).isSome = st at *
      go_enter Tryd.func47, Tryd.ntmps47
      go_wp2_with fail
      refine (unhide HC).mono ?_
      rintro e w1 ⟨rfl, k, rfl⟩
      have HW := isWordT_any [x] (some ⟨b, off, none⟩) rc (w.drewN k) ((unhide HR).ext ((Ext.refl w).drewN k))
      rw [hw] at HW
      have HWW := hide HW
      clear HW hw
      go_wp2_with fail
      refine (unhide HWW).mono ?_
      rintro e w2 ⟨rfl, rfl⟩
      obtain ⟨w1, hw1⟩ : ∃ w1, w1 = w.drewN k := ⟨_, rfl⟩
      have X1 : Hid (Ext w w1) := by rw [hw1]; exact (Ext.refl w).drewN k
      rw [← hw1]
      clear hw1
      have hrun0 := unhide HLK w1 (unhide X1)
      have hrun1 := unhide HLK w1.drew (unhide X1).drew
      have hrun2 := fun k => unhide HLK (w1.drewN k) ((unhide X1).drewN k)
      have c0 := ((unhide H).ext (unhide X1)).blk.cell (i := 0) (v := .map (some mb)) rfl
      have c1 := ((unhide H).ext (unhide X1)).blk.cell (i := 1) (v := .slice po ps.length pc) rfl
      have cx1 : w1.cell? ⟨b, off + 1, none⟩ = some (.string ⟨x.text.toArray⟩) := by
        rw [(unhide X1).cell (p := ⟨b, off + 1, none⟩) (World.block_lt_of_cell? w _ cx)]
        exact cx
      go_wp2
      go_quiet (fail)
      cases st <;> cases wanted
      all_goals
        go_wp2_with (at_builtin; refine wpList_append_part rfl (.tmp 41) (.tmp 49) rfl base _ ps ⟨_, _, _⟩ rfl ((unhide H).ext (((unhide X1).drewN _).alloc _)).parts _ 1 rfl _ (blkAt rfl) ?c2 ?c3 ?_)
        case c2 => omega
        case c3 => have := (unhide X1).size; simp; omega
        intro ao cap w6 hp hg hloc
        obtain ⟨hB, hD⟩ := unhide KEY _ _ (((unhide X1).drewN _).alloc _) ao cap w6 hp hg (by rw [World.size_alloc]; exact hloc)
        have d1 := hB.cell (i := 1) (v := .slice po ps.length pc) rfl
        have fy := fun i => hB.free i
        have HD := hide hD
        clear hB hD hp hg hloc c1 c0 cx1 hrun0 hrun1 hrun2
        go_wp2
        go_ret
        exact unhide HD
end Go.Proofs.YtdcamcpffiilbaaDoor
