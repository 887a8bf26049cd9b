/-
  Rows of texts: the law's texts.
-/
import Derived.Test.YtinnikggaflpdaaDoorZQ
import Derived.Test.YtinnikggaflpdaaDoorZJ
namespace Go.Proofs.YtinnikggaflpdaaDoor
open Go.RowKit
set_option linter.unusedSimpArgs false
set_option linter.unusedVariables false

def txs (L : List Tok) : List Value := L.map (fun t => .string ⟨t.text.toArray⟩)
/-- A row of texts that is the call's own. -/
def SO (w : World) (base : Nat) (v : Value) (L : List Tok) : Prop := w.ownsRow base 9 1 v L.length (txs L)
section
variable {w w' : World} {base : Nat} {v : Value} {L : List Tok}
theorem SO.ext (h : SO w base v L) (hx : Ext w w') : SO w' base v L := by
  refine World.ownsRow.kept h (extGrown hx none) ?_
  cases v.ownBlock <;> simp
theorem SO.shape (h : SO w base v L) : ∃ ao cap, v = .slice ao L.length cap := by
  rcases h.2 with ⟨h1, h0⟩ | ⟨g2, c2, cur, e, _⟩
  · exact ⟨none, 0, by rw [h1, h0]⟩
  · exact ⟨_, _, e⟩
theorem SO.at (h : SO w base v L) (k : Nat) (hk : k < L.length) : ∃ g cap, v = .slice (some ⟨g, 0, none⟩) L.length cap ∧ w.cell? ⟨g, k, none⟩ = some (.string ⟨L[k].text.toArray⟩) := by
  rcases id h.2 with ⟨h1, h0⟩ | ⟨g2, c2, cur, e, _⟩
  · omega
  · subst e
    refine ⟨g2, c2, rfl, ?_⟩
    have := World.ownsRow.cellAt h k (by omega)
    rw [this]
    simp [txs, hk]
end
theorem infoS : (Tryd.prog.info? 9).map (fun i => (i.zero, i.size, i.bytes)) = some (some (.string ⟨#[]⟩), 1, 16) := by kernel_rfl
theorem wpList_append_str {w : World} {ops : Array Oper} {rest : List Oper} {o : Oper} {a : Act} {Q : Exit → Act → World → Prop} (hgd : o.guard = none) (s x : Operand)
    (ho : o.op = .call { callee := .builtin .append, args := #[s, x], argTypes := #[37, 37] }) (base : Nat) (v : Value) (L : List Tok) (t : Tok) (hs : a.eval s = v)
    (hown : SO w base v L) (g c : Nat) (hx : a.eval x = .slice (some ⟨g, 0, none⟩) 1 c) (ty : TypeId) (hB : Blk w g #[.string ⟨t.text.toArray⟩] ty)
    (hL : L.length ≤ 2932031007402) (hbase : base ≤ w.heap.size)
    (h : ∀ ao cap N w', N = L ++ [t] → SO w' base (.slice ao N.length cap) N → w.grownBy w' v.ownBlock → wpList Tryd.prog ops Q rest (a.put o.dst (.slice ao N.length cap)) w') :
    wpList Tryd.prog ops Q (o :: rest) a w := by
  obtain ⟨i0, hi, hz0, hz1, hz2⟩ := info_parts3 infoS
  refine wpList_append_own w hgd s x 37 ho base 9 i0 _ 1 16 Tryd.underlying37 hi hz0 hz1 hz2 rfl (by decide) v L.length (txs L) hs hown ⟨g, 0, none⟩ 1 c [.string ⟨t.text.toArray⟩] hx rfl ?_ ?_ (by unfold maxLen; omega) (by omega) hbase ?_
  · intro j u hu
    rw [Addr.add_lit, Nat.zero_add]
    exact hB.cell (by simpa using hu)
  · intro u hu
    simp at hu
    subst hu
    rfl
  · intro v' w' h1 h2 _
    have h3 : SO w' base v' (L ++ [t]) := by
      unfold SO
      have e1 : txs (L ++ [t]) = txs L ++ [.string ⟨t.text.toArray⟩] := by simp [txs]
      rw [e1, List.length_append]
      exact h1
    obtain ⟨ao, cap, rfl⟩ := h3.shape
    exact h ao cap _ w' rfl h3 h2
set_option maxHeartbeats 4000000 in
set_option maxRecDepth 100000 in
theorem texts_any (X : List Tok) (ao : Option Addr) (ca : Nat) (w : World) (hX : TR w (.slice ao X.length ca) X) (hlen : X.length ≤ 4096) :
    Calls Tryd.prog 19 #[.slice ao X.length ca] w fun e w' => ∃ ro rc, e = .returned (.slice ro X.length rc) ∧ SO w' w.heap.size (.slice ro X.length rc) X ∧ Ext w w' := by
  have HX := hide hX
  clear hX
  go_enter Tryd.func19, Tryd.ntmps19
  go_wp2
  go_loopw [3, 8] (fun av iv wr => ∃ (k : Nat) (F : List Tok) (ao4 : Option Addr) (ca4 : Nat), k ≤ X.length ∧ F = X.take k ∧ iv = .int .i64 (k : Int) ∧ av = .slice ao4 F.length ca4 ∧ SO wr w.heap.size (.slice ao4 F.length ca4) F ∧ Ext w wr) (fun _ iv _ => X.length - (intOf iv).toNat)
  case atStart => exact ⟨0, [], none, 0, by omega, by simp, rfl, rfl, World.ownsRow_nil _ _ _ _, Ext.refl _⟩
  case round =>
    obtain ⟨k, F, ao4, ca4, hk, hF, rfl, rfl, hSO, hx⟩ := hrel
    have HSO := hide hSO
    have XR := hide hx
    have hFl : F.length ≤ 4096 := by rw [hF, List.length_take]; omega
    have HF := hide hF
    clear hSO hx hF
    by_cases hlt : k < X.length
    · obtain ⟨b1, o1, e1, h1⟩ := ((unhide HX).ext (unhide XR)).at k hlt
      subst e1
      have hF2 := List.take_succ_eq_append_getElem hlt
      obtain ⟨t, ht⟩ : ∃ t, t = X[k] := ⟨_, rfl⟩
      rw [← ht] at h1 hF2
      rw [← unhide HF] at hF2
      have HF2 := hide hF2
      have k0 := h1.kind; have k1 := h1.text; have k2 := h1.num; have k3 := h1.place; have k4 := h1.line
      clear h1 ht hF2
      have XA : Hid (Ext w (wr.alloc (.cells #[.int .i64 t.kind, .string ⟨t.text.toArray⟩, .int .i32 t.num, .int .i64 t.place, .int .i64 t.line] 35))) := (unhide XR).alloc _
      have HSA : Hid (SO (wr.alloc (.cells #[.int .i64 t.kind, .string ⟨t.text.toArray⟩, .int .i32 t.num, .int .i64 t.place, .int .i64 t.line] 35)) w.heap.size (.slice ao4 F.length ca4) F) := (unhide HSO).ext ((Ext.refl _).alloc _)
      have p1 := (Blk.new wr #[.int .i64 t.kind, .string ⟨t.text.toArray⟩, .int .i32 t.num, .int .i64 t.place, .int .i64 t.line] 35).cell (i := 1) (v := .string ⟨t.text.toArray⟩) rfl
      go_wp2_with (at_builtin; refine wpList_append_str rfl (.tmp 12) (.tmp 15) rfl w.heap.size _ F t rfl ?c1 _ 1 rfl _ (blkAt (by simp)) (by omega) ?c2 ?_)
      case c1 => exact (unhide HSA).ext ((Ext.refl _).alloc _)
      case c2 => exact Nat.le_trans (unhide XA).size (by simp)
      intro ao7 cap7 N w7 hN hO7 hg7
      have hx7 : Ext w w7 := Below.trans ((unhide XA).alloc _) (grown_below hg7 (Nat.le_trans (unhide XA).size (by simp)) (fun q hq => (World.ownsRow.lt (unhide HSO) q hq).1))
      rw [← unhide HF2] at hN
      have HN := hide hN
      have HO7 := hide hO7
      have X7 := hide hx7
      clear hN hO7 hg7 hx7
      go_wp2
      refine ⟨⟨k + 1, N, ao7, cap7, by omega, unhide HN, by push_cast; rfl, rfl, unhide HO7, unhide X7⟩, ?_⟩
      simp [intOf]
      omega
    · have hFX : F = X := by rw [unhide HF]; exact List.take_of_length_le (by omega)
      subst hFX
      go_wp2
      go_ret
      exact ⟨ao4, ca4, rfl, unhide HSO, unhide XR⟩
end Go.Proofs.YtinnikggaflpdaaDoor
