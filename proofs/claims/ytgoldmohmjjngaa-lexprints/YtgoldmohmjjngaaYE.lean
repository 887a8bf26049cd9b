/-
  The document's Print.
-/
import Derived.Test.YtgoldmohmjjngaaYC
import Derived.Test.YtgoldmohmjjngaaXV
namespace Go.Proofs.Ytgoldmohmjjngaa
open Go.RowKit
set_option linter.unusedSimpArgs false
set_option linter.unusedVariables false

/-- 'append(bytes, b)'. -/
theorem wpList_append_byte {w : World} {ops : Array Oper} {rest : List Oper} {o : Oper} {a : Act} {Q : Exit → Act → World → Prop} (hgd : o.guard = none) (s x : Operand)
    (ho : o.op = .call { callee := .builtin .append, args := #[s, x], argTypes := #[39, 39] }) (base : Nat) (v : Value) (l : Byts8) (c : UInt8) (hs : a.eval s = v) (g : Nat) (hx : a.eval x = .slice (some ⟨g, 0, none⟩) 1 1)
    (hown : BO w base v l) (hrow : Row .u8 w (.slice (some ⟨g, 0, none⟩) 1 1) [(c.toNat : Int)]) (hL : l.length + 1 ≤ 140737488355328) (hbase : base ≤ w.heap.size)
    (h : ∀ l' ao cap w', Hid (l' = l ++ [c]) → BO w' base (.slice ao l'.length cap) l' → w.grownBy w' v.ownBlock → wpList Try.prog ops Q rest (a.put o.dst (.slice ao l'.length cap)) w') :
    wpList Try.prog ops Q (o :: rest) a w := by
  obtain ⟨i0, hi, hz0, hz1, hz2⟩ := info_parts3 infoB
  refine wpList_append_Own hgd s x 39 ho base 5 i0 .u8 1 Try.underlying39 hi hz0 hz1 hz2 v (num8 l) hs hown _ [(c.toNat : Int)] hx hrow (by rw [num8_len]; unfold maxLen; simp; omega) (by rw [num8_len]; simp; omega) hbase ?_
  intro v' w' h1 h2
  have h3 : BO w' base v' (l ++ [c]) := by
    unfold BO
    have : num8 (l ++ [c]) = num8 l ++ [(c.toNat : Int)] := by unfold num8; rw [List.map_append]; rfl
    rw [this]
    exact h1
  obtain ⟨ao, cap, rfl⟩ := h3.shape
  exact h _ ao cap w' (hide rfl) h3 h2
theorem wpList_append_text2 {w : World} {ops : Array Oper} {rest : List Oper} {o : Oper} {a : Act} {Q : Exit → Act → World → Prop} (hgd : o.guard = none) (s x : Operand)
    (ho : o.op = .call { callee := .builtin .append, args := #[s, x], argTypes := #[39, 9] }) (base : Nat) (v : Value) (l t : Byts8) (hs : a.eval s = v) (hx : a.eval x = .string ⟨t.toArray⟩)
    (hown : BO w base v l) (hL : l.length + t.length ≤ 140737488355328) (hbase : base ≤ w.heap.size)
    (h : ∀ l' ao cap w', Hid (l' = l ++ t) → BO w' base (.slice ao l'.length cap) l' → w.grownBy w' v.ownBlock → wpList Try.prog ops Q rest (a.put o.dst (.slice ao l'.length cap)) w') :
    wpList Try.prog ops Q (o :: rest) a w :=
  wpList_append_text hgd s x ho base v l ⟨t.toArray⟩ hs hx hown hL hbase (fun ao cap w' h1 h2 => h _ ao cap w' (hide rfl) h1 h2)
theorem wpList_append_toks {w : World} {ops : Array Oper} {rest : List Oper} {o : Oper} {a : Act} {Q : Exit → Act → World → Prop} (hgd : o.guard = none) (s x : Operand)
    (ho : o.op = .call { callee := .builtin .append, args := #[s, x], argTypes := #[24, 24] }) (base : Nat) (v : Value) (L M : List Tok) (hs : a.eval s = v)
    (hown : TO w base v L) (ao : Option Addr) (c : Nat) (hx : a.eval x = .slice ao M.length c) (hrow : TR w (.slice ao M.length c) M) (hL : L.length + M.length ≤ 1000000) (hbase : base ≤ w.heap.size)
    (h : ∀ v' w', TO w' base v' (L ++ M) → w.grownBy w' v.ownBlock → wpList Try.prog ops Q rest (a.put o.dst v') w') : wpList Try.prog ops Q (o :: rest) a w := by
  obtain ⟨i0, hi, hz0, hz1, hz2⟩ := info_parts3 infoT
  cases ao with
  | none =>
    have hM : M = [] := by
      cases M with
      | nil => rfl
      | cons t r =>
        obtain ⟨b, off, e, _⟩ := hrow.at 0 (by simp)
        cases e
    subst hM
    obtain ⟨_, _, e, h0, _⟩ := hrow
    cases e
    have hc0 := h0 rfl
    subst hc0
    refine wpList_append_own_none hgd s x 24 ho base 33 i0 5 Try.underlying24 hi v _ _ hs hown hx ?_
    exact h v w (by rw [List.append_nil]; exact hown) (World.grownBy.refl _ _)
  | some ad =>
    refine wpList_append_own w hgd s x 24 ho base 33 i0 _ 5 48 Try.underlying24 hi hz0 hz1 hz2 rfl (by decide) v L.length (tcells L) hs hown ad M.length c (tcells M) hx (tcells_len M) ?_ (tcells_ones M) (by unfold maxLen; omega) (by omega) hbase ?_
    · by_cases h0 : 0 < M.length
      · obtain ⟨b, off, e, _⟩ := hrow.at 0 h0
        cases e
        exact hrow.cells h0
      · have : M = [] := List.length_eq_zero_iff.1 (by omega)
        subst this
        intro j u hu
        simp [tcells] at hu
    · intro v' w' h1 h2 _
      rw [← tcells_append, ← List.length_append] at h1
      exact h v' w' h1 h2
theorem BO.ext {w w' : World} {base : Nat} {v : Value} {l : Byts8} (h : BO w base v l) (hx : Ext w w') : BO w' base v l := Own.kept h hx
theorem BO.lt {w : World} {base : Nat} {v : Value} {l : Byts8} (h : BO w base v l) : ∀ g, v.ownBlock = some g → base ≤ g ∧ g < w.heap.size := Own.lt h

set_option maxHeartbeats 4000000 in
set_option maxRecDepth 100000 in
theorem refPrint_any (A : List Tok) (ao : Option Addr) (ca : Nat) (w : World) (hA : TR w (.slice ao A.length ca) A) (hA2 : A.length ≤ 2048) (hsh : ∀ t ∈ A, t.text.length ≤ 64) :
    Calls Try.prog 18 #[.slice ao A.length ca] w fun e w' => e = .returned (.string ⟨(joinT A).toArray⟩) ∧ Ext w w' := by
  have HA := hide hA
  have HSH := hide hsh
  clear hA hsh
  go_enter Try.func18, Try.ntmps18
  go_wp2
  go_loopw [3, 9] (fun ov iv wr => ∃ (k : Nat) (l : Byts8) (lo : Option Addr) (cap : Nat), k ≤ A.length ∧ iv = .int .i64 (k : Int) ∧ ov = .slice lo l.length cap ∧ l = joinT (A.take k) ∧ l.length ≤ k * 65 ∧ BO wr w.heap.size (.slice lo l.length cap) l ∧ Ext w wr) (fun _ iv _ => A.length - (intOf iv).toNat)
  case atStart => exact ⟨0, [], none, 0, by omega, rfl, rfl, by simp [joinT], by simp, BO.nil _ _, Ext.refl _⟩
  case round =>
    obtain ⟨k, l, lo, cap, hk, rfl, rfl, hlj, hll, hB, hx⟩ := hrel
    have HLJ := hide hlj
    have HB := hide hB
    have X := hide hx
    clear hlj hB hx
    by_cases hlt : k < A.length
    · obtain ⟨b1, o1, rfl, h1⟩ := ((unhide HA).ext (unhide X)).at k hlt
      have c0 := h1.kind; have c1 := h1.text; have c2 := h1.num; have c3 := h1.place; have c4 := h1.line
      clear h1
      have hshk := unhide HSH A[k] (List.getElem_mem hlt)
      rcases k with _ | j
      · have HLT : Hid (l ++ A[0].text = joinT (A.take 1)) := by
          show l ++ A[0].text = joinT (A.take 1)
          rw [unhide HLJ, List.take_succ_eq_append_getElem hlt]
          simp [joinT]
        have HL0 : Hid (l.length = 0) := by show l.length = 0; omega
        have hl1 : l.length ≤ 0 * 65 := hll
        simp only [Nat.zero_mul, Nat.add_zero] at c0 c1 c2 c3 c4
        generalize A[0] = y at *
        obtain ⟨wA, hwA⟩ : ∃ wA, wA = wr.alloc (.cells #[.int .i64 y.kind, .string ⟨y.text.toArray⟩, .int .i32 y.num, .int .i64 y.place, .int .i64 y.line] 33) := ⟨_, rfl⟩
        have XA : Hid (Ext w wA) := by rw [hwA]; exact (unhide X).alloc _
        have HBA : Hid (BO wA w.heap.size (.slice lo l.length cap) l) := by rw [hwA]; exact (unhide HB).ext ((Ext.refl _).alloc _)
        clear HB X
        go_wp2_with (at_builtin; rw [← hwA]; refine wpList_append_text2 rfl (.tmp 29) (.tmp 31) rfl w.heap.size _ l y.text rfl rfl (unhide HBA) ?c1 ?c2 ?_)
        case c1 => show l.length + y.text.length ≤ _; omega
        case c2 => exact (unhide XA).size
        intro l6 ao2 cap2 w6 hl6 hO6 hg6
        rw [← hwA] at hg6
        have X6 : Hid (Ext w w6) := Below.trans (unhide XA) (grown_below hg6 (unhide XA).size (fun g hg => (BO.lt (unhide HBA) g hg).1))
        have hll6 : l6.length ≤ (0 + 1) * 65 := by have := unhide HL0; rw [unhide hl6, List.length_append]; omega
        rw [← unhide hl6] at HLT
        have HO6 := hide hO6
        clear hO6 hg6 hwA hl6
        go_wp2
        refine ⟨⟨0 + 1, l6, ao2, cap2, by omega, rfl, rfl, unhide HLT, hll6, unhide HO6, unhide X6⟩, ?_⟩
        simp [intOf]
        omega
      · have hjl : j < A.length := by omega
        have HLT : Hid ((l ++ [if A[j].line < A[j + 1].line then 10 else 32]) ++ A[j + 1].text = joinT (A.take (j + 1 + 1))) := by
          show (l ++ [if A[j].line < A[j + 1].line then 10 else 32]) ++ A[j + 1].text = joinT (A.take (j + 1 + 1))
          rw [unhide HLJ, ← join_step A j hlt]
        obtain ⟨wA, hwA⟩ : ∃ wA, wA = wr.alloc (.cells #[.int .i64 A[j + 1].kind, .string ⟨A[j + 1].text.toArray⟩, .int .i32 A[j + 1].num, .int .i64 A[j + 1].place, .int .i64 A[j + 1].line] 33) := ⟨_, rfl⟩
        have XA : Hid (Ext w wA) := by rw [hwA]; exact (unhide X).alloc _
        have HBA : Hid (BO wA w.heap.size (.slice lo l.length cap) l) := by rw [hwA]; exact (unhide HB).ext ((Ext.refl _).alloc _)
        have HTB := hide (Blk.new wr #[.int .i64 A[j + 1].kind, .string ⟨A[j + 1].text.toArray⟩, .int .i32 A[j + 1].num, .int .i64 A[j + 1].place, .int .i64 A[j + 1].line] 33)
        obtain ⟨b2, o2, e2, h2⟩ := ((unhide HA).ext (unhide XA)).at j hjl
        cases e2
        obtain ⟨g, hg⟩ : ∃ g, g = wr.heap.size := ⟨_, rfl⟩
        rw [← hwA, ← hg] at HTB
        have HNG : Hid (∀ b, (Value.slice lo l.length cap).ownBlock = some b → b < g) := fun b hb => by rw [hg]; exact (BO.lt (unhide HB) b hb).2
        have q4 := h2.line
        clear h2 HB X
        have q1 : IntKind.i64.wrap ((j : Int) + 1 - 1) = j := by rw [Int.add_sub_cancel]; exact wrapId (by omega) (by omega)
        have q2 : (j : Int) + 1 - 1 = j := by omega
        generalize A[j + 1] = y at *
        generalize A[j] = x at *
        have p1 := (unhide HTB).cell (i := 1) (v := .string ⟨y.text.toArray⟩) rfl
        have p4 := (unhide HTB).cell (i := 4) (v := .int .i64 y.line) rfl
        have d0 : decide ((0 : Int) < (j : Int) + 1) = true := by simp <;> omega
        have hca : A.length ≤ ca := by
          obtain ⟨_, _, e, _, h1, _⟩ := unhide HA
          cases e
          exact h1
        go_wp2
        rw [← hwA, ← hg]
        clear c0 c1 c2 c3 c4 hwA hg
        by_cases hln : x.line < y.line
        · have dl : decide (x.line < y.line) = true := by simp; omega
          rw [if_pos hln] at HLT
          clear hln
          go_quiet (fail)
          go_wp2_with (at_builtin; refine wpList_append_byte rfl (.tmp 25) (.tmp 27) rfl w.heap.size _ l 10 rfl _ rfl ?b1 ?b2 ?b3 ?b4 ?_)
          case b1 => exact (unhide HBA).ext (((Ext.refl _).drewN _).alloc _)
          case b2 => exact Row.one .u8 _ 10 _
          case b3 => omega
          case b4 => exact Nat.le_trans (unhide XA).size (by simp)
          intro l4 ao4 cap4 w4 hl4 hO4 hg4
          have X4 : Hid (Ext w w4) := Below.trans (((unhide XA).drewN _).alloc _) (grown_below hg4 (Nat.le_trans (unhide XA).size (by simp)) (fun g hg => (BO.lt (unhide HBA) g hg).1))
          have HTB4 : Hid (Blk w4 g #[.int .i64 y.kind, .string ⟨y.text.toArray⟩, .int .i32 y.num, .int .i64 y.place, .int .i64 y.line] 33) := blkGrownO ((unhide HTB).ext (((Ext.refl _).drewN _).alloc _)) hg4 (fun e => by have := unhide HNG _ e; omega)
          have hll4 : l4.length ≤ l.length + 1 := by rw [unhide hl4, List.length_append]; exact Nat.le_refl _
          rw [← unhide hl4] at HLT
          have HO4 := hide hO4
          clear hO4 hg4 hl4 p1 p4 q4
          have p1 := (unhide HTB4).cell (i := 1) (v := .string ⟨y.text.toArray⟩) rfl
          go_wp2_with (at_builtin; refine wpList_append_text2 rfl (.tmp 29) (.tmp 31) rfl w.heap.size _ l4 y.text rfl rfl (unhide HO4) ?c1 ?c2 ?_)
          case c1 => show l4.length + y.text.length ≤ _; omega
          case c2 => exact (unhide X4).size
          intro l6 ao6 cap6 w6 hl6 hO6 hg6
          have X6 : Hid (Ext w w6) := Below.trans (unhide X4) (grown_below hg6 (unhide X4).size (fun g hg => (BO.lt (unhide HO4) g hg).1))
          have hll6 : l6.length ≤ (j + 1 + 1) * 65 := by rw [unhide hl6, List.length_append]; omega
          rw [← unhide hl6] at HLT
          have HO6 := hide hO6
          clear hO6 hg6 hl6
          go_wp2
          refine ⟨⟨j + 1 + 1, l6, ao6, cap6, by omega, by push_cast; rfl, rfl, unhide HLT, hll6, unhide HO6, unhide X6⟩, ?_⟩
          simp [intOf]
          omega
        · have dl : decide (x.line < y.line) = false := by simp; omega
          rw [if_neg hln] at HLT
          clear hln
          go_quiet (fail)
          go_wp2_with (at_builtin; refine wpList_append_byte rfl (.tmp 25) (.tmp 27) rfl w.heap.size _ l 32 rfl _ rfl ?b1 ?b2 ?b3 ?b4 ?_)
          case b1 => exact (unhide HBA).ext (((Ext.refl _).drewN _).alloc _)
          case b2 => exact Row.one .u8 _ 32 _
          case b3 => omega
          case b4 => exact Nat.le_trans (unhide XA).size (by simp)
          intro l4 ao4 cap4 w4 hl4 hO4 hg4
          have X4 : Hid (Ext w w4) := Below.trans (((unhide XA).drewN _).alloc _) (grown_below hg4 (Nat.le_trans (unhide XA).size (by simp)) (fun g hg => (BO.lt (unhide HBA) g hg).1))
          have HTB4 : Hid (Blk w4 g #[.int .i64 y.kind, .string ⟨y.text.toArray⟩, .int .i32 y.num, .int .i64 y.place, .int .i64 y.line] 33) := blkGrownO ((unhide HTB).ext (((Ext.refl _).drewN _).alloc _)) hg4 (fun e => by have := unhide HNG _ e; omega)
          have hll4 : l4.length ≤ l.length + 1 := by rw [unhide hl4, List.length_append]; exact Nat.le_refl _
          rw [← unhide hl4] at HLT
          have HO4 := hide hO4
          clear hO4 hg4 hl4 p1 p4 q4
          have p1 := (unhide HTB4).cell (i := 1) (v := .string ⟨y.text.toArray⟩) rfl
          go_wp2_with (at_builtin; refine wpList_append_text2 rfl (.tmp 29) (.tmp 31) rfl w.heap.size _ l4 y.text rfl rfl (unhide HO4) ?c1 ?c2 ?_)
          case c1 => show l4.length + y.text.length ≤ _; omega
          case c2 => exact (unhide X4).size
          intro l6 ao6 cap6 w6 hl6 hO6 hg6
          have X6 : Hid (Ext w w6) := Below.trans (unhide X4) (grown_below hg6 (unhide X4).size (fun g hg => (BO.lt (unhide HO4) g hg).1))
          have hll6 : l6.length ≤ (j + 1 + 1) * 65 := by rw [unhide hl6, List.length_append]; omega
          rw [← unhide hl6] at HLT
          have HO6 := hide hO6
          clear hO6 hg6 hl6
          go_wp2
          refine ⟨⟨j + 1 + 1, l6, ao6, cap6, by omega, by push_cast; rfl, rfl, unhide HLT, hll6, unhide HO6, unhide X6⟩, ?_⟩
          simp [intOf]
          omega
    · have hke : A.take k = A := List.take_of_length_le (by omega)
      have HLT : Hid (l = joinT A) := by
        show l = joinT A
        rw [unhide HLJ, hke]
      have HTX := hide (text_of lo l.length cap l wr (Own.row (unhide HB)) rfl)
      have htx := unhide HTX
      go_wp2
      go_ret
      exact ⟨by rw [unhide HLT]; rfl, unhide X⟩
end Go.Proofs.Ytgoldmohmjjngaa
