/-
  strings.Builder: bytes and texts are written behind one another, and told as a text.
-/
import Derived.Test.YtgoldmohmjjngaaXS
import Derived.Test.YtgoldmohmjjngaaShelfB
import Derived.Lib.Builder
namespace Go.Proofs.Ytgoldmohmjjngaa
open Go.RowKit
set_option linter.unusedSimpArgs false
set_option linter.unusedVariables false

/-- A builder in block b holds the bytes l. -/
def BW (w : World) (base b : Nat) (l : Byts8) : Prop := base ≤ b ∧ ∃ p v, Blk w b #[p, v] 53 ∧ (p = .pointer none ∨ p = .pointer (some ⟨b, 0, none⟩)) ∧ BO w base v l ∧ v.ownBlock ≠ some b
theorem BW.new (w : World) : BW (w.alloc (.cells #[.pointer none, .slice none 0 0] 53)) w.heap.size w.heap.size [] :=
  ⟨Nat.le_refl _, _, _, Blk.new w _ _, .inl rfl, BO.nil _ _, by simp [Value.ownBlock]⟩
theorem BW.ext {w w' : World} {base b : Nat} {l : Byts8} (h : BW w base b l) (hx : Ext w w') : BW w' base b l := by
  obtain ⟨hb, p, v, h1, h2, h3, h4⟩ := h
  exact ⟨hb, p, v, h1.ext hx, h2, Own.kept h3 hx, h4⟩
theorem Own.by2 {k : IntKind} {w w' : World} {base r : Nat} {e : TypeId} {v : Value} {xs : List Int} (h : Own k w base e v xs) (hg : w.grownBy w' (some r)) (hne : v.ownBlock ≠ some r) : Own k w' base e v xs := by
  refine World.ownsRow.kept h hg ?_
  cases hv : v.ownBlock with
  | none => exact .inl rfl
  | some g => exact .inr (fun e => hne (by rw [hv]; exact e))
/-- All blocks but b, and but such as hold bytes, are as they were. -/
def KeepT (w w' : World) (b : Nat) : Prop := ∀ g cs t, Blk w g cs t → g ≠ b → t ≠ 5 → Blk w' g cs t
theorem KeepT.refl (w : World) (b : Nat) : KeepT w w b := fun _ _ _ h _ _ => h
theorem KeepT.trans {w w1 w2 : World} {b : Nat} (h : KeepT w w1 b) (k : KeepT w1 w2 b) : KeepT w w2 b := fun g cs t hB hg ht => k g cs t (h g cs t hB hg ht) hg ht
theorem KeepT.set (w : World) (b i : Nat) (v : Value) : KeepT w (w.setCell ⟨b, i, none⟩ v) b := fun g cs t h hg _ => h.other i v hg
theorem KeepT.ext {w w' : World} (hx : Ext w w') (b : Nat) : KeepT w w' b := fun _ _ _ h _ _ => h.ext hx
theorem KeepT.grown {w w' : World} {base b : Nat} {v : Value} {xs : List Int} (hO : Own .u8 w base 5 v xs) (hg : w.grownBy w' v.ownBlock) : KeepT w w' b := fun g cs t h _ ht => by
  refine blkGrownO h hg fun e => ht ?_
  rcases hO.2 with ⟨hv, _⟩ | ⟨g2, cap, cur, hv, _, hg2, _⟩
  · rw [hv] at e; simp [Value.ownBlock] at e
  · rw [hv] at e
    simp only [Value.ownBlock, Option.some.injEq] at e
    subst e
    have := h.symm.trans hg2
    simp at this
    exact this.2
theorem sizeBu : (Try.prog.info? 53).map (·.size) = some 2 := by kernel_rfl
theorem liesBu : liesAt Try.prog Try.prog.depth 53 (2 / Try.prog.cellsOf 53) 0 53 1 = true := by kernel_rfl
theorem shapeBu {w : World} {b : Nat} {cs : Array Value} {t : TypeId} (h : Blk w b cs t) : w.shape? b = some (t, cs.size) := by
  have : w.heap[b]? = some (.cells cs t (0, 0)) := h
  simp [World.shape?, this]

set_option maxHeartbeats 1000000 in
set_option maxRecDepth 100000 in
theorem copyCheck_any (base b : Nat) (l : Byts8) (w : World) (h : BW w base b l) :
    Calls Try.prog 59 #[.pointer (some ⟨b, 0, none⟩)] w fun e w' => e = .returned (.tuple #[]) ∧ (∃ v, Blk w' b #[.pointer (some ⟨b, 0, none⟩), v] 53 ∧ BO w' base v l ∧ v.ownBlock ≠ some b) ∧ Below base w w' ∧ KeepT w w' b ∧ w'.heap.size = w.heap.size := by
  obtain ⟨j, hj, hjs⟩ := Option.map_eq_some_iff.1 sizeBu
  obtain ⟨hbb, p, v, hB, hp, hO, hne⟩ := h
  have HB := hide hB
  have HO := hide hO
  have HNE := hide hne
  have c0 := hB.cell (i := 0) (v := p) rfl
  have fz := fun i => hB.free i
  have hsh := shapeBu hB
  clear hB hO hne
  rcases hp with rfl | rfl
  · go_enter Try.func59, Try.ntmps59
    go_wp2
    rw [Lib.run_to_unsafe w ⟨b, 0, none⟩ Try.underlying51 Try.underlying80 hj (by rw [hjs]; decide) hsh (Nat.zero_lt_succ 1)]
    simp only [Result.andThen]
    rw [Oper.upon_value]
    go_wp2
    rw [run_callFunc_extern Try.func67 (by kernel_rfl) (by kernel_rfl) (by kernel_rfl) (e := Extern.AbiNoEscape.same) (by kernel_rfl)]
    rw [Lib.run_noEscape]
    simp only [Result.andThen]
    rw [Oper.upon_value]
    go_wp2
    rw [Lib.run_from_unsafe w ⟨b, 0, none⟩ Try.underlying80 Try.underlying51 hj hsh liesBu]
    simp only [Result.andThen]
    rw [Oper.upon_value]
    go_wp2
    go_end0
    refine ⟨rfl, ⟨v, (unhide HB).set 0 _, ?_, unhide HNE⟩, ?_, KeepT.set _ _ _ _, by simp⟩
    · exact Own.by2 (unhide HO) (grownBy_set w b 0 _) (unhide HNE)
    · exact below_grown (Below.refl base w) (grownBy_set w b 0 _) (by have := (unhide HB).lt; omega) hbb
  · go_enter Try.func59, Try.ntmps59
    go_wp2
    rw [Lib.run_neq_ptr_same w _ Try.underlying51 hj]
    go_wp2
    go_end0
    exact ⟨rfl, ⟨v, unhide HB, unhide HO, unhide HNE⟩, Below.refl _ _, KeepT.refl _ _, rfl⟩

set_option maxHeartbeats 1000000 in
set_option maxRecDepth 100000 in
theorem writeByte_any (base b : Nat) (l : Byts8) (c : UInt8) (w : World) (h : BW w base b l) (hl : l.length ≤ 1000000000) (hbw : base ≤ w.heap.size) :
    Calls Try.prog 28 #[.pointer (some ⟨b, 0, none⟩), .int .u8 (c.toNat : Int)] w fun e w' => e = .returned .nilIface ∧ BW w' base b (l ++ [c]) ∧ Below base w w' ∧ KeepT w w' b := by
  obtain ⟨i0, hi, hz0, hz1, hz2⟩ := info_parts3 infoB
  have hbb := h.1
  go_enter Try.func28, Try.ntmps28
  go_wp2_with fail
  refine (copyCheck_any base b l w h).mono ?_
  rintro e w1 ⟨rfl, ⟨v, hB, hO, hne⟩, hx1, hkt1, hs1⟩
  have c1 := hB.cell (i := 1) (v := v) rfl
  have hbw1 : base ≤ w1.heap.size := by omega
  clear hs1
  go_wp2_with (at_builtin; refine wpList_append_Own rfl (.tmp 11) (.tmp 13) 39 rfl base 5 i0 .u8 1 Try.underlying39 hi hz0 hz1 hz2 _ (num8 l) rfl (Own.alloc hO _) _ [(c.toNat : Int)] rfl (Row.one .u8 w1 (c.toNat : Int) _) ?c1 ?c2 ?c3 ?_)
  case c1 => rw [num8_len]; unfold maxLen; simp; omega
  case c2 => rw [num8_len]; simp; omega
  case c3 => simp; omega
  intro v2 w2 hO2 hg2
  have e2 : num8 l ++ [(c.toNat : Int)] = num8 (l ++ [c]) := by simp [num8]
  rw [e2] at hO2
  have hB2 : Blk w2 b #[.pointer (some ⟨b, 0, none⟩), v] 53 := blkGrownO (hB.alloc _) hg2 hne
  have hO3 : BO w2 base v2 (l ++ [c]) := hO2
  have hne2 : v2.ownBlock ≠ some b := by
    intro e
    rcases hO2.2 with ⟨hv, _⟩ | ⟨g, cap, cur, hv, _, hg, _⟩
    · rw [hv] at e; simp [Value.ownBlock] at e
    · rw [hv] at e
      simp only [Value.ownBlock, Option.some.injEq] at e
      subst e
      have := hB2.symm.trans hg
      simp at this
  have d1 := hB2.cell (i := 1) (v := v) rfl
  have f1 := hB2.free 1
  obtain ⟨ao2, cap2, e3⟩ := hO3.shape
  rw [show (l ++ [c]).length = l.length + 1 by simp] at e3
  subst e3
  have HB2 := hide hB2
  have HO3 := hide hO3
  have HKT : Hid (KeepT w w2 b) := (hkt1.trans (KeepT.ext ((Ext.refl w1).alloc _) b)).trans (KeepT.grown (Own.alloc hO _) hg2)
  have HX : Hid (Below base w w2) := Below.trans (hx1.alloc (by omega) _) (grown_below hg2 (by simp; omega) (fun g hg => (Own.lt hO g hg).1))
  have HNE := hide hne2
  have HS2 : Hid (base ≤ w2.heap.size) := Nat.le_trans (by simp; omega) hg2.size
  clear hkt1 hB hO hne c1 hO2 hg2 hB2 hO3 hne2 hx1 e2 h
  go_wp2
  go_ret
  refine ⟨rfl, ⟨hbb, _, _, (unhide HB2).set 1 _, .inr rfl, Own.by2 (unhide HO3) (grownBy_set w2 b 1 _) (unhide HNE), unhide HNE⟩, ?_, (unhide HKT).trans (KeepT.set _ _ _ _)⟩
  exact below_grown (unhide HX) (grownBy_set w2 b 1 _) (unhide HS2) hbb

set_option maxHeartbeats 1000000 in
set_option maxRecDepth 100000 in
theorem writeString_any (base b : Nat) (l : Byts8) (t : Byts8) (w : World) (h : BW w base b l) (hl : l.length ≤ 1000000000) (ht : t.length ≤ 1000000000) (hbw : base ≤ w.heap.size) :
    Calls Try.prog 30 #[.pointer (some ⟨b, 0, none⟩), .string ⟨t.toArray⟩] w fun e w' => (∃ n : Int, e = .returned (.tuple #[.int .i64 n, .nilIface])) ∧ BW w' base b (l ++ t) ∧ Below base w w' ∧ KeepT w w' b := by
  have hbb := h.1
  have hts : (⟨t.toArray⟩ : ByteArray).size = t.length := by simp [ByteArray.size]
  go_enter Try.func30, Try.ntmps30
  go_wp2_with fail
  refine (copyCheck_any base b l w h).mono ?_
  rintro e w1 ⟨rfl, ⟨v, hB, hO, hne⟩, hx1, hkt1, hs1⟩
  have c1 := hB.cell (i := 1) (v := v) rfl
  have hbw1 : base ≤ w1.heap.size := by omega
  clear hs1
  go_wp2_with (at_builtin; refine wpList_append_text rfl (.tmp 12) (.tmp 13) rfl base _ l ⟨t.toArray⟩ rfl rfl hO ?c1 ?c2 ?_)
  case c1 => rw [hts]; omega
  case c2 => omega
  intro ao2 cap2 w2 hO2 hg2
  have e2 : l ++ (⟨t.toArray⟩ : ByteArray).data.toList = l ++ t := rfl
  have hB2 : Blk w2 b #[.pointer (some ⟨b, 0, none⟩), v] 53 := blkGrownO hB hg2 hne
  have hlen : (l ++ (⟨t.toArray⟩ : ByteArray).data.toList).length = l.length + t.length := by simp
  have hO3 : BO w2 base (.slice ao2 (l.length + t.length) cap2) (l ++ t) := hO2
  have hne2 : (Value.slice ao2 (l.length + t.length) cap2).ownBlock ≠ some b := by
    intro e
    rcases hO3.2 with ⟨hv, _⟩ | ⟨g, cap, cur, hv, _, hg, _⟩
    · rw [hv] at e; simp [Value.ownBlock] at e
    · rw [hv] at e
      simp only [Value.ownBlock, Option.some.injEq] at e
      subst e
      have := hB2.symm.trans hg
      simp at this
  have d1 := hB2.cell (i := 1) (v := v) rfl
  have f1 := hB2.free 1
  have HB2 := hide hB2
  have HO3 := hide hO3
  have HKT : Hid (KeepT w w2 b) := hkt1.trans (KeepT.grown hO hg2)
  have HX : Hid (Below base w w2) := Below.trans hx1 (grown_below hg2 (by omega) (fun g hg => (Own.lt hO g hg).1))
  have HNE := hide hne2
  have HS2 : Hid (base ≤ w2.heap.size) := Nat.le_trans (by omega) hg2.size
  clear hkt1 hB hO hne c1 hO2 hg2 hB2 hO3 hne2 hx1 e2 h
  go_wp2
  refine bodyPost_ret (v := .tuple #[.int .i64 (t.length : Int), .nilIface]) (by simp [results, Try.results30, go_sem]) rfl ⟨⟨_, rfl⟩, ⟨hbb, _, _, (unhide HB2).set 1 _, .inr rfl, Own.by2 (unhide HO3) (grownBy_set w2 b 1 _) (unhide HNE), unhide HNE⟩, ?_, (unhide HKT).trans (KeepT.set _ _ _ _)⟩
  exact below_grown (unhide HX) (grownBy_set w2 b 1 _) (unhide HS2) hbb

theorem string_any (base b : Nat) (l : Byts8) (w : World) (h : BW w base b l) (hbw : base ≤ w.heap.size) :
    Calls Try.prog 31 #[.pointer (some ⟨b, 0, none⟩)] w fun e w' => e = .returned (.string ⟨l.toArray⟩) ∧ Below base w w' := by
  obtain ⟨hbb, p, v, hB, hp, hO, hne⟩ := h
  have e1 : Lib.byteCells l = (num8 l).map (Value.int .u8) := by
    unfold Lib.byteCells num8
    rw [List.map_map]
    rfl
  have e2 : (Lib.byteCells l).length = (num8 l).length := by rw [Lib.byteCells_length, num8_len]
  refine Try.Builder_String_any base b l w ?_ hbw
  have hA : Lib.BuilderAt 53 5 base b p (Lib.byteCells l) w := ⟨hbb, v, hB, by rw [e2, e1]; exact hO, hne⟩
  rcases hp with rfl | rfl
  · exact .inl hA
  · exact .inr hA
end Go.Proofs.Ytgoldmohmjjngaa
