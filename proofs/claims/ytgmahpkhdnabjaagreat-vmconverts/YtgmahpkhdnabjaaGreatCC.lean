/-
  Codes: the walk of Reads. What the dump lacks is left out.
-/
import Derived.Test.YtgmahpkhdnabjaaGreatCB
import Derived.Deep.QuietTactic
import Derived.Deep.RegionHeld3
namespace Go.Proofs.YtgmahpkhdnabjaaGreat
open Go.RowKit
set_option linter.unusedVariables false
set_option linter.unusedSimpArgs false

theorem Own.block {k : IntKind} {e : TypeId} {base : Nat} (w : World) (xs : List Int) (hb : base ≤ w.heap.size) (hm : xs.length ≤ maxLen) : Own k (w.alloc (.cells (xs.map (Value.int k)).toArray e)) base e (.slice (some ⟨w.heap.size, 0, none⟩) xs.length xs.length) xs :=
  ⟨by simp, .inr ⟨w.heap.size, xs.length, _, rfl, hb, heap_alloc_new w _, Nat.le_refl _, hm, by simp, by rw [Nat.mul_one, List.toList_toArray, List.take_of_length_le (by simp)]⟩⟩

theorem Blk.here {w : World} {b : Nat} {cs : Array Value} {t : TypeId} (h : w.heap.size = b) : Blk (w.alloc (.cells cs t)) b cs t := h ▸ Blk.new w cs t
theorem infoInt : (Tryz.prog.info? 3).map (fun i => (i.zero, i.size, i.bytes)) = some (some (.int .i64 0), 1, 8) := by kernel_rfl

set_option maxHeartbeats 400000 in
theorem cloneI_any (v : Value) (xs : List Int) (w : World) (hr : Row .i64 w v xs) (hm : xs.length ≤ 1000000) :
    Calls Tryz.prog 179 #[v] w fun e w' => ∃ ao cap, e = .returned (.slice ao xs.length cap) ∧ Own .i64 w' w.heap.size 3 (.slice ao xs.length cap) xs ∧ Below w.heap.size w w' := by
  obtain ⟨i0, hi, hz0, hz1, hz2⟩ := info_parts infoInt
  obtain ⟨ao, cap, rfl, h0, hl, hcm⟩ := hr.shape
  have hnil := fun wx => Lib.run_eql_slice_nil (P := Tryz.prog) wx 40 3 ao xs.length cap 0 0 Tryz.underlying40
  cases ao with
  | none =>
    obtain ⟨rfl, rfl⟩ := h0 rfl
    simp only [List.length_nil] at hnil ⊢
    go_enter Tryz.func179, Tryz.ntmps179
    go_wp2
    go_ret
    exact ⟨none, 0, rfl, Own.nil _ _ _ _, Below.refl _ _⟩
  | some ad =>
    have HR := hide hr
    clear h0 hr
    go_enter Tryz.func179, Tryz.ntmps179
    go_wp2_with (at_builtin; refine wpList_append_Own rfl (.tmp 5) (.tmp 6) 40 rfl w.heap.size 3 i0 .i64 8 Tryz.underlying40 hi hz0 hz1 hz2 _ [] rfl (Own.made w (Nat.le_refl _)) _ xs rfl ((unhide HR).below ((Below.refl _ _).alloc (Nat.le_refl _) _)) ?c1 ?c2 ?c3 ?_)
    case c1 => unfold maxLen; simp; omega
    case c2 => simp; omega
    case c3 => simp
    intro v' w' hown hgrow
    obtain ⟨ao', cap', rfl⟩ := hown.shape
    go_wp2
    go_ret
    refine ⟨_, _, rfl, hown, ?_⟩
    exact ((Below.refl _ _).alloc (Nat.le_refl _) _).grown hgrow (by simp) (by simp [Value.ownBlock])

/-- What a call leaves that answers a new row of numbers. -/
def NewI (w w' : World) (e : Ending) (xs : List Int) : Prop := ∃ ao cap, e = .returned (.slice ao xs.length cap) ∧ Own .i64 w' w.heap.size 3 (.slice ao xs.length cap) xs ∧ Ext w w'
theorem Own.low {k : IntKind} {w : World} {base b2 : Nat} {e : TypeId} {v : Value} {xs : List Int} (h : Own k w base e v xs) (hb : b2 ≤ base) : Own k w b2 e v xs := by
  refine ⟨h.1, ?_⟩
  rcases h.2 with hn | ⟨g, cap, cur, e, h1, r⟩
  · exact .inl hn
  · exact .inr ⟨g, cap, cur, e, by omega, r⟩

theorem NewI.of (w : World) (o : Obj) (xs : List Int) (hm : xs.length ≤ 100) : NewI w ((w.alloc o).alloc (.cells (xs.map (Value.int .i64)).toArray 3)) (.returned (.slice (some ⟨w.heap.size + 1, 0, none⟩) xs.length xs.length)) xs := by
  have h := Own.block (k := .i64) (e := 3) (base := w.heap.size) (w.alloc o) xs (by simp) (by unfold maxLen; omega)
  have e : (w.alloc o).heap.size = w.heap.size + 1 := by simp
  rw [e] at h
  exact ⟨_, _, rfl, h, ((Ext.refl w).alloc _).alloc _⟩

theorem Row.pre3 {w : World} {g : Nat} {a b c : Int} {t : TypeId} (h : w.heap[g]? = some (.cells #[.int .i64 a, .int .i64 b, .int .i64 c] t (0, 0))) (n : Nat) (hn : n ≤ 3) : Row .i64 w (.slice (some ⟨g, 0, none⟩) n 3) ([a, b, c].take n) := by
  have hc : ∀ i u, #[Value.int .i64 a, .int .i64 b, .int .i64 c][i]? = some u → w.cell? ⟨g, i, none⟩ = some u := fun i u hu => Blk.cell h hu
  rcases (by omega : n = 0 ∨ n = 1 ∨ n = 2 ∨ n = 3) with rfl | rfl | rfl | rfl
  · exact .inl ⟨rfl, _, 3, rfl, (fun h => by cases h), by unfold maxLen; omega⟩
  · refine .inr ⟨by simp, g, 0, 3, rfl, by simp, by unfold maxLen; omega, fun i hi => ?_⟩
    obtain rfl : i = 0 := by simp at hi; omega
    exact hc 0 _ rfl
  · refine .inr ⟨by simp, g, 0, 3, rfl, by simp, by unfold maxLen; omega, fun i hi => ?_⟩
    rcases (by simp at hi; omega : i = 0 ∨ i = 1) with rfl | rfl
    · exact hc 0 _ rfl
    · exact hc 1 _ rfl
  · refine .inr ⟨by simp, g, 0, 3, rfl, by simp, by unfold maxLen; omega, fun i hi => ?_⟩
    rcases (by simp at hi; omega : i = 0 ∨ i = 1 ∨ i = 2) with rfl | rfl | rfl
    · exact hc 0 _ rfl
    · exact hc 1 _ rfl
    · exact hc 2 _ rfl

theorem cellI (I : Nat → Int) (w : World) (t : TypeId) : (w.alloc (.cells (insA I) t)).cell? ⟨w.heap.size, 0, none⟩ = some (.int .i64 (I 0)) ∧ (w.alloc (.cells (insA I) t)).cell? ⟨w.heap.size, 1, none⟩ = some (.int .i64 (I 1)) ∧ (w.alloc (.cells (insA I) t)).cell? ⟨w.heap.size, 2, none⟩ = some (.int .i64 (I 2)) ∧ (w.alloc (.cells (insA I) t)).cell? ⟨w.heap.size, 3, none⟩ = some (.int .i64 (I 3)) ∧ (w.alloc (.cells (insA I) t)).cell? ⟨w.heap.size, 4, none⟩ = some (.int .i64 (I 4)) ∧ (w.alloc (.cells (insA I) t)).cell? ⟨w.heap.size, 5, none⟩ = some (.int .i64 (I 5)) ∧ (w.alloc (.cells (insA I) t)).cell? ⟨w.heap.size, 6, none⟩ = some (.int .i64 (I 6)) ∧ (w.alloc (.cells (insA I) t)).cell? ⟨w.heap.size, 7, none⟩ = some (.int .i64 (I 7)) :=
  ⟨(Blk.new w _ _).cell rfl, (Blk.new w _ _).cell rfl, (Blk.new w _ _).cell rfl, (Blk.new w _ _).cell rfl, (Blk.new w _ _).cell rfl, (Blk.new w _ _).cell rfl, (Blk.new w _ _).cell rfl, (Blk.new w _ _).cell rfl⟩

set_option maxRecDepth 10000 in
set_option maxHeartbeats 2000000 in
theorem reads_other (I : Nat → Int) (w : World) (h5 : ¬ I 0 = 5) : Calls Tryz.prog 144 #[.agg (insA I)] w fun e w' => NewI w w' e (readsP I) := by
  obtain ⟨c0, c1, c2, c3, c4, c5, c6, c7⟩ := cellI I w 64
  have E := hide (show readsP I = if I 0 = 2 ∨ I 0 = 6 ∨ I 0 = 8 then [I 5] else if I 0 = 4 ∨ I 0 = 11 then [I 6] else if I 0 = 5 then [I 5, I 6, I 7].take (argsP (I 1) (I 2)) else if I 0 = 7 then [I 5, I 4] else if I 0 = 9 then [I 5, I 6] else [] from rfl)
  have d5 : (I 0 == 5) = false := beq_eq_false_iff_ne.2 h5
  generalize readsP I = y at *
  generalize I 0 = o at *
  generalize I 4 = a4 at *
  generalize I 5 = a5 at *
  generalize I 6 = a6 at *
  go_enter Tryz.func144, Tryz.ntmps144
  go_wp2
  all_goals
    go_ret
    have e := unhide E
    simp only [beq_iff_eq, beq_eq_false_iff_ne, ne_eq] at *
    repeat first | rw [if_pos (by omega)] at e | rw [if_neg (by omega)] at e
    subst e
    first
    | exact ⟨none, 0, rfl, Own.nil _ _ _ _, (Ext.refl w).alloc _⟩
    | exact NewI.of w _ [a5] (by simp)
    | exact NewI.of w _ [a6] (by simp)
    | exact NewI.of w _ [a5, a4] (by simp)
    | exact NewI.of w _ [a5, a6] (by simp)

set_option maxRecDepth 10000 in
set_option maxHeartbeats 2000000 in
theorem reads_do (I : Nat → Int) (w : World) (h5 : I 0 = 5) : Calls Tryz.prog 144 #[.agg (insA I)] w fun e w' => NewI w w' e (readsP I) := by
  obtain ⟨c0, c1, c2, c3, c4, c5, c6, c7⟩ := cellI I w 64
  have E := hide (show readsP I = [I 5, I 6, I 7].take (argsP (I 1) (I 2)) by simp [readsP, h5])
  have HA := hide (args_any (I 1) (I 2))
  have hle := argsP_le (I 1) (I 2)
  rw [h5] at c0
  generalize argsP (I 1) (I 2) = n at *
  have hX0 := (Ext.refl w).alloc (.cells (insA I) 64)
  generalize readsP I = y at *
  have d1 := c1
  have d2 := c2
  generalize I 1 = a1 at *
  generalize I 2 = a2 at *
  generalize I 5 = a5 at *
  generalize I 6 = a6 at *
  generalize I 7 = a7 at *
  generalize insA I = cs at *
  clear c3 c4 h5
  have X0 := hide hX0
  clear hX0
  have hsz : (w.alloc (.cells cs 64)).heap.size = w.heap.size + 1 := by simp
  have HZ := hide hsz
  clear hsz
  have hwx : w.heap.size + 1 = w.heap.size + 1 := rfl
  have HC : Hid (∀ wx, Ext (w.alloc (.cells cs 64)) wx → Ext w wx) := fun wx h => (unhide X0).trans h
  have hn : n = 0 ∨ n = 1 ∨ n = 2 ∨ n = 3 := by omega
  rw [← show ((Int.ofNat n) = (n : Int)) from rfl] at HA
  obtain ⟨m, hm⟩ : ∃ m : Int, Int.ofNat n = m := ⟨_, rfl⟩
  rw [hm] at HA
  have HCL : Hid (∀ wx, Ext (w.alloc (.cells cs 64)) wx → wx.cell? ⟨w.heap.size, 1, none⟩ = some (.int .i64 a1) ∧ wx.cell? ⟨w.heap.size, 2, none⟩ = some (.int .i64 a2) ∧ wx.cell? ⟨w.heap.size, 5, none⟩ = some (.int .i64 a5) ∧ wx.cell? ⟨w.heap.size, 6, none⟩ = some (.int .i64 a6) ∧ wx.cell? ⟨w.heap.size, 7, none⟩ = some (.int .i64 a7)) := fun wx hx => by
    have hc : ∀ j u, (w.alloc (.cells cs 64)).cell? ⟨w.heap.size, j, none⟩ = some u → wx.cell? ⟨w.heap.size, j, none⟩ = some u := fun j u hu => by
      rw [hx.cell (p := ⟨w.heap.size, j, none⟩) (World.block_lt_of_cell? _ _ hu)]
      exact hu
    exact ⟨hc _ _ c1, hc _ _ c2, hc _ _ c5, hc _ _ c6, hc _ _ c7⟩
  rcases hn with rfl | rfl | rfl | rfl
  · obtain rfl : m = 0 := hm.symm
    have HP := hide (fun (wx : World) (g : Nat) h => cloneI_any _ _ wx (Row.pre3 (w := wx) (g := g) (a := a5) (b := a6) (c := a7) (t := 3) h 0 hle) (by simp))
    simp only [List.take_succ_cons, List.take_zero] at HP E
    go_enter Tryz.func144, Tryz.ntmps144
    go_wp2
    go_region_held3 (fun wx => wx.cell? ⟨w.heap.size, 1, none⟩ = some (.int .i64 a1) ∧ wx.cell? ⟨w.heap.size, 2, none⟩ = some (.int .i64 a2) ∧ wx.cell? ⟨w.heap.size, 5, none⟩ = some (.int .i64 a5) ∧ wx.cell? ⟨w.heap.size, 6, none⟩ = some (.int .i64 a6) ∧ wx.cell? ⟨w.heap.size, 7, none⟩ = some (.int .i64 a7))
      (first | with_reducible exact unhide HCL _ ((Ext.refl _).drew) | with_reducible exact unhide HCL _ (((Ext.refl _).alloc _).drew) | with_reducible exact unhide HCL _ bx)
      (first
        | (go_at_call 45; refine (unhide HA _).mono ?_; rintro e w1 ⟨rfl, rfl⟩)
        | (go_at_call 179; refine (unhide HP _ _ ?h1).mono ?_; (case h1 => exact Blk.here (w := w.alloc (.cells cs 64)) (by simp)); rintro e w2 ⟨ao, cap, rfl, hown, hb⟩; have bx : Ext (w.alloc (.cells cs 64)) w2 := (((Ext.refl _).alloc _).drew).trans hb))
    all_goals
      have HO := hide (hown.low (b2 := w.heap.size) (by simp; omega))
      have HX := hide ((unhide HC) _ bx)
      clear hown hb bx
      go_wp2
      go_ret
      rw [unhide E]
      exact ⟨_, _, rfl, unhide HO, unhide HX⟩
  · obtain rfl : m = 1 := hm.symm
    have HP := hide (fun (wx : World) (g : Nat) h => cloneI_any _ _ wx (Row.pre3 (w := wx) (g := g) (a := a5) (b := a6) (c := a7) (t := 3) h 1 hle) (by simp))
    simp only [List.take_succ_cons, List.take_zero] at HP E
    go_enter Tryz.func144, Tryz.ntmps144
    go_wp2
    go_region_held3 (fun wx => wx.cell? ⟨w.heap.size, 1, none⟩ = some (.int .i64 a1) ∧ wx.cell? ⟨w.heap.size, 2, none⟩ = some (.int .i64 a2) ∧ wx.cell? ⟨w.heap.size, 5, none⟩ = some (.int .i64 a5) ∧ wx.cell? ⟨w.heap.size, 6, none⟩ = some (.int .i64 a6) ∧ wx.cell? ⟨w.heap.size, 7, none⟩ = some (.int .i64 a7))
      (first | with_reducible exact unhide HCL _ ((Ext.refl _).drew) | with_reducible exact unhide HCL _ (((Ext.refl _).alloc _).drew) | with_reducible exact unhide HCL _ bx)
      (first
        | (go_at_call 45; refine (unhide HA _).mono ?_; rintro e w1 ⟨rfl, rfl⟩)
        | (go_at_call 179; refine (unhide HP _ _ ?h1).mono ?_; (case h1 => exact Blk.here (w := w.alloc (.cells cs 64)) (by simp)); rintro e w2 ⟨ao, cap, rfl, hown, hb⟩; have bx : Ext (w.alloc (.cells cs 64)) w2 := (((Ext.refl _).alloc _).drew).trans hb))
    all_goals
      have HO := hide (hown.low (b2 := w.heap.size) (by simp; omega))
      have HX := hide ((unhide HC) _ bx)
      clear hown hb bx
      go_wp2
      go_ret
      rw [unhide E]
      exact ⟨_, _, rfl, unhide HO, unhide HX⟩
  · obtain rfl : m = 2 := hm.symm
    have HP := hide (fun (wx : World) (g : Nat) h => cloneI_any _ _ wx (Row.pre3 (w := wx) (g := g) (a := a5) (b := a6) (c := a7) (t := 3) h 2 hle) (by simp))
    simp only [List.take_succ_cons, List.take_zero] at HP E
    go_enter Tryz.func144, Tryz.ntmps144
    go_wp2
    go_region_held3 (fun wx => wx.cell? ⟨w.heap.size, 1, none⟩ = some (.int .i64 a1) ∧ wx.cell? ⟨w.heap.size, 2, none⟩ = some (.int .i64 a2) ∧ wx.cell? ⟨w.heap.size, 5, none⟩ = some (.int .i64 a5) ∧ wx.cell? ⟨w.heap.size, 6, none⟩ = some (.int .i64 a6) ∧ wx.cell? ⟨w.heap.size, 7, none⟩ = some (.int .i64 a7))
      (first | with_reducible exact unhide HCL _ ((Ext.refl _).drew) | with_reducible exact unhide HCL _ (((Ext.refl _).alloc _).drew) | with_reducible exact unhide HCL _ bx)
      (first
        | (go_at_call 45; refine (unhide HA _).mono ?_; rintro e w1 ⟨rfl, rfl⟩)
        | (go_at_call 179; refine (unhide HP _ _ ?h1).mono ?_; (case h1 => exact Blk.here (w := w.alloc (.cells cs 64)) (by simp)); rintro e w2 ⟨ao, cap, rfl, hown, hb⟩; have bx : Ext (w.alloc (.cells cs 64)) w2 := (((Ext.refl _).alloc _).drew).trans hb))
    all_goals
      have HO := hide (hown.low (b2 := w.heap.size) (by simp; omega))
      have HX := hide ((unhide HC) _ bx)
      clear hown hb bx
      go_wp2
      go_ret
      rw [unhide E]
      exact ⟨_, _, rfl, unhide HO, unhide HX⟩
  · obtain rfl : m = 3 := hm.symm
    have HP := hide (fun (wx : World) (g : Nat) h => cloneI_any _ _ wx (Row.pre3 (w := wx) (g := g) (a := a5) (b := a6) (c := a7) (t := 3) h 3 hle) (by simp))
    simp only [List.take_succ_cons, List.take_zero] at HP E
    go_enter Tryz.func144, Tryz.ntmps144
    go_wp2
    go_region_held3 (fun wx => wx.cell? ⟨w.heap.size, 1, none⟩ = some (.int .i64 a1) ∧ wx.cell? ⟨w.heap.size, 2, none⟩ = some (.int .i64 a2) ∧ wx.cell? ⟨w.heap.size, 5, none⟩ = some (.int .i64 a5) ∧ wx.cell? ⟨w.heap.size, 6, none⟩ = some (.int .i64 a6) ∧ wx.cell? ⟨w.heap.size, 7, none⟩ = some (.int .i64 a7))
      (first | with_reducible exact unhide HCL _ ((Ext.refl _).drew) | with_reducible exact unhide HCL _ (((Ext.refl _).alloc _).drew) | with_reducible exact unhide HCL _ bx)
      (first
        | (go_at_call 45; refine (unhide HA _).mono ?_; rintro e w1 ⟨rfl, rfl⟩)
        | (go_at_call 179; refine (unhide HP _ _ ?h1).mono ?_; (case h1 => exact Blk.here (w := w.alloc (.cells cs 64)) (by simp)); rintro e w2 ⟨ao, cap, rfl, hown, hb⟩; have bx : Ext (w.alloc (.cells cs 64)) w2 := (((Ext.refl _).alloc _).drew).trans hb))
    all_goals
      have HO := hide (hown.low (b2 := w.heap.size) (by simp; omega))
      have HX := hide ((unhide HC) _ bx)
      clear hown hb bx
      go_wp2
      go_ret
      rw [unhide E]
      exact ⟨_, _, rfl, unhide HO, unhide HX⟩

theorem reads_any (I : Nat → Int) (w : World) : Calls Tryz.prog 144 #[.agg (insA I)] w fun e w' => NewI w w' e (readsP I) := by
  by_cases h : I 0 = 5
  · exact reads_do I w h
  · exact reads_other I w h
end Go.Proofs.YtgmahpkhdnabjaaGreat
