/-
  Types: whether all may be, and the small questions of the operators. What the dump lacks is left out.
-/
import Derived.Test.YtokmplebajgckaaKB
import Derived.BigQuiet
import Derived.Deep.RegionHeld3
namespace Go.Proofs.Ytokmplebajgckaa
open Go.RowKit
set_option linter.unusedVariables false
set_option linter.unusedSimpArgs false

/-- A row of types in memory. -/
def TyR (w : World) (v : Value) (L : List Ty) : Prop :=
  ∃ ao cap, v = .slice ao L.length cap ∧ L.length ≤ 1000 ∧ ∀ i (h : i < L.length), ∃ b off, ao = some ⟨b, off, none⟩ ∧ w.cell? ⟨b, off + i * 2, none⟩ = some (.int .i64 L[i].1) ∧ w.cell? ⟨b, off + i * 2 + 1, none⟩ = some (.int .i64 L[i].2)
theorem cell_ext {w w' : World} (hx : Ext w w') {a : Addr} {v : Value} (h : w.cell? a = some v) : w'.cell? a = some v := by
  rw [World.cell?_of_block (hx.block a.block (World.block_lt_of_cell? w _ h))]
  exact h
theorem TyR.ext {w w' : World} {v : Value} {L : List Ty} (h : TyR w v L) (hx : Ext w w') : TyR w' v L := by
  obtain ⟨ao, cap, rfl, hl, hc⟩ := h
  refine ⟨ao, cap, rfl, hl, fun i hi => ?_⟩
  obtain ⟨b, off, rfl, h0, h1⟩ := hc i hi
  exact ⟨b, off, rfl, cell_ext hx h0, cell_ext hx h1⟩
theorem TyR.one {w : World} {b : Nat} (hb : w.heap.size = b) (a : Ty) (t : TypeId) : TyR (w.alloc (.cells #[.int .i64 (a).1, .int .i64 (a).2] t)) (.slice (some ⟨b, 0, none⟩) 1 1) [a] := by
  subst hb
  refine ⟨_, _, rfl, by simp, fun i hi => ⟨w.heap.size, 0, rfl, ?_⟩⟩
  have h := Blk.new w #[.int .i64 (a).1, .int .i64 (a).2] t
  obtain rfl : i = 0 := by simpa using hi
  exact ⟨h.cell rfl, h.cell rfl⟩
theorem TyR.two {w : World} {b : Nat} (hb : w.heap.size = b) (a c : Ty) (t : TypeId) : TyR (w.alloc (.cells #[.int .i64 a.1, .int .i64 a.2, .int .i64 c.1, .int .i64 c.2] t)) (.slice (some ⟨b, 0, none⟩) 2 2) [a, c] := by
  subst hb
  refine ⟨_, _, rfl, by simp, fun i hi => ⟨w.heap.size, 0, rfl, ?_⟩⟩
  have h := Blk.new w #[.int .i64 a.1, .int .i64 a.2, .int .i64 c.1, .int .i64 c.2] t
  rcases (by simpa using hi : i < 2) with hi
  match i, hi with
  | 0, _ => exact ⟨h.cell rfl, h.cell rfl⟩
  | 1, _ => exact ⟨h.cell rfl, h.cell rfl⟩
theorem TyR.three {w : World} {b : Nat} (hb : w.heap.size = b) (a c d : Ty) (t : TypeId) : TyR (w.alloc (.cells #[.int .i64 a.1, .int .i64 a.2, .int .i64 c.1, .int .i64 c.2, .int .i64 d.1, .int .i64 d.2] t)) (.slice (some ⟨b, 0, none⟩) 3 3) [a, c, d] := by
  subst hb
  refine ⟨_, _, rfl, by simp, fun i hi => ⟨w.heap.size, 0, rfl, ?_⟩⟩
  have h := Blk.new w #[.int .i64 a.1, .int .i64 a.2, .int .i64 c.1, .int .i64 c.2, .int .i64 d.1, .int .i64 d.2] t
  rcases (by simpa using hi : i < 3) with hi
  match i, hi with
  | 0, _ => exact ⟨h.cell rfl, h.cell rfl⟩
  | 1, _ => exact ⟨h.cell rfl, h.cell rfl⟩
  | 2, _ => exact ⟨h.cell rfl, h.cell rfl⟩

set_option maxHeartbeats 4000000 in
theorem mayBe_any (v : Value) (L : List Ty) (w : World) (h : TyR w v L) :
    Calls Try.prog 27 #[v] w fun e w' => e = .returned (.bool (L.all mayP)) ∧ Ext w w' := by
  have HTR := hide h
  obtain ⟨ao, cap, rfl, hlen, -⟩ := h
  obtain ⟨R, hR⟩ : ∃ R, L.all mayP = R := ⟨_, rfl⟩
  rw [hR]
  have HR := hide hR
  clear hR
  go_enter Try.func27, Try.ntmps27
  go_wp2
  go_loopw [9] (fun i wr => ∃ k : Nat, k ≤ L.length ∧ i = .int .i64 k ∧ Hid ((L.drop k).all mayP = R) ∧ Hid (Ext w wr)) (fun i _ => L.length - (intOf i).toNat)
  case atStart => exact ⟨0, by omega, rfl, unhide HR, Ext.refl w⟩
  case round =>
    obtain ⟨k, hk, rfl, hc, hx⟩ := hrel
    by_cases hlt : k < L.length
    · obtain ⟨_, _, e, _, hat⟩ := (unhide HTR).ext (unhide hx)
      obtain ⟨b, off, he, c0, c1⟩ := hat k hlt
      have e2 := (Value.slice.inj e).1
      subst e2
      clear hat e
      subst he
      have hc2 := unhide hc
      rw [List.drop_eq_getElem_cons hlt, List.all_cons] at hc2
      obtain ⟨p, hp⟩ : ∃ p, p = L[k] := ⟨_, rfl⟩
      rw [← hp] at c0 c1 hc2
      clear hp hc
      have HC := hide hc2
      clear hc2
      have HE := hide (word_err p)
      have HX1 := hide ((unhide hx).alloc (.cells #[.int .i64 (p).1, .int .i64 (p).2] 23))
      have HWA := hide (word_any p)
      generalize wordP p = Q at *
      obtain ⟨Q1, Q2⟩ := Q
      dsimp only at HE HWA
      cases hm : mayP p with
      | true =>
        rw [hm, Bool.true_and] at HC
        rw [hm, if_pos rfl] at HE
        have hE := unhide HE
        subst hE
        clear HE hm
        go_wp2_with fail
        refine (unhide HWA _).mono ?_
        rintro e w2 ⟨rfl, hx2⟩
        have HX2 := hide ((unhide HX1).trans hx2)
        clear hx2
        go_wp2
        go_roundw
        case rel => exact ⟨k + 1, by omega, by go_num, HC, HX2⟩
        case measure => simp [intOf]; omega
      | false =>
        rw [hm, Bool.false_and] at HC
        rw [hm, if_neg (by decide)] at HE
        have hE := unhide HE
        subst hE
        have hr := unhide HC
        subst hr
        clear HE hm HC
        go_wp2_with fail
        refine (unhide HWA _).mono ?_
        rintro e w2 ⟨rfl, hx2⟩
        have HX2 := hide ((unhide HX1).trans hx2)
        clear hx2
        go_wp2
        go_ret
        exact ⟨rfl, unhide HX2⟩
    · have hc2 := unhide hc
      rw [List.drop_of_length_le (by omega)] at hc2
      have hr : R = true := hc2.symm
      subst hr
      clear hc hc2
      go_wp2
      go_ret
      exact ⟨rfl, unhide hx⟩

theorem isNumber_any (t : Ty) (w : World) : Calls Try.prog 31 #[.agg #[.int .i64 (t).1, .int .i64 (t).2]] w fun e w' => e = .returned (.bool (numP t)) ∧ Ext w w' := by
  unfold numP
  have X := hide ((Ext.refl w).alloc (.cells #[.int .i64 (t).1, .int .i64 (t).2] 23))
  cases q : (t.1 == 1) with
  | true =>
    go_enter Try.func31, Try.ntmps31
    go_wp2
    go_ret
    exact ⟨rfl, unhide X⟩
  | false =>
    go_enter Try.func31, Try.ntmps31
    go_wp2
    go_ret
    exact ⟨rfl, unhide X⟩

theorem isValue_any (t : Ty) (w : World) : Calls Try.prog 33 #[.agg #[.int .i64 (t).1, .int .i64 (t).2]] w fun e w' => e = .returned (.bool (valuP t)) ∧ Ext w w' := by
  unfold valuP
  have X := hide ((Ext.refl w).alloc (.cells #[.int .i64 (t).1, .int .i64 (t).2] 23))
  have B := hide (Blk.new w #[.int .i64 (t).1, .int .i64 (t).2] 23)
  have HN := hide (isNumber_any t)
  cases q : numP t with
  | true =>
    rw [q] at HN
    go_enter Try.func33, Try.ntmps33
    go_wp2_with fail
    refine (unhide HN _).mono ?_
    rintro e w2 ⟨rfl, hx2⟩
    have HX2 := hide ((unhide X).trans hx2)
    clear hx2
    go_wp2
    go_ret
    exact ⟨rfl, unhide HX2⟩
  | false =>
    rw [q] at HN
    go_enter Try.func33, Try.ntmps33
    go_wp2_with fail
    refine (unhide HN _).mono ?_
    rintro e w2 ⟨rfl, hx2⟩
    have HX2 := hide ((unhide X).trans hx2)
    obtain ⟨c0, c1⟩ := ((unhide B).ext hx2).two
    clear hx2
    go_wp2
    go_ret
    exact ⟨rfl, unhide HX2⟩

theorem isPlain_any (t : Ty) (w : World) : Calls Try.prog 32 #[.agg #[.int .i64 (t).1, .int .i64 (t).2]] w fun e w' => e = .returned (.bool (plnP t)) ∧ Ext w w' := by
  unfold plnP
  have X := hide ((Ext.refl w).alloc (.cells #[.int .i64 (t).1, .int .i64 (t).2] 23))
  go_enter Try.func32, Try.ntmps32
  go_wp2
  go_ret
  exact ⟨rfl, unhide X⟩

theorem truth_any (w : World) : Calls Try.prog 30 #[] w fun e w' => e = .returned (.agg #[.int .i64 (truT).1, .int .i64 (truT).2]) ∧ Ext w w' := by
  have X := hide ((Ext.refl w).alloc (.cells #[.int .i64 3, .int .i64 1] 23))
  have B := hide (Blk.new w #[.int .i64 3, .int .i64 1] 23)
  go_enter Try.func30, Try.ntmps30
  go_wp2
  obtain ⟨s0, s1⟩ := (unhide B).two
  exact bodyPost_ret (v := .agg #[.int .i64 (truT).1, .int .i64 (truT).2]) (by simp [results, Try.results30, go_sem, s0, s1, truT]) rfl ⟨rfl, unhide X⟩

theorem comes_any (t : Ty) (k : Bool) (w : World) : Calls Try.prog 28 #[.agg #[.int .i64 (t).1, .int .i64 (t).2], .bool k] w fun e w' => e = .returned (.tuple #[.agg #[.int .i64 ((comP t k).1).1, .int .i64 ((comP t k).1).2], .int .i64 (comP t k).2]) ∧ Ext w w' := by
  unfold comP
  cases k with
  | true =>
    have X := hide (((Ext.refl w).alloc (.cells #[.int .i64 (t).1, .int .i64 (t).2] 23)).alloc (.cells #[.int .i64 (t).1, .int .i64 (t).2] 23))
    have B : Hid (Blk ((w.alloc (.cells #[.int .i64 (t).1, .int .i64 (t).2] 23)).alloc (.cells #[.int .i64 (t).1, .int .i64 (t).2] 23)) (w.heap.size + 1) #[.int .i64 (t).1, .int .i64 (t).2] 23) := Blk.at (by simp)
    go_enter Try.func28, Try.ntmps28
    go_wp2
    obtain ⟨s0, s1⟩ := (unhide B).two
    exact bodyPost_ret (v := .tuple #[.agg #[.int .i64 (t).1, .int .i64 (t).2], .int .i64 0]) (by simp [results, Try.results28, go_sem, s0, s1]) rfl ⟨rfl, unhide X⟩
  | false =>
    have X := hide (((Ext.refl w).alloc (.cells #[.int .i64 (t).1, .int .i64 (t).2] 23)).alloc (.cells #[.int .i64 (noT).1, .int .i64 (noT).2] 23))
    have B : Hid (Blk ((w.alloc (.cells #[.int .i64 (t).1, .int .i64 (t).2] 23)).alloc (.cells #[.int .i64 (noT).1, .int .i64 (noT).2] 23)) (w.heap.size + 1) #[.int .i64 (noT).1, .int .i64 (noT).2] 23) := Blk.at (by simp)
    go_enter Try.func28, Try.ntmps28
    go_wp2
    obtain ⟨s0, s1⟩ := (unhide B).two
    exact bodyPost_ret (v := .tuple #[.agg #[.int .i64 (noT).1, .int .i64 (noT).2], .int .i64 230]) (by simp [results, Try.results28, go_sem, noT] at s0 s1 ⊢) rfl ⟨rfl, unhide X⟩

end Go.Proofs.Ytokmplebajgckaa
