/-
  Types: the table of types and words, and the walks of Of, Word and of the small questions.
-/
import Derived.Test.YtokmplebajgckaaKA
import Derived.Test.YtokmplebajgckaaProg
import Derived.Deep.MidRow
import Derived.Deep.WholeRow
import Derived.Great.BuildSlice
import Derived.Laws.CopyOwn
namespace Go.Proofs.Ytokmplebajgckaa
open Go.RowKit
set_option linter.unusedVariables false
set_option linter.unusedSimpArgs false

/-- The cells of a type and its word. -/
def nmC (p : Ty × Byts8) : List Value := [.int .i64 p.1.1, .int .i64 p.1.2, .string ⟨p.2.toArray⟩]
def rowC (l : List (Ty × Byts8)) : List Value := (l.map nmC).flatten
def tysC : Array Value := (rowC tys).toArray
theorem rowC_at : ∀ (l : List (Ty × Byts8)) (k : Nat) (h : k < l.length) (j : Nat), j < 3 → (rowC l)[k * 3 + j]? = (nmC l[k])[j]?
  | [], k, h, j, hj => by simp at h
  | p :: l, 0, h, j, hj => by
    have : rowC (p :: l) = nmC p ++ rowC l := by simp [rowC]
    rw [this, List.getElem?_append_left (by simp [nmC]; omega)]
    simp
  | p :: l, k + 1, h, j, hj => by
    have : rowC (p :: l) = nmC p ++ rowC l := by simp [rowC]
    rw [this, List.getElem?_append_right (by simp [nmC]; omega)]
    have h2 := rowC_at l k (by simpa using h) j hj
    have e : (k + 1) * 3 + j - (nmC p).length = k * 3 + j := by simp [nmC]; omega
    rw [e, h2]
    rfl
theorem info56 : (Try.prog.info? 54).map (fun i => (i.zero, i.size)) = some (some (.agg #[.int .i64 0, .int .i64 0, .string ⟨#[]⟩]), 3) := by kernel_rfl
set_option maxHeartbeats 1000000 in
theorem types_any (w : World) :
    Calls Try.prog 26 #[] w fun e w' => e = .returned (.slice (some ⟨w.heap.size, 0, none⟩) 14 14) ∧ w' = w.alloc (.cells tysC 54) := by
  obtain ⟨i60, hi60, hzz⟩ : ∃ i, Try.prog.info? 54 = some i ∧ (i.zero, i.size) = (some (.agg #[.int .i64 0, .int .i64 0, .string ⟨#[]⟩]), 3) := by
    have h := info56
    cases hq : Try.prog.info? 54 with
    | none => rw [hq] at h; cases h
    | some i => rw [hq] at h; exact ⟨i, rfl, by simpa using h⟩
  obtain ⟨hz60, hs60⟩ := Prod.mk.inj hzz
  clear hzz
  go_enter Try.func26, Try.ntmps26
  go_wp2_with (refine wpList_buildTo rfl 23 _ rfl (some 1) rfl #[.int .i64 0, .int .i64 0] (by kernel_rfl) ?_; refine wpList_buildTo rfl 54 _ rfl (some 2) rfl #[.int .i64 0, .int .i64 0, .string ⟨#[118, 111, 105, 100]⟩] (by kernel_rfl) ?_; refine wpList_buildTo rfl 23 _ rfl (some 3) rfl #[.int .i64 1, .int .i64 1] (by kernel_rfl) ?_; refine wpList_buildTo rfl 54 _ rfl (some 4) rfl #[.int .i64 1, .int .i64 1, .string ⟨#[102, 108, 111, 97, 116]⟩] (by kernel_rfl) ?_; refine wpList_buildTo rfl 23 _ rfl (some 5) rfl #[.int .i64 1, .int .i64 2] (by kernel_rfl) ?_; refine wpList_buildTo rfl 54 _ rfl (some 6) rfl #[.int .i64 1, .int .i64 2, .string ⟨#[118, 101, 99, 50]⟩] (by kernel_rfl) ?_; refine wpList_buildTo rfl 23 _ rfl (some 7) rfl #[.int .i64 1, .int .i64 3] (by kernel_rfl) ?_; refine wpList_buildTo rfl 54 _ rfl (some 8) rfl #[.int .i64 1, .int .i64 3, .string ⟨#[118, 101, 99, 51]⟩] (by kernel_rfl) ?_; refine wpList_buildTo rfl 23 _ rfl (some 9) rfl #[.int .i64 1, .int .i64 4] (by kernel_rfl) ?_; refine wpList_buildTo rfl 54 _ rfl (some 10) rfl #[.int .i64 1, .int .i64 4, .string ⟨#[118, 101, 99, 52]⟩] (by kernel_rfl) ?_; refine wpList_buildTo rfl 23 _ rfl (some 11) rfl #[.int .i64 2, .int .i64 1] (by kernel_rfl) ?_; refine wpList_buildTo rfl 54 _ rfl (some 12) rfl #[.int .i64 2, .int .i64 1, .string ⟨#[105, 110, 116]⟩] (by kernel_rfl) ?_; refine wpList_buildTo rfl 23 _ rfl (some 13) rfl #[.int .i64 2, .int .i64 2] (by kernel_rfl) ?_; refine wpList_buildTo rfl 54 _ rfl (some 14) rfl #[.int .i64 2, .int .i64 2, .string ⟨#[105, 118, 101, 99, 50]⟩] (by kernel_rfl) ?_; refine wpList_buildTo rfl 23 _ rfl (some 15) rfl #[.int .i64 2, .int .i64 3] (by kernel_rfl) ?_; refine wpList_buildTo rfl 54 _ rfl (some 16) rfl #[.int .i64 2, .int .i64 3, .string ⟨#[105, 118, 101, 99, 51]⟩] (by kernel_rfl) ?_; refine wpList_buildTo rfl 23 _ rfl (some 17) rfl #[.int .i64 2, .int .i64 4] (by kernel_rfl) ?_; refine wpList_buildTo rfl 54 _ rfl (some 18) rfl #[.int .i64 2, .int .i64 4, .string ⟨#[105, 118, 101, 99, 52]⟩] (by kernel_rfl) ?_; refine wpList_buildTo rfl 23 _ rfl (some 19) rfl #[.int .i64 3, .int .i64 1] (by kernel_rfl) ?_; refine wpList_buildTo rfl 54 _ rfl (some 20) rfl #[.int .i64 3, .int .i64 1, .string ⟨#[98, 111, 111, 108]⟩] (by kernel_rfl) ?_; refine wpList_buildTo rfl 23 _ rfl (some 21) rfl #[.int .i64 3, .int .i64 2] (by kernel_rfl) ?_; refine wpList_buildTo rfl 54 _ rfl (some 22) rfl #[.int .i64 3, .int .i64 2, .string ⟨#[98, 118, 101, 99, 50]⟩] (by kernel_rfl) ?_; refine wpList_buildTo rfl 23 _ rfl (some 23) rfl #[.int .i64 3, .int .i64 3] (by kernel_rfl) ?_; refine wpList_buildTo rfl 54 _ rfl (some 24) rfl #[.int .i64 3, .int .i64 3, .string ⟨#[98, 118, 101, 99, 51]⟩] (by kernel_rfl) ?_; refine wpList_buildTo rfl 23 _ rfl (some 25) rfl #[.int .i64 3, .int .i64 4] (by kernel_rfl) ?_; refine wpList_buildTo rfl 54 _ rfl (some 26) rfl #[.int .i64 3, .int .i64 4, .string ⟨#[98, 118, 101, 99, 52]⟩] (by kernel_rfl) ?_; refine wpList_buildTo rfl 23 _ rfl (some 27) rfl #[.int .i64 4, .int .i64 1] (by kernel_rfl) ?_; refine wpList_buildTo rfl 54 _ rfl (some 28) rfl #[.int .i64 4, .int .i64 1, .string ⟨#[115, 97, 109, 112, 108, 101, 114, 50, 68]⟩] (by kernel_rfl) ?_; refine Go.wpList_buildSlice rfl 51 54 14 _ rfl tysC i60 (.agg #[.int .i64 0, .int .i64 0, .string ⟨#[]⟩]) Try.underlying51 hi60 hz60 (by rw [hs60]; decide) (by rw [hs60]; decide) (by rw [hs60]; kernel_rfl) ?_)
  go_ret
  exact ⟨rfl, rfl⟩
theorem named_at {w : World} {b : Nat} {t : TypeId} {l : List (Ty × Byts8)} (h : Blk w b (rowC l).toArray t) (k : Nat) (hk : k < l.length) :
    w.cell? ⟨b, k * 3, none⟩ = some (.int .i64 l[k].1.1) ∧ w.cell? ⟨b, k * 3 + 1, none⟩ = some (.int .i64 l[k].1.2) ∧ w.cell? ⟨b, k * 3 + 2, none⟩ = some (.string ⟨l[k].2.toArray⟩) := by
  have q0 := rowC_at l k hk 0 (by omega)
  have q1 := rowC_at l k hk 1 (by omega)
  have q2 := rowC_at l k hk 2 (by omega)
  refine ⟨h.cell ?_, h.cell ?_, h.cell ?_⟩
  · rw [List.getElem?_toArray]; exact q0
  · rw [List.getElem?_toArray]; exact q1
  · rw [List.getElem?_toArray]; exact q2

set_option maxHeartbeats 4000000 in
theorem of_any (t : Byts8) (w : World) :
    Calls Try.prog 10 #[.string ⟨t.toArray⟩] w fun e w' => e = .returned (.tuple #[.agg #[.int .i64 ((ofP t).1).1, .int .i64 ((ofP t).1).2], .int .i64 (ofP t).2]) ∧ Ext w w' := by
  obtain ⟨R, hR⟩ : ∃ R, ofP t = R := ⟨_, rfl⟩
  rw [hR]
  unfold ofP at hR
  have HT : Hid (tys.length = 14) := rfl
  have HTY := hide (fun w => types_any w)
  unfold tysC at HTY
  generalize tys = L at *
  have HR := hide hR
  clear hR
  go_enter Try.func10, Try.ntmps10
  go_wp2_with fail
  refine (unhide HTY _).mono ?_
  rintro e w1 ⟨rfl, rfl⟩
  go_wp2
  go_loopw [8] (fun i wr => ∃ k : Nat, k ≤ 14 ∧ i = .int .i64 k ∧ Hid (ofIn (L.drop k) t = R) ∧ Hid (Blk wr w.heap.size #[.int .i64 0, .int .i64 0] 23) ∧ Hid (Blk wr (w.heap.size + 1) (rowC L).toArray 54) ∧ Hid (Ext w wr)) (fun i _ => 14 - (intOf i).toNat)
  case atStart => exact ⟨0, by omega, rfl, unhide HR, (Blk.at rfl).alloc _, Blk.at (by simp), ((Ext.refl w).alloc _).alloc _⟩
  case round =>
    obtain ⟨k, hk, rfl, hc, hb0, hb1, hx⟩ := hrel
    by_cases hlt : k < 14
    · have hk2 : k < L.length := by rw [unhide HT]; exact hlt
      obtain ⟨c0, c1, c2⟩ := named_at (unhide hb1) k hk2
      have hc2 := unhide hc
      rw [List.drop_eq_getElem_cons hk2] at hc2
      unfold ofIn at hc2
      obtain ⟨p, hp⟩ : ∃ p, p = L[k] := ⟨_, rfl⟩
      rw [← hp] at c0 c1 c2 hc2
      clear hp hc
      obtain ⟨u, x⟩ := p
      dsimp only at c0 c1 c2 hc2
      obtain ⟨d0, d1⟩ := (unhide hb0).two
      obtain ⟨f0, f1⟩ := (unhide hb0).free2
      by_cases he : x = t
      · subst he
        rw [if_pos (by simp)] at hc2
        subst hc2
        have HF := hide (And.intro (((unhide hb0).put2 (.int .i64 u.1) (.int .i64 u.2)).alloc (.cells #[.int .i64 u.1, .int .i64 u.2, .string ⟨x.toArray⟩] 54)) ((ext_set2 (p := .int .i64 u.1) (q := .int .i64 u.2) (unhide hx) (Nat.le_refl _)).alloc (.cells #[.int .i64 u.1, .int .i64 u.2, .string ⟨x.toArray⟩] 54)))
        have hlw := (unhide hb0).lt
        have q2 : (x == x) = true := by simp
        go_wp2
        obtain ⟨s0, s1⟩ := (unhide HF).1.two
        exact bodyPost_ret (v := .tuple #[.agg #[.int .i64 (u).1, .int .i64 (u).2], .int .i64 0]) (by simp [results, Try.results10, go_sem, s0, s1]) rfl ⟨rfl, (unhide HF).2⟩
      · have q : (x == t) = false := beq_eq_false_iff_ne.2 he
        rw [if_neg (by simp [he])] at hc2
        have HC := hide hc2
        clear he hc2
        go_wp2
        go_roundw
        case rel => exact ⟨k + 1, by omega, by go_num, HC, (unhide hb0).alloc _, (unhide hb1).alloc _, (unhide hx).alloc _⟩
        case measure => simp [intOf]; omega
    · have hc2 := unhide hc
      rw [List.drop_of_length_le (by rw [unhide HT]; omega)] at hc2
      unfold ofIn at hc2
      subst hc2
      clear hc
      obtain ⟨d0, d1⟩ := (unhide hb0).two
      obtain ⟨f0, f1⟩ := (unhide hb0).free2
      have HF := hide (And.intro ((unhide hb0).put2 (.int .i64 0) (.int .i64 0)) (ext_set2 (p := .int .i64 0) (q := .int .i64 0) (unhide hx) (Nat.le_refl _)))
      go_wp2
      obtain ⟨s0, s1⟩ := (unhide HF).1.two
      exact bodyPost_ret (v := .tuple #[.agg #[.int .i64 (noT).1, .int .i64 (noT).2], .int .i64 4]) (by simp [results, Try.results10, go_sem, s0, s1, noT]) rfl ⟨rfl, (unhide HF).2⟩

set_option maxHeartbeats 4000000 in
theorem word_any (t : Ty) (w : World) :
    Calls Try.prog 12 #[.agg #[.int .i64 (t).1, .int .i64 (t).2]] w fun e w' => e = .returned (.tuple #[.string ⟨(wordP t).1.toArray⟩, .int .i64 (wordP t).2]) ∧ Ext w w' := by
  obtain ⟨R, hR⟩ : ∃ R, wordP t = R := ⟨_, rfl⟩
  rw [hR]
  unfold wordP at hR
  have HT : Hid (tys.length = 14) := rfl
  have HTY := hide (fun w => types_any w)
  unfold tysC at HTY
  generalize tys = L at *
  have HR := hide hR
  clear hR
  go_enter Try.func12, Try.ntmps12
  go_wp2_with fail
  refine (unhide HTY _).mono ?_
  rintro e w1 ⟨rfl, rfl⟩
  go_wp2
  go_loopw [8] (fun i wr => ∃ k : Nat, k ≤ 14 ∧ i = .int .i64 k ∧ Hid (wordIn (L.drop k) t = R) ∧ Hid (Blk wr w.heap.size #[.int .i64 (t).1, .int .i64 (t).2] 23) ∧ Hid (Blk wr (w.heap.size + 1) (rowC L).toArray 54) ∧ Hid (Ext w wr)) (fun i _ => 14 - (intOf i).toNat)
  case atStart => exact ⟨0, by omega, rfl, unhide HR, (Blk.at rfl).alloc _, Blk.at (by simp), ((Ext.refl w).alloc _).alloc _⟩
  case round =>
    obtain ⟨k, hk, rfl, hc, hb0, hb1, hx⟩ := hrel
    by_cases hlt : k < 14
    · have hk2 : k < L.length := by rw [unhide HT]; exact hlt
      obtain ⟨c0, c1, c2⟩ := named_at (unhide hb1) k hk2
      have hc2 := unhide hc
      rw [List.drop_eq_getElem_cons hk2] at hc2
      unfold wordIn at hc2
      obtain ⟨p, hp⟩ : ∃ p, p = L[k] := ⟨_, rfl⟩
      rw [← hp] at c0 c1 c2 hc2
      clear hp hc
      obtain ⟨u, x⟩ := p
      dsimp only at c0 c1 c2 hc2
      obtain ⟨d0, d1⟩ := (unhide hb0).two
      have hlw := (unhide hb0).lt
      by_cases he : u = t
      · subst he
        rw [if_pos (eqT_iff.2 rfl)] at hc2
        subst hc2
        have HF := hide ((unhide hx).alloc (.cells #[.int .i64 u.1, .int .i64 u.2, .string ⟨x.toArray⟩] 54))
        have q1 : (u.1 == u.1) = true := by simp
        have q2 : (u.2 == u.2) = true := by simp
        go_wp2
        exact bodyPost_ret (v := .tuple #[.string ⟨x.toArray⟩, .int .i64 0]) (by simp [results, Try.results12, go_sem]) rfl ⟨rfl, unhide HF⟩
      · have q : eqT u t = false := by
          rw [Bool.eq_false_iff]
          intro h
          exact he (eqT_iff.1 h)
        rw [if_neg (by rw [q]; decide)] at hc2
        have HC := hide hc2
        clear he hc2
        rcases eqT_cases q with q1 | ⟨q1, q2⟩ <;>
        · go_wp2
          go_roundw
          case rel => exact ⟨k + 1, by omega, by go_num, HC, (unhide hb0).alloc _, (unhide hb1).alloc _, (unhide hx).alloc _⟩
          case measure => simp [intOf]; omega
    · have hc2 := unhide hc
      rw [List.drop_of_length_le (by rw [unhide HT]; omega)] at hc2
      unfold wordIn at hc2
      subst hc2
      clear hc
      go_wp2
      exact bodyPost_ret (v := .tuple #[.string ⟨#[]⟩, .int .i64 2]) (by simp [results, Try.results12, go_sem]) rfl ⟨rfl, unhide hx⟩
end Go.Proofs.Ytokmplebajgckaa
