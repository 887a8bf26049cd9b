/-
  Colours: wakes.
-/
import Derived.Test.YtadajaoidhbmgaaSG
namespace Go.Proofs.Ytadajaoidhbmgaa
open Go.RowKit
set_option linter.unusedVariables false
set_option linter.unusedSimpArgs false

def twI : Img := ⟨5, [(2, 1, [0, 255])], 2, 2, 1, 1⟩
def twL (g : Nat) : List Ent := [(2, 1, .slice (some ⟨g, 0, none⟩) 2 2, [0, 255])]
theorem tw_at : atV twI 32768 0 0 0 = 65536 ∧ atV twI 32768 0 0 1 = 65536 ∧ atV twI 32768 0 0 2 = 65536 ∧ atV twI 32768 0 0 3 = 65536 ∧ atE twI = 0 := by decide
theorem tw_ln : lnI twI (levAt twI 0) 32768 0 0 = 32768 ∧ lnI twI (levAt twI 0) 32768 0 1 = 32768 ∧ lnI twI (levAt twI 0) 32768 0 2 = 32768 ∧ lnI twI (levAt twI 0) 32768 0 3 = 65536 ∧ rfE twI 0 = 0 := by decide

theorem two_lr {w : World} {b g : Nat} (hV : Blk w b #[.int .i64 2, .int .i64 1, .slice (some ⟨g, 0, none⟩) 2 2] 46) (hU : Blk w g #[.int .u8 0, .int .u8 255] 5) : LR w (.slice (some ⟨b, 0, none⟩) 1 1) (twL g) := by
  obtain ⟨c0, c1, c2⟩ := hV.three
  refine ⟨⟨some ⟨b, 0, none⟩, 1, rfl, (fun h => by cases h), by simp [twL], by unfold maxLen; omega, fun i hi => ?_⟩, fun p hp => ?_⟩
  · obtain rfl : i = 0 := by simp [twL] at hi; exact hi
    exact ⟨b, 0, rfl, c0, c1, c2⟩
  · obtain rfl : p = (2, 1, .slice (some ⟨g, 0, none⟩) 2 2, [0, 255]) := by simpa [twL] using hp
    refine .inr ⟨by simp, g, 0, 2, rfl, by simp, by unfold maxLen; omega, fun i hi => ?_⟩
    have hi' : i < 2 := hi
    rcases (by omega : i = 0 ∨ i = 1) with rfl | rfl
    · exact hU.cell rfl
    · exact hU.cell rfl

set_option maxRecDepth 10000 in
set_option maxHeartbeats 400000 in
theorem two_any (w : World) : Calls Try.prog 15 #[] w fun e w' => ∃ b g, e = .returned (.agg #[.int .i64 5, .slice (some ⟨b, 0, none⟩) 1 1, .int .i64 2, .int .i64 2, .int .i64 1, .int .i64 1]) ∧ LR w' (.slice (some ⟨b, 0, none⟩) 1 1) (twL g) ∧ Ext w w' := by
  have hX := ((((Ext.refl w).alloc (.cells #[.int .i64 5, .slice (some ⟨w.heap.size + 1 + 1, 0, none⟩) 1 1, .int .i64 2, .int .i64 2, .int .i64 1, .int .i64 1] 24)).alloc (.cells #[.int .u8 0, .int .u8 255] 5)).alloc (.cells #[.int .i64 2, .int .i64 1, .slice (some ⟨w.heap.size + 1, 0, none⟩) 2 2] 46))
  have hB := ((Blk.new w #[.int .i64 5, .slice (some ⟨w.heap.size + 1 + 1, 0, none⟩) 1 1, .int .i64 2, .int .i64 2, .int .i64 1, .int .i64 1] 24).alloc (.cells #[.int .u8 0, .int .u8 255] 5)).alloc (.cells #[.int .i64 2, .int .i64 1, .slice (some ⟨w.heap.size + 1, 0, none⟩) 2 2] 46)
  have hU := (Blk.at (w := w.alloc (.cells #[.int .i64 5, .slice (some ⟨w.heap.size + 1 + 1, 0, none⟩) 1 1, .int .i64 2, .int .i64 2, .int .i64 1, .int .i64 1] 24)) (b := w.heap.size + 1) (cs := #[.int .u8 0, .int .u8 255]) (t := 5) (by simp)).alloc (.cells #[.int .i64 2, .int .i64 1, .slice (some ⟨w.heap.size + 1, 0, none⟩) 2 2] 46)
  have hV := Blk.at (w := (w.alloc (.cells #[.int .i64 5, .slice (some ⟨w.heap.size + 1 + 1, 0, none⟩) 1 1, .int .i64 2, .int .i64 2, .int .i64 1, .int .i64 1] 24)).alloc (.cells #[.int .u8 0, .int .u8 255] 5)) (b := w.heap.size + 1 + 1) (cs := #[.int .i64 2, .int .i64 1, .slice (some ⟨w.heap.size + 1, 0, none⟩) 2 2]) (t := 46) (by simp)
  have H9 := hide (And.intro hB (And.intro (two_lr hV hU) hX))
  clear hX hB hU hV
  go_enter Try.func15, Try.ntmps15
  go_wp2
  generalize ((w.alloc (.cells #[.int .i64 5, .slice (some ⟨w.heap.size + 1 + 1, 0, none⟩) 1 1, .int .i64 2, .int .i64 2, .int .i64 1, .int .i64 1] 24)).alloc (.cells #[.int .u8 0, .int .u8 255] 5)).alloc (.cells #[.int .i64 2, .int .i64 1, .slice (some ⟨w.heap.size + 1, 0, none⟩) 2 2] 46) = w9 at H9 ⊢
  obtain ⟨hP, hLR, hX⟩ := unhide H9
  obtain ⟨r0, r1, r2, r3, r4, r5⟩ := hP.six
  refine bodyPost_ret (v := .agg #[.int .i64 5, .slice (some ⟨w.heap.size + 1 + 1, 0, none⟩) 1 1, .int .i64 2, .int .i64 2, .int .i64 1, .int .i64 1]) (by simp [results, Try.results15, go_sem, r0, r1, r2, r3, r4, r5]) rfl ⟨w.heap.size + 1 + 1, w.heap.size + 1, rfl, hLR, hX⟩

theorem tw_byt (g : Nat) : ∀ p ∈ twL g, Byt p.2.2.2 := fun p hp => by
  obtain rfl : p = (2, 1, .slice (some ⟨g, 0, none⟩) 2 2, [0, 255]) := by simpa [twL] using hp
  intro x hx
  have hx' : x = 0 ∨ x = 255 := by simpa using hx
  omega
set_option maxRecDepth 10000 in
set_option maxHeartbeats 1000000 in
theorem wakes_any (w : World) : Calls Try.prog 5 #[] w fun e w' => e = .returned (.bool true) ∧ Ext w w' := by
  go_enter Try.func5, Try.ntmps5
  go_wp2_with fail
  refine (two_any _).mono ?_
  rintro e w1 ⟨b1, g1, rfl, hl1, hx1⟩
  have HL := hide hl1
  have HX := hide hx1
  clear hl1 hx1
  go_wp2_with fail
  refine (at_any (I := twI) (unhide HL) (by simp [twL]) rfl (tw_byt g1) 32768 0 0 ⟨by omega, by omega⟩ ⟨by omega, by omega⟩ ⟨by omega, by omega⟩).mono ?_
  rintro e w2 ⟨rfl, hx2⟩
  obtain ⟨e0, e1, e2, e3, e4⟩ := tw_at
  rw [e0, e1, e2, e3, e4]
  clear e0 e1 e2 e3 e4 HL
  have H2 := hide (And.intro (((unhide HX).trans hx2).alloc (.cells #[.int .i32 65536, .int .i32 65536, .int .i32 65536, .int .i32 65536] 30)) (Blk.new w2 #[.int .i32 65536, .int .i32 65536, .int .i32 65536, .int .i32 65536] 30))
  clear HX hx2
  go_wp2_with fail
  generalize w2.alloc (.cells #[.int .i32 65536, .int .i32 65536, .int .i32 65536, .int .i32 65536] 30) = w3 at H2 ⊢
  refine (two_any _).mono ?_
  rintro e w4 ⟨b4, g4, rfl, hl4, hx4⟩
  have HL := hide hl4
  have H4 := hide (And.intro ((unhide H2).1.trans hx4) ((unhide H2).2.ext hx4))
  clear H2 hl4 hx4
  go_wp2_with fail
  refine (linear_good (I := twI) (unhide HL) (by simp [twL]) rfl (tw_byt g4) 0 32768 0 ⟨by omega, by omega⟩ ⟨by omega, by omega⟩ tw_ln.2.2.2.2).mono ?_
  rintro e w5 ⟨rfl, hx5⟩
  obtain ⟨e0, e1, e2, e3, _⟩ := tw_ln
  rw [e0, e1, e2, e3]
  clear e0 e1 e2 e3 HL
  have hx6 := hx5.alloc (.cells #[.int .i32 32768, .int .i32 32768, .int .i32 32768, .int .i32 65536] 30)
  have hA := (unhide H4).2.ext hx6
  have hX := hide ((unhide H4).1.trans hx6)
  obtain ⟨a0, _⟩ := hA.four
  clear H4 hx5 hx6 hA
  go_wp2_with fail
  refine (wrap_any 3 5 4 _).mono ?_
  rintro e w6 ⟨rfl, rfl⟩
  rw [show wrapI 3 5 4 = 2 from by decide]
  go_wp2
  go_ret
  exact ⟨rfl, unhide hX⟩
end Go.Proofs.Ytadajaoidhbmgaa
