/-
  Proved: VecBack answers true for every pair of vectors and every slice of places: what Put lays at places Pick takes from them, and nothing else is touched; what is refused is nothing but 0. No condition.
-/
import Derived.Test.YtlbcflfhbhpicaaVF
import Derived.Test.YtlbcflfhbhpicaaVW
import Derived.Test.YtlbcflfhbhpicaaVQ
namespace Go.Proofs.Ytlbcflfhbhpicaa
open Go.ChangeShapes Go.WideShapes Go.ChangeAt Go.RowKit
set_option linter.unusedVariables false

/-- Which places are touched by the first k. -/
def touchK (ps : List Int) : Nat → Nat → Bool
  | 0 => fun _ => false
  | k + 1 => fun q => if q = pl ps k then true else touchK ps k q
theorem touchK_no (ps : List Int) (q : Nat) : ∀ k, touchK ps k q = false → ∀ j, j < k → pl ps j ≠ q
  | 0, _, j, hj => absurd hj (Nat.not_lt_zero j)
  | k + 1, h, j, hj => by
    unfold touchK at h
    by_cases e : q = pl ps k
    · simp [e] at h
    · simp only [if_neg e] at h
      by_cases hjk : j = k
      · subst hjk; exact fun x => e x.symm
      · exact touchK_no ps q k h j (by omega)

theorem bool_at (t : Nat → Bool) (k : Nat) (hk : k < 4) : (#[.bool (t 0), .bool (t 1), .bool (t 2), .bool (t 3)] : Array Value)[k]? = some (.bool (t k)) := by
  rcases (by omega : k = 0 ∨ k = 1 ∨ k = 2 ∨ k = 3) with rfl | rfl | rfl | rfl <;> rfl
theorem bool_set (ps : List Int) (k : Nat) (hq : pl ps k < 4) : (#[.bool (touchK ps k 0), .bool (touchK ps k 1), .bool (touchK ps k 2), .bool (touchK ps k 3)] : Array Value).setIfInBounds (pl ps k) (.bool true) = #[.bool (touchK ps (k + 1) 0), .bool (touchK ps (k + 1) 1), .bool (touchK ps (k + 1) 2), .bool (touchK ps (k + 1) 3)] := by
  rcases (by omega : pl ps k = 0 ∨ pl ps k = 1 ∨ pl ps k = 2 ∨ pl ps k = 3) with e | e | e | e <;> rw [touchK, e] <;> rfl
theorem pair_snd (x y : Nat → Int) (k : Nat) (hk : k < 4) : (#[.int .i32 (x 0), .int .i32 (x 1), .int .i32 (x 2), .int .i32 (x 3), .int .i32 (y 0), .int .i32 (y 1), .int .i32 (y 2), .int .i32 (y 3)] : Array Value)[4 + k]? = some (.int .i32 (y k)) := by
  rcases (by omega : k = 0 ∨ k = 1 ∨ k = 2 ∨ k = 3) with rfl | rfl | rfl | rfl <;> rfl
theorem pair_fst (x y : Nat → Int) (k : Nat) (hk : k < 4) : (#[.int .i32 (x 0), .int .i32 (x 1), .int .i32 (x 2), .int .i32 (x 3), .int .i32 (y 0), .int .i32 (y 1), .int .i32 (y 2), .int .i32 (y 3)] : Array Value)[k]? = some (.int .i32 (x k)) := by
  rcases (by omega : k = 0 ∨ k = 1 ∨ k = 2 ∨ k = 3) with rfl | rfl | rfl | rfl <;> rfl

/-- What was laid at a place is there, where none stands there twice. -/
theorem layK_back (a b : Nat → Int) {ps : List Int} (hg : Good ps) (hn : ¬ Dup ps) (i : Nat) (hi : i < ps.length) : layK a b ps ps.length (pl ps i) = b i := by
  obtain ⟨j, h1, h2, h3, h4, _⟩ := layK_last a b ps i ps.length hi
  by_cases e : i = j
  · subst e; exact h4
  · exact absurd ⟨i, j, hi, h2, by omega, ((hg.pl_inj hi h2).1 h3.symm)⟩ hn

set_option maxHeartbeats 4000000 in
theorem back_good (a b : Nat → Int) (ao : Option Addr) (cap : Nat) (ps : List Int) (w : World) (hrow : Row .i64 w (.slice ao ps.length cap) ps) (hg : Good ps) (hn : ¬ Dup ps) :
    Calls Try.prog 8 #[.agg #[.int .i32 (a 0), .int .i32 (a 1), .int .i32 (a 2), .int .i32 (a 3), .int .i32 (b 0), .int .i32 (b 1), .int .i32 (b 2), .int .i32 (b 3)], .slice ao ps.length cap] w fun e w' => e = .returned (.bool true) ∧ Ext w w' := by
  have hE := eqV
  have HR := hide hrow
  have HG := hide (And.intro hg hn)
  have hl4 := hg.2.1
  have hlay : Hid (∀ i, i < ps.length → cut ps.length (fun i => layK a b ps ps.length (pl ps i)) i = b i) := fun i hi => by rw [cut_in_marks (by omega)]; exact layK_back a b hg hn i hi
  have hout : Hid (∀ i, touchK ps ps.length i = false → layK a b ps ps.length i = a i) := fun i h => layK_out a b ps i ps.length (touchK_no ps i ps.length h)
  clear hrow hg hn
  go_enter Try.func8, Try.ntmps8
  go_wp2_with fail
  refine (wakes_any _).mono ?_
  rintro e w1 ⟨rfl, hx1⟩
  have B := hide ((Blk.at (cs := #[.int .i32 (a 0), .int .i32 (a 1), .int .i32 (a 2), .int .i32 (a 3), .int .i32 (b 0), .int .i32 (b 1), .int .i32 (b 2), .int .i32 (b 3)]) (t := 26) (rfl : w.heap.size = w.heap.size)).ext hx1)
  have X := hide (((Ext.refl w).alloc _).trans hx1)
  clear hx1
  obtain ⟨⟨p0, p1, p2, p3⟩, p4, p5, p6, p7⟩ := (unhide B).pair
  go_wp2_with fail
  refine (put_any a b ao cap ps _ ((unhide HR).ext (unhide X)) (unhide HG).1 (unhide HG).2).mono ?_
  rintro e w2 ⟨rfl, hx2⟩
  clear p0 p1 p2 p3 p4 p5 p6 p7
  have HP : Hid (∀ W, Row .i64 W (.slice ao ps.length cap) ps → Calls Try.prog 23 #[.agg #[.int .i32 (layK a b ps ps.length 0), .int .i32 (layK a b ps ps.length 1), .int .i32 (layK a b ps ps.length 2), .int .i32 (layK a b ps ps.length 3)], .slice ao ps.length cap] W fun e w' => e = .returned (.tuple #[.agg #[.int .i32 (cut ps.length (fun i => layK a b ps ps.length (pl ps i)) 0), .int .i32 (cut ps.length (fun i => layK a b ps ps.length (pl ps i)) 1), .int .i32 (cut ps.length (fun i => layK a b ps ps.length (pl ps i)) 2), .int .i32 (cut ps.length (fun i => layK a b ps ps.length (pl ps i)) 3)], .int .i64 0]) ∧ Ext W w') := fun W h => pick_any _ ao cap ps W h (unhide HG).1
  generalize layK a b ps ps.length = L at *
  have B2 := hide (((unhide B).ext hx2).alloc (.cells #[.int .i32 (L 0), .int .i32 (L 1), .int .i32 (L 2), .int .i32 (L 3)] 24))
  have X2 := hide (((unhide X).trans hx2).alloc (.cells #[.int .i32 (L 0), .int .i32 (L 1), .int .i32 (L 2), .int .i32 (L 3)] 24))
  have V2 := hide (Blk.at (w := w2) (cs := #[.int .i32 (L 0), .int .i32 (L 1), .int .i32 (L 2), .int .i32 (L 3)]) (t := 24) rfl)
  have s2 : w.heap.size < w2.heap.size := ((unhide B).ext hx2).lt
  clear hx2 B X
  go_wp2_with fail
  refine (unhide HP _ ((unhide HR).ext (unhide X2))).mono ?_
  rintro e w3 ⟨rfl, hx3⟩
  clear HP
  generalize cut ps.length (fun i => L (pl ps i)) = P at *
  have B3 := hide ((((unhide B2).ext hx3).alloc (.cells #[.int .i32 (P 0), .int .i32 (P 1), .int .i32 (P 2), .int .i32 (P 3)] 24)).alloc (.cells #[.bool false, .bool false, .bool false, .bool false] 52))
  have X3 := hide ((((unhide X2).trans hx3).alloc (.cells #[.int .i32 (P 0), .int .i32 (P 1), .int .i32 (P 2), .int .i32 (P 3)] 24)).alloc (.cells #[.bool false, .bool false, .bool false, .bool false] 52))
  have V3 := hide ((((unhide V2).ext hx3).alloc (.cells #[.int .i32 (P 0), .int .i32 (P 1), .int .i32 (P 2), .int .i32 (P 3)] 24)).alloc (.cells #[.bool false, .bool false, .bool false, .bool false] 52))
  have P3 := hide ((Blk.at (w := w3) (cs := #[.int .i32 (P 0), .int .i32 (P 1), .int .i32 (P 2), .int .i32 (P 3)]) (t := 24) rfl).alloc (.cells #[.bool false, .bool false, .bool false, .bool false] 52))
  have T3 := hide (Blk.at (w := w3.alloc (.cells #[.int .i32 (P 0), .int .i32 (P 1), .int .i32 (P 2), .int .i32 (P 3)] 24)) (b := w3.heap.size + 1) (cs := #[.bool false, .bool false, .bool false, .bool false]) (t := 52) (by simp))
  have s3 : w2.heap.size + 1 ≤ w3.heap.size := by have := hx3.size; simpa using this
  clear hx3 B2 X2 V2
  go_wp2
  generalize (w3.alloc (.cells #[.int .i32 (P 0), .int .i32 (P 1), .int .i32 (P 2), .int .i32 (P 3)] 24)).alloc (.cells #[.bool false, .bool false, .bool false, .bool false] 52) = w4 at *
  go_loopw [40] (fun i wr => ∃ k : Nat, k ≤ ps.length ∧ i = .int .i64 k ∧ Blk wr w.heap.size #[.int .i32 (a 0), .int .i32 (a 1), .int .i32 (a 2), .int .i32 (a 3), .int .i32 (b 0), .int .i32 (b 1), .int .i32 (b 2), .int .i32 (b 3)] 26 ∧ Blk wr w2.heap.size #[.int .i32 (L 0), .int .i32 (L 1), .int .i32 (L 2), .int .i32 (L 3)] 24 ∧ Blk wr w3.heap.size #[.int .i32 (P 0), .int .i32 (P 1), .int .i32 (P 2), .int .i32 (P 3)] 24 ∧
      Blk wr (w3.heap.size + 1) #[.bool (touchK ps k 0), .bool (touchK ps k 1), .bool (touchK ps k 2), .bool (touchK ps k 3)] 52 ∧ Ext w wr) (fun i _ => ps.length - (intOf i).toNat)
  case atStart => exact ⟨0, by omega, rfl, unhide B3, unhide V3, unhide P3, unhide T3, unhide X3⟩
  case round =>
    obtain ⟨k, hk, rfl, hb0, hb1, hb2, hb3, hx⟩ := hrel
    have D := hide (And.intro hb0 (And.intro hb1 (And.intro hb2 (And.intro hb3 hx))))
    clear hb0 hb1 hb2 hb3 hx B3 V3 P3 T3 X3
    by_cases hlt : k < ps.length
    · obtain ⟨bb, off, rfl, hc⟩ := ((unhide HR).ext (unhide D).2.2.2.2).at k hlt
      have hck := hc k hlt
      clear hc
      have hq := (unhide HG).1.at k hlt
      rw [hq.1] at hck
      have hq4 := hq.2
      clear hq
      obtain ⟨q, hq⟩ : ∃ q, Hid (pl ps k = q) := ⟨pl ps k, hide rfl⟩
      have hs := hide (bool_set ps k hq4)
      rw [unhide hq] at hck hq4 hs
      have hqi : (q : Int) < 4 := by omega
      have hki : (k : Int) < 4 := by omega
      have hk4 : k < 4 := by omega
      have c1 := (unhide D).2.2.1.vec k hk4
      rw [unhide hlay k hlt] at c1
      have c0 := (unhide D).1.cell (pair_snd a b k hk4)
      have t0 := (unhide D).2.2.2.1.cell (bool_at (touchK ps k) q hq4)
      have f0 := (unhide D).2.2.2.1.free q
      go_wp2
      go_quiet (fail)
      go_wp2
      go_roundw
      case rel =>
        refine ⟨k + 1, by omega, by go_num, ((unhide D).1.drewN _).other q _ (by omega), ((unhide D).2.1.drewN _).other q _ (by omega), ((unhide D).2.2.1.drewN _).other q _ (by omega), ?_, ext_set ((unhide D).2.2.2.2.drewN _) (by omega)⟩
        have := ((unhide D).2.2.2.1.drewN nq).set q (.bool true)
        rw [unhide hs] at this
        exact this
      case measure => simp [intOf]; omega
    · obtain rfl : k = ps.length := by omega
      clear hlay
      go_wp2
      obtain ⟨w5, hw5⟩ : ∃ w5, Hid (w5 = wr) := ⟨wr, hide rfl⟩
      rw [← unhide hw5] at D ⊢
      go_loopw [56] (fun i wr => ∃ k : Nat, k ≤ 4 ∧ i = .int .i64 k ∧ ∃ m, wr = w5.drewN m) (fun i _ => 4 - (intOf i).toNat)
      case atStart => exact ⟨0, by omega, rfl, 0, rfl⟩
      case round =>
        obtain ⟨k, hk, rfl, m, rfl⟩ := hrel
        by_cases hlt : k < 4
        · have hki : (k : Int) < 4 := by omega
          have c1 := (unhide D).2.1.vec k hlt
          have c0 := (unhide D).1.cell (pair_fst a b k hlt)
          have t0 := (unhide D).2.2.2.1.cell (bool_at (touchK ps ps.length) k hlt)
          cases ht : touchK ps ps.length k with
          | true =>
            rw [ht] at t0
            clear ht
            go_wp2
            go_quiet (fail)
            go_wp2
            go_roundw
            case rel => exact ⟨k + 1, by omega, by go_num, _, rfl⟩
            case measure => simp [intOf]; omega
          | false =>
            rw [ht] at t0
            rw [unhide hout k ht] at c1
            clear ht
            go_wp2
            go_quiet (fail)
            go_wp2
            go_roundw
            case rel => exact ⟨k + 1, by omega, by go_num, _, rfl⟩
            case measure => simp [intOf]; omega
        · go_wp2
          go_ret
          exact ⟨rfl, (unhide D).2.2.2.2.drewN m⟩

set_option maxHeartbeats 2000000 in
theorem back_bad (a b : Nat → Int) (ao : Option Addr) (cap : Nat) (ps : List Int) (w : World) (hrow : Row .i64 w (.slice ao ps.length cap) ps) (hg : ¬ (Good ps ∧ ¬ Dup ps)) :
    Calls Try.prog 8 #[.agg #[.int .i32 (a 0), .int .i32 (a 1), .int .i32 (a 2), .int .i32 (a 3), .int .i32 (b 0), .int .i32 (b 1), .int .i32 (b 2), .int .i32 (b 3)], .slice ao ps.length cap] w fun e w' => e = .returned (.bool true) ∧ Ext w w' := by
  have hE := eqV
  have HR := hide hrow
  have HG := hide hg
  clear hrow hg
  go_enter Try.func8, Try.ntmps8
  go_wp2_with fail
  refine (wakes_any _).mono ?_
  rintro e w1 ⟨rfl, hx1⟩
  have B := hide ((Blk.at (cs := #[.int .i32 (a 0), .int .i32 (a 1), .int .i32 (a 2), .int .i32 (a 3), .int .i32 (b 0), .int .i32 (b 1), .int .i32 (b 2), .int .i32 (b 3)]) (t := 26) (rfl : w.heap.size = w.heap.size)).ext hx1)
  have X := hide (((Ext.refl w).alloc _).trans hx1)
  clear hx1
  obtain ⟨⟨p0, p1, p2, p3⟩, p4, p5, p6, p7⟩ := (unhide B).pair
  go_wp2_with fail
  refine (put_bad a b ao cap ps _ ((unhide HR).ext (unhide X)) (unhide HG)).mono ?_
  rintro e w2 ⟨rfl, hx2⟩
  have X2 := hide (((unhide X).trans hx2).alloc (.cells #[.int .i32 0, .int .i32 0, .int .i32 0, .int .i32 0] 24))
  clear hx2 B X p0 p1 p2 p3 p4 p5 p6 p7
  go_wp2
  go_ret
  exact ⟨by simp, unhide X2⟩

theorem back_owes (H : Type) (enc : TypeId × Value → H) (W : World) (base : Nat) (args : Array Value) (ds : List (DataW H)) (p : List MemPlace) : Owes H enc Try.prog 8 Try.f8 Rows.vecBackSpec W base args ds p := by
  intro hval hA hsz
  rw [Try.params8] at hA hval hsz
  obtain ⟨v0, vs0, d0, ds0, p0, q0, hargs, rfl, rfl, h0, r0⟩ := trodAll_cons hA
  obtain ⟨v1, vs1, d1, ds1, p1, q1, rfl, rfl, rfl, h1, r1⟩ := trodAll_cons r0
  obtain ⟨rfl, rfl, rfl⟩ := trodAll_nil r1
  obtain rfl : args = #[v0, v1] := by cases args; simp_all
  obtain ⟨a, b, rfl, Ia, Ib⟩ := open_pair (hval 0 26 v0 rfl rfl) h0
  obtain ⟨ps, hrow, _, _⟩ := open_row Try.underlying45 Try.underlying3 (by kernel_rfl) (hval 1 45 v1 rfl rfl) h1 hsz (j := 1) rfl rfl
  obtain ⟨ao, cap, rfl, _⟩ := hrow.shape
  refine ⟨⟨rfl, rfl, rfl⟩, ?_⟩
  by_cases h : Good ps ∧ ¬ Dup ps
  · exact back_good a b ao cap ps W hrow h.1 h.2
  · exact back_bad a b ao cap ps W hrow h

set_option maxRecDepth 100000 in
theorem back_lifted (os : Os) (started : os.Started) (H : Type) (enc : TypeId × Value → H) :
    ReturnsInHanded {} Try.checked os 8 .any (Rows.vecBackSpec.pre6 enc Try.prog Try.f8 [] false) (Rows.vecBackSpec.post enc Try.prog Try.f8 false true false false) :=
  lift_law (C := Try.checked) own laidOut started (by kernel_rfl) Try.func8 (T := 4) rfl Try.underlying4 rfl (by kernel_rfl)
    (ChangeSpec.witness6 (enc := enc) (C := Try.checked) false ⟨#[], #[.agg #[.int .i32 0, .int .i32 0, .int .i32 0, .int .i32 0, .int .i32 0, .int .i32 0, .int .i32 0, .int .i32 0], .slice none 0 0], []⟩ 8 (by kernel_rfl) (by kernel_rfl) (by kernel_rfl) (by kernel_rfl)) (back_owes H enc)

theorem vecBack_holds : Rows.VecBackSaid :=
  OpenClaim.holds_of_wide 8 Try.f8 rfl rfl rfl rfl rfl rfl rfl ⟨rfl, rfl, rfl, rfl, rfl⟩ rfl rfl rfl rfl rfl (by kernel_rfl) Try.func8 (by kernel_rfl)
    (of_decide_eq_true (by kernel_rfl)) (by unfold Func.isWrapper; rw [if_neg (of_decide_eq_false (by kernel_rfl))]; exact ⟨rfl, rfl⟩)
    (fun os started H enc _ => back_lifted os started H enc)
#print axioms vecBack_holds
end Go.Proofs.Ytlbcflfhbhpicaa
