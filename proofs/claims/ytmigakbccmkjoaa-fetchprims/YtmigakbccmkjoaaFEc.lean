/-
  Vertices out of bytes: the walks of Width, Number, Check, step. What the dump lacks is left out.
-/
import Derived.Test.YtmigakbccmkjoaaFEb
namespace Go.Proofs.Ytmigakbccmkjoaa
open Go.RowKit
set_option linter.unusedVariables false
set_option linter.unusedSimpArgs false

theorem nxtV_two (k : Int) : nxtV k = .nilFunc ∨ ∃ g, nxtV k = .func (.func g) #[] #[] := by
  unfold nxtV
  split
  · exact .inr ⟨_, rfl⟩
  split
  · exact .inr ⟨_, rfl⟩
  split
  · exact .inr ⟨_, rfl⟩
  split
  · exact .inr ⟨_, rfl⟩
  split
  · exact .inr ⟨_, rfl⟩
  · exact .inl rfl

/-- An array's cells. -/
def arC (A : Arr) : Array Value := #[.int .i64 A.size, .int .i64 A.kind, .bool A.nz, .int .i64 A.stride, .int .i64 A.off]

theorem size_numbers : (Try.prog.info? 64).map (·.size) = some 5 := by kernel_rfl

theorem size_arr : (Try.prog.info? 24).map (·.size) = some 5 := by kernel_rfl

set_option maxHeartbeats 1000000 in
theorem fwidth_any (k : Int) (w : World) :
    Calls Try.prog 19 #[.int .i64 k] w fun e w' => e = .returned (.int .i64 (widI k : Int)) ∧ Ext w w' := by
  have HC := hide (fun w => fnum_any k w)
  unfold nbC at HC
  generalize lstI k = ls at *
  generalize mstI k = ms at *
  have hnx := nxtV_two k
  generalize nxtV k = nv at *
  generalize ((widI k : Nat) : Int) = wd at *
  generalize decide (k = 5) = kb at *
  generalize knwB k = kw at *
  rcases hnx with rfl | ⟨gn, rfl⟩
  all_goals
    go_enter Try.func19, Try.ntmps19
    go_wp2_with (go_at_call 24; refine (unhide HC _).mono ?_; rintro e w1 ⟨rfl, hx1⟩; have HX1 := hide hx1; clear hx1)
    go_ret
    exact ⟨rfl, by repeat (first | exact unhide HX1 | exact Ext.refl _ | refine ext_set ?_ (by first | omega | (have := (unhide HX1).size; simp; omega)) | refine Ext.alloc ?_ _)⟩

/-- What Number answers. -/
def nuE (k n : Int) : Int := if knwB k = true ∧ lstI k ≤ n ∧ n ≤ mstI k then 0 else 2

def nuF (k : Int) (nz : Bool) (n : Int) : Int := if nuE k n = 0 then numF k nz n else 0

set_option maxHeartbeats 1000000 in
theorem fetNumber_any (k : Int) (nz : Bool) (n : Int) (w : World) :
    Calls Try.prog 17 #[.int .i64 k, .bool nz, .int .i64 n] w fun e w' => e = .returned (.tuple #[.int .i32 (nuF k nz n), .int .i64 (nuE k n)]) ∧ Ext w w' := by
  have HC := hide (fun w => fnum_any k w)
  by_cases hk : knwB k = true
  · have HN := hide (fun w => fnumber_any k nz n w hk)
    have H2 := hide (show nuE k n = if lstI k ≤ n ∧ n ≤ mstI k then 0 else 2 by unfold nuE; rw [hk]; simp)
    have H3 := hide (show nuE k n = 0 → nuF k nz n = numF k nz n from fun h => by unfold nuF; rw [if_pos h])
    have H4 := hide (show nuE k n = 2 → nuF k nz n = 0 from fun h => by unfold nuF; rw [if_neg (by rw [h]; decide)])
    rw [hk] at HC
    unfold nbC at HC HN
    generalize lstI k = ls at *
    generalize mstI k = ms at *
    have hnx := nxtV_two k
    generalize nxtV k = nv at *
    generalize ((widI k : Nat) : Int) = wd at *
    generalize decide (k = 5) = kb at *
    generalize numF k nz n = y at *
    generalize nuE k n = er at *
    generalize nuF k nz n = z at *
    by_cases h1 : n < ls
    · obtain rfl : er = 2 := by have := unhide H2; rw [if_neg (by omega)] at this; exact this
      obtain rfl := unhide H4 rfl
      rcases hnx with rfl | ⟨gn, rfl⟩
      all_goals
        go_enter Try.func17, Try.ntmps17
        go_wp2_with (go_at_call 24; refine (unhide HC _).mono ?_; rintro e w1 ⟨rfl, hx1⟩; have HX1 := hide hx1; clear hx1)
        refine bodyPost_ret (v := .tuple #[.int .i32 0, .int .i64 2]) (by simp [results, Try.results17, go_sem]) rfl ⟨rfl, ?_⟩
        repeat (first | exact unhide HX1 | exact Ext.refl _ | refine ext_set ?_ (by have := (unhide HX1).size; simp; omega) | refine Ext.alloc ?_ _)
    · by_cases h2 : ms < n
      · obtain rfl : er = 2 := by have := unhide H2; rw [if_neg (by omega)] at this; exact this
        obtain rfl := unhide H4 rfl
        rcases hnx with rfl | ⟨gn, rfl⟩
        all_goals
          go_enter Try.func17, Try.ntmps17
          go_wp2_with (go_at_call 24; refine (unhide HC _).mono ?_; rintro e w1 ⟨rfl, hx1⟩; have HX1 := hide hx1; clear hx1)
          refine bodyPost_ret (v := .tuple #[.int .i32 0, .int .i64 2]) (by simp [results, Try.results17, go_sem]) rfl ⟨rfl, ?_⟩
          repeat (first | exact unhide HX1 | exact Ext.refl _ | refine ext_set ?_ (by have := (unhide HX1).size; simp; omega) | refine Ext.alloc ?_ _)
      · obtain rfl : er = 0 := by have := unhide H2; rw [if_pos (by omega)] at this; exact this
        obtain rfl := unhide H3 rfl
        rcases hnx with rfl | ⟨gn, rfl⟩
        all_goals
          go_enter Try.func17, Try.ntmps17
          go_wp2_with (first | (go_at_call 24; refine (unhide HC _).mono ?_; rintro e w1 ⟨rfl, hx1⟩; have HX1 := hide hx1; clear hx1) | (go_at_call 26; refine (unhide HN _).mono ?_; rintro e w2 ⟨rfl, hx2⟩; have HX2 := hide hx2; clear hx2))
          refine bodyPost_ret (v := .tuple #[.int .i32 _, .int .i64 0]) (by simp [results, Try.results17, go_sem]) rfl ⟨rfl, Ext.trans ?_ (unhide HX2)⟩
          repeat (first | exact unhide HX1 | exact Ext.refl _ | refine ext_set ?_ (by have := (unhide HX1).size; simp; omega) | refine Ext.alloc ?_ _)
  · have hk : knwB k = false := by simpa using hk
    have e1 : nuE k n = 2 := by unfold nuE; rw [hk]; simp
    have e2 : nuF k nz n = 0 := by unfold nuF; rw [e1]; simp
    rw [hk] at HC
    rw [e1, e2]
    unfold nbC at HC
    generalize lstI k = ls at *
    generalize mstI k = ms at *
    have hnx := nxtV_two k
    generalize nxtV k = nv at *
    generalize ((widI k : Nat) : Int) = wd at *
    generalize decide (k = 5) = kb at *
    rcases hnx with rfl | ⟨gn, rfl⟩
    all_goals
      go_enter Try.func17, Try.ntmps17
      go_wp2_with (go_at_call 24; refine (unhide HC _).mono ?_; rintro e w1 ⟨rfl, hx1⟩; have HX1 := hide hx1; clear hx1)
      refine bodyPost_ret (v := .tuple #[.int .i32 0, .int .i64 2]) (by simp [results, Try.results17, go_sem]) rfl ⟨rfl, ?_⟩
      repeat (first | exact unhide HX1 | exact Ext.refl _ | refine ext_set ?_ (by have := (unhide HX1).size; simp; omega) | refine Ext.alloc ?_ _)

/-- What Check answers. -/
def chkA (A : Arr) : Int := if arrB A = true then 0 else 2

set_option maxHeartbeats 2000000 in
theorem fcheck_any (A : Arr) (w : World) :
    Calls Try.prog 12 #[.agg (arC A)] w fun e w' => e = .returned (.int .i64 (chkA A)) ∧ Ext w w' := by
  have HC := hide (fun w => fnum_any A.kind w)
  have H2 := hide (show chkA A = if knwB A.kind = true ∧ (1 ≤ A.size ∧ A.size ≤ 4) ∧ (0 ≤ A.stride ∧ A.stride ≤ 255) ∧ (0 ≤ A.off ∧ A.off ≤ 262144) then 0 else 2 by
    unfold chkA arrB
    simp only [Bool.and_eq_true, decide_eq_true_eq, and_assoc])
  unfold arC
  unfold nbC at HC
  obtain ⟨sz, kd, nz, sr, of⟩ := A
  simp only at *
  generalize chkA _ = er at *
  generalize lstI kd = ls at *
  generalize mstI kd = ms at *
  have hnx := nxtV_two kd
  generalize nxtV kd = nv at *
  generalize ((widI kd : Nat) : Int) = wd at *
  generalize decide (kd = 5) = kb at *
  generalize knwB kd = kw at *
  cases kw with
  | false =>
    obtain rfl : er = 2 := by have := unhide H2; rw [if_neg (by simp)] at this; exact this
    rcases hnx with rfl | ⟨gn, rfl⟩
    all_goals
      go_enter Try.func12, Try.ntmps12
      go_wp2_with (go_at_call 24; refine (unhide HC _).mono ?_; rintro e w1 ⟨rfl, hx1⟩; have hB := (Blk.new w #[.int .i64 sz, .int .i64 kd, .bool nz, .int .i64 sr, .int .i64 of] 24).ext hx1; have c0 : ∀ o, (w1.alloc o).cell? ⟨w.heap.size, 0, none⟩ = some (.int .i64 sz) := fun o => (hB.alloc o).cell rfl; have c3 : ∀ o, (w1.alloc o).cell? ⟨w.heap.size, 3, none⟩ = some (.int .i64 sr) := fun o => (hB.alloc o).cell rfl; have c4 : ∀ o, (w1.alloc o).cell? ⟨w.heap.size, 4, none⟩ = some (.int .i64 of) := fun o => (hB.alloc o).cell rfl; have hs1 := hx1.size; have HB := hide hB; simp at hs1; have HX1 := hide hx1; clear hx1 hB)
      go_ret
      exact ⟨rfl, by repeat (first | exact unhide HX1 | exact Ext.refl _ | refine ext_set ?_ (by have := (unhide HX1).size; simp; omega) | refine Ext.alloc ?_ _ | refine Ext.trans ?_ (unhide HX1))⟩
  | true =>
    have H2' : Hid (er = if (1 ≤ sz ∧ sz ≤ 4) ∧ (0 ≤ sr ∧ sr ≤ 255) ∧ (0 ≤ of ∧ of ≤ 262144) then 0 else 2) := by have e := unhide H2; simp only [true_and] at e; exact e
    by_cases h0 : sz < 1
    · have d0 : decide (sz < 1) = true := by simpa using h0
      obtain rfl : er = 2 := by have := unhide H2'; rw [if_neg (by omega)] at this; exact this
      rcases hnx with rfl | ⟨gn, rfl⟩
      all_goals
        go_enter Try.func12, Try.ntmps12
        go_wp2_with (go_at_call 24; refine (unhide HC _).mono ?_; rintro e w1 ⟨rfl, hx1⟩; have hB := (Blk.new w #[.int .i64 sz, .int .i64 kd, .bool nz, .int .i64 sr, .int .i64 of] 24).ext hx1; have c0 : ∀ o, (w1.alloc o).cell? ⟨w.heap.size, 0, none⟩ = some (.int .i64 sz) := fun o => (hB.alloc o).cell rfl; have c3 : ∀ o, (w1.alloc o).cell? ⟨w.heap.size, 3, none⟩ = some (.int .i64 sr) := fun o => (hB.alloc o).cell rfl; have c4 : ∀ o, (w1.alloc o).cell? ⟨w.heap.size, 4, none⟩ = some (.int .i64 of) := fun o => (hB.alloc o).cell rfl; have hs1 := hx1.size; have HB := hide hB; simp at hs1; have HX1 := hide hx1; clear hx1 hB)
        go_ret
        exact ⟨rfl, by repeat (first | exact unhide HX1 | exact Ext.refl _ | refine ext_set ?_ (by have := (unhide HX1).size; simp; omega) | refine Ext.alloc ?_ _ | refine Ext.trans ?_ (unhide HX1))⟩
    · have d0 : decide (sz < 1) = false := by simpa using h0
      by_cases h1 : 4 < sz
      · have d1 : decide (4 < sz) = true := by simpa using h1
        obtain rfl : er = 2 := by have := unhide H2'; rw [if_neg (by omega)] at this; exact this
        rcases hnx with rfl | ⟨gn, rfl⟩
        all_goals
          go_enter Try.func12, Try.ntmps12
          go_wp2_with (go_at_call 24; refine (unhide HC _).mono ?_; rintro e w1 ⟨rfl, hx1⟩; have hB := (Blk.new w #[.int .i64 sz, .int .i64 kd, .bool nz, .int .i64 sr, .int .i64 of] 24).ext hx1; have c0 : ∀ o, (w1.alloc o).cell? ⟨w.heap.size, 0, none⟩ = some (.int .i64 sz) := fun o => (hB.alloc o).cell rfl; have c3 : ∀ o, (w1.alloc o).cell? ⟨w.heap.size, 3, none⟩ = some (.int .i64 sr) := fun o => (hB.alloc o).cell rfl; have c4 : ∀ o, (w1.alloc o).cell? ⟨w.heap.size, 4, none⟩ = some (.int .i64 of) := fun o => (hB.alloc o).cell rfl; have hs1 := hx1.size; have HB := hide hB; simp at hs1; have HX1 := hide hx1; clear hx1 hB)
          go_ret
          exact ⟨rfl, by repeat (first | exact unhide HX1 | exact Ext.refl _ | refine ext_set ?_ (by have := (unhide HX1).size; simp; omega) | refine Ext.alloc ?_ _ | refine Ext.trans ?_ (unhide HX1))⟩
      · have d1 : decide (4 < sz) = false := by simpa using h1
        by_cases h2 : sr < 0
        · have d2 : decide (sr < 0) = true := by simpa using h2
          obtain rfl : er = 2 := by have := unhide H2'; rw [if_neg (by omega)] at this; exact this
          rcases hnx with rfl | ⟨gn, rfl⟩
          all_goals
            go_enter Try.func12, Try.ntmps12
            go_wp2_with (go_at_call 24; refine (unhide HC _).mono ?_; rintro e w1 ⟨rfl, hx1⟩; have hB := (Blk.new w #[.int .i64 sz, .int .i64 kd, .bool nz, .int .i64 sr, .int .i64 of] 24).ext hx1; have c0 : ∀ o, (w1.alloc o).cell? ⟨w.heap.size, 0, none⟩ = some (.int .i64 sz) := fun o => (hB.alloc o).cell rfl; have c3 : ∀ o, (w1.alloc o).cell? ⟨w.heap.size, 3, none⟩ = some (.int .i64 sr) := fun o => (hB.alloc o).cell rfl; have c4 : ∀ o, (w1.alloc o).cell? ⟨w.heap.size, 4, none⟩ = some (.int .i64 of) := fun o => (hB.alloc o).cell rfl; have hs1 := hx1.size; have HB := hide hB; simp at hs1; have HX1 := hide hx1; clear hx1 hB)
            go_ret
            exact ⟨rfl, by repeat (first | exact unhide HX1 | exact Ext.refl _ | refine ext_set ?_ (by have := (unhide HX1).size; simp; omega) | refine Ext.alloc ?_ _ | refine Ext.trans ?_ (unhide HX1))⟩
        · have d2 : decide (sr < 0) = false := by simpa using h2
          by_cases h3 : 255 < sr
          · have d3 : decide (255 < sr) = true := by simpa using h3
            obtain rfl : er = 2 := by have := unhide H2'; rw [if_neg (by omega)] at this; exact this
            rcases hnx with rfl | ⟨gn, rfl⟩
            all_goals
              go_enter Try.func12, Try.ntmps12
              go_wp2_with (go_at_call 24; refine (unhide HC _).mono ?_; rintro e w1 ⟨rfl, hx1⟩; have hB := (Blk.new w #[.int .i64 sz, .int .i64 kd, .bool nz, .int .i64 sr, .int .i64 of] 24).ext hx1; have c0 : ∀ o, (w1.alloc o).cell? ⟨w.heap.size, 0, none⟩ = some (.int .i64 sz) := fun o => (hB.alloc o).cell rfl; have c3 : ∀ o, (w1.alloc o).cell? ⟨w.heap.size, 3, none⟩ = some (.int .i64 sr) := fun o => (hB.alloc o).cell rfl; have c4 : ∀ o, (w1.alloc o).cell? ⟨w.heap.size, 4, none⟩ = some (.int .i64 of) := fun o => (hB.alloc o).cell rfl; have hs1 := hx1.size; have HB := hide hB; simp at hs1; have HX1 := hide hx1; clear hx1 hB)
              go_ret
              exact ⟨rfl, by repeat (first | exact unhide HX1 | exact Ext.refl _ | refine ext_set ?_ (by have := (unhide HX1).size; simp; omega) | refine Ext.alloc ?_ _ | refine Ext.trans ?_ (unhide HX1))⟩
          · have d3 : decide (255 < sr) = false := by simpa using h3
            by_cases h4 : of < 0
            · have d4 : decide (of < 0) = true := by simpa using h4
              obtain rfl : er = 2 := by have := unhide H2'; rw [if_neg (by omega)] at this; exact this
              rcases hnx with rfl | ⟨gn, rfl⟩
              all_goals
                go_enter Try.func12, Try.ntmps12
                go_wp2_with (go_at_call 24; refine (unhide HC _).mono ?_; rintro e w1 ⟨rfl, hx1⟩; have hB := (Blk.new w #[.int .i64 sz, .int .i64 kd, .bool nz, .int .i64 sr, .int .i64 of] 24).ext hx1; have c0 : ∀ o, (w1.alloc o).cell? ⟨w.heap.size, 0, none⟩ = some (.int .i64 sz) := fun o => (hB.alloc o).cell rfl; have c3 : ∀ o, (w1.alloc o).cell? ⟨w.heap.size, 3, none⟩ = some (.int .i64 sr) := fun o => (hB.alloc o).cell rfl; have c4 : ∀ o, (w1.alloc o).cell? ⟨w.heap.size, 4, none⟩ = some (.int .i64 of) := fun o => (hB.alloc o).cell rfl; have hs1 := hx1.size; have HB := hide hB; simp at hs1; have HX1 := hide hx1; clear hx1 hB)
                go_ret
                exact ⟨rfl, by repeat (first | exact unhide HX1 | exact Ext.refl _ | refine ext_set ?_ (by have := (unhide HX1).size; simp; omega) | refine Ext.alloc ?_ _ | refine Ext.trans ?_ (unhide HX1))⟩
            · have d4 : decide (of < 0) = false := by simpa using h4
              by_cases h5 : 262144 < of
              · have d5 : decide (262144 < of) = true := by simpa using h5
                obtain rfl : er = 2 := by have := unhide H2'; rw [if_neg (by omega)] at this; exact this
                rcases hnx with rfl | ⟨gn, rfl⟩
                all_goals
                  go_enter Try.func12, Try.ntmps12
                  go_wp2_with (go_at_call 24; refine (unhide HC _).mono ?_; rintro e w1 ⟨rfl, hx1⟩; have hB := (Blk.new w #[.int .i64 sz, .int .i64 kd, .bool nz, .int .i64 sr, .int .i64 of] 24).ext hx1; have c0 : ∀ o, (w1.alloc o).cell? ⟨w.heap.size, 0, none⟩ = some (.int .i64 sz) := fun o => (hB.alloc o).cell rfl; have c3 : ∀ o, (w1.alloc o).cell? ⟨w.heap.size, 3, none⟩ = some (.int .i64 sr) := fun o => (hB.alloc o).cell rfl; have c4 : ∀ o, (w1.alloc o).cell? ⟨w.heap.size, 4, none⟩ = some (.int .i64 of) := fun o => (hB.alloc o).cell rfl; have hs1 := hx1.size; have HB := hide hB; simp at hs1; have HX1 := hide hx1; clear hx1 hB)
                  go_ret
                  exact ⟨rfl, by repeat (first | exact unhide HX1 | exact Ext.refl _ | refine ext_set ?_ (by have := (unhide HX1).size; simp; omega) | refine Ext.alloc ?_ _ | refine Ext.trans ?_ (unhide HX1))⟩
              · have d5 : decide (262144 < of) = false := by simpa using h5
                obtain rfl : er = 0 := by have := unhide H2'; rw [if_pos (by omega)] at this; exact this
                rcases hnx with rfl | ⟨gn, rfl⟩
                all_goals
                  go_enter Try.func12, Try.ntmps12
                  go_wp2_with (go_at_call 24; refine (unhide HC _).mono ?_; rintro e w1 ⟨rfl, hx1⟩; have hB := (Blk.new w #[.int .i64 sz, .int .i64 kd, .bool nz, .int .i64 sr, .int .i64 of] 24).ext hx1; have c0 : ∀ o, (w1.alloc o).cell? ⟨w.heap.size, 0, none⟩ = some (.int .i64 sz) := fun o => (hB.alloc o).cell rfl; have c3 : ∀ o, (w1.alloc o).cell? ⟨w.heap.size, 3, none⟩ = some (.int .i64 sr) := fun o => (hB.alloc o).cell rfl; have c4 : ∀ o, (w1.alloc o).cell? ⟨w.heap.size, 4, none⟩ = some (.int .i64 of) := fun o => (hB.alloc o).cell rfl; have hs1 := hx1.size; have HB := hide hB; simp at hs1; have HX1 := hide hx1; clear hx1 hB)
                  go_ret
                  exact ⟨rfl, by repeat (first | exact unhide HX1 | exact Ext.refl _ | refine ext_set ?_ (by have := (unhide HX1).size; simp; omega) | refine Ext.alloc ?_ _ | refine Ext.trans ?_ (unhide HX1))⟩

theorem fstep_any (A : Arr) (s : Int) (w : World) :
    Calls Try.prog 32 #[.agg (arC A), .int .i64 s] w fun e w' => e = .returned (.int .i64 (if A.stride = 0 then s else A.stride)) ∧ Ext w w' := by
  unfold arC
  obtain ⟨sz, kd, nz, sr, of⟩ := A
  simp only at *
  by_cases h0 : sr = 0
  · rw [if_pos h0]
    have d : (sr != 0) = false := by simp [h0]
    go_enter Try.func32, Try.ntmps32
    go_wp2
    go_ret
    exact ⟨rfl, (Ext.refl w).alloc _⟩
  · rw [if_neg h0]
    have d : (sr != 0) = true := by simp [h0]
    go_enter Try.func32, Try.ntmps32
    go_wp2
    go_ret
    exact ⟨rfl, (Ext.refl w).alloc _⟩

end Go.Proofs.Ytmigakbccmkjoaa
