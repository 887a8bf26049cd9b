/-
  Codes as bytes: numbers that a Reader gives one by one; the walk of instrIn. What the dump lacks is left out.
-/
import Derived.Test.YtfoffnbkfnbglaaCH
import Derived.Test.YtfoffnbkfnbglaaW3
namespace Go.Proofs.Ytfoffnbkfnbglaa
open Go.RowKit
set_option linter.unusedVariables false
set_option linter.unusedSimpArgs false

/-- Where a Reader stands behind k numbers, and its error. -/
def rdS (bs : List Int) (p : Nat) (err : Int) : Nat → Nat × Int
  | 0 => (p, err)
  | k + 1 => ((took bs (rdS bs p err k).1 (rdS bs p err k).2 4).2.1, (took bs (rdS bs p err k).1 (rdS bs p err k).2 4).2.2)
/-- The number k that it gives. -/
def rdV (bs : List Int) (p : Nat) (err : Int) (k : Nat) : Int := numOf (took bs (rdS bs p err k).1 (rdS bs p err k).2 4).1
/-- The number at a place of bytes. -/
def numA (bs : List Int) (p : Nat) : Int := numOf ((bs.drop p).take 4)
theorem rd_full (bs : List Int) (p : Nat) : ∀ k, p + 4 * k ≤ bs.length → rdS bs p 0 k = (p + 4 * k, 0)
  | 0, _ => rfl
  | k + 1, h => by
    have ih := rd_full bs p k (by omega)
    rw [rdS, ih]
    simp only
    rw [took_full (by omega) (by omega)]
    simp
    omega
theorem rdV_full (bs : List Int) (p k : Nat) (h : p + 4 * (k + 1) ≤ bs.length) : rdV bs p 0 k = numA bs (p + 4 * k) := by
  rw [rdV, rd_full bs p k (by omega)]
  simp only
  rw [took_full (by omega) (by omega)]
  rfl
theorem rd_err (bs : List Int) (p : Nat) (err : Int) (he : err ≠ 0) : ∀ k, rdS bs p err k = (p, err)
  | 0 => rfl
  | k + 1 => by
    have ih := rd_err bs p err he k
    rw [rdS, ih]
    simp only
    rw [took_err he]
/-- Too few bytes: behind k numbers there is an error. -/
theorem rd_short (bs : List Int) (p : Nat) : ∀ k, p ≤ bs.length → bs.length < p + 4 * k → (rdS bs p 0 k).2 ≠ 0
  | 0, h1, h2 => by omega
  | k + 1, h1, h2 => by
    by_cases h : p + 4 * k ≤ bs.length
    · rw [rdS, rd_full bs p k h]
      simp only
      rw [took_short (by omega) (by omega)]
      show (7 : Int) ≠ 0
      decide
    · have ih := rd_short bs p k h1 (by omega)
      rw [rdS, took_err ih]
      exact ih
theorem rdV_in (bs : List Int) (p : Nat) (err : Int) (k : Nat) (hB : Byt bs) : 0 ≤ rdV bs p err k ∧ rdV bs p err k < 4294967296 :=
  numOf_le _ (took_byt hB) 4 (by have := took_len (bs := bs) (p := (rdS bs p err k).1) (err := (rdS bs p err k).2) (n := 4); omega)

def rowK (V : Nat → Int) (k : Nat) : Array Value := #[.int .u32 (if 0 < k then V 0 else 0), .int .u32 (if 1 < k then V 1 else 0), .int .u32 (if 2 < k then V 2 else 0), .int .u32 (if 3 < k then V 3 else 0), .int .u32 (if 4 < k then V 4 else 0), .int .u32 (if 5 < k then V 5 else 0), .int .u32 (if 6 < k then V 6 else 0), .int .u32 (if 7 < k then V 7 else 0), .int .u32 (if 8 < k then V 8 else 0), .int .u32 (if 9 < k then V 9 else 0), .int .u32 (if 10 < k then V 10 else 0), .int .u32 (if 11 < k then V 11 else 0), .int .u32 (if 12 < k then V 12 else 0), .int .u32 (if 13 < k then V 13 else 0), .int .u32 (if 14 < k then V 14 else 0), .int .u32 (if 15 < k then V 15 else 0)]
theorem rowK_get (V : Nat → Int) (k : Nat) (hk : k < 16) : (rowK V k)[k]? = some (.int .u32 0) := by
  rcases (by omega : k = 0 ∨ k = 1 ∨ k = 2 ∨ k = 3 ∨ k = 4 ∨ k = 5 ∨ k = 6 ∨ k = 7 ∨ k = 8 ∨ k = 9 ∨ k = 10 ∨ k = 11 ∨ k = 12 ∨ k = 13 ∨ k = 14 ∨ k = 15) with rfl | rfl | rfl | rfl | rfl | rfl | rfl | rfl | rfl | rfl | rfl | rfl | rfl | rfl | rfl | rfl <;> simp [rowK]
theorem rowK_set (V : Nat → Int) (k : Nat) (hk : k < 16) : (rowK V k).setIfInBounds k (.int .u32 (V k)) = rowK V (k + 1) := by
  rcases (by omega : k = 0 ∨ k = 1 ∨ k = 2 ∨ k = 3 ∨ k = 4 ∨ k = 5 ∨ k = 6 ∨ k = 7 ∨ k = 8 ∨ k = 9 ∨ k = 10 ∨ k = 11 ∨ k = 12 ∨ k = 13 ∨ k = 14 ∨ k = 15) with rfl | rfl | rfl | rfl | rfl | rfl | rfl | rfl | rfl | rfl | rfl | rfl | rfl | rfl | rfl | rfl <;> simp [rowK]
theorem rowK_at (V : Nat → Int) (k : Nat) (hk : k < 16) : (rowK V 16)[k]? = some (.int .u32 (V k)) := by
  rcases (by omega : k = 0 ∨ k = 1 ∨ k = 2 ∨ k = 3 ∨ k = 4 ∨ k = 5 ∨ k = 6 ∨ k = 7 ∨ k = 8 ∨ k = 9 ∨ k = 10 ∨ k = 11 ∨ k = 12 ∨ k = 13 ∨ k = 14 ∨ k = 15) with rfl | rfl | rfl | rfl | rfl | rfl | rfl | rfl | rfl | rfl | rfl | rfl | rfl | rfl | rfl | rfl <;> simp [rowK]
/-- A number of 32 bits, with its sign. -/
def sg (x : Int) : Int := IntKind.i32.wrap x
def inK (V : Nat → Int) (a b : Nat) : Array Value := #[.int .i64 (V 0), .int .i64 (V 1), .int .i64 (V 2), .int .i64 (V 3), .int .i64 (V 4), .int .i64 (V 5), .int .i64 (V 6), .int .i64 (V 7), .int .i32 (if 0 < a then sg (V 8) else 0), .int .i32 (if 1 < a then sg (V 9) else 0), .int .i32 (if 2 < a then sg (V 10) else 0), .int .i32 (if 3 < a then sg (V 11) else 0), .int .i64 (if 0 < b then V 12 else 0), .int .i64 (if 1 < b then V 13 else 0), .int .i64 (if 2 < b then V 14 else 0), .int .i64 (if 3 < b then V 15 else 0)]
/-- The instruction of sixteen numbers of 32 bits. -/
def ofV (V : Nat → Int) (j : Nat) : Int := if 8 ≤ j ∧ j < 12 then sg (V j) else V j
theorem inK_all (V : Nat → Int) : inK V 4 4 = insA (ofV V) := by simp [inK, insA, ofV]
theorem size16u : (Try.prog.info? 93).map (·.size) = some 16 := by kernel_rfl
theorem Rd.past {w w' : World} {rb r : Nat} {sv : Value} {bs : List Int} {p : Nat} {err : Int} (h : Rd w rb sv bs p err) (hg : w.grownBy w' (some r)) (hne : rb ≠ r) (hno : ∀ i n, w.cell? ⟨r, i, none⟩ ≠ some (.int .u8 n)) : Rd w' rb sv bs p err :=
  ⟨by rw [hg.block rb h.lt (by simpa using hne)]; exact h.blk, h.row.grown hg hno, h.le, h.len, h.byt⟩
theorem grown_tr {a b c : World} {r : Nat} (h : a.grownBy b (some r)) (k : b.grownBy c (some r)) : a.grownBy c (some r) :=
  ⟨k.os.trans h.os, k.tape.trans h.tape, k.output.trans h.output, Nat.le_trans h.size k.size, fun i hi hne => (k.block i (Nat.lt_of_lt_of_le hi h.size) hne).trans (h.block i hi hne)⟩
theorem grownBy_row (w : World) (b : Nat) (cs : Array Value) : w.grownBy (w.setRow b cs) (some b) := ⟨rfl, rfl, rfl, by simp [World.setRow], fun k _ hk => setRow_other _ _ _ _ (by simpa using hk)⟩
/-- All that lay in w but the block rb lies as it lay. -/
def But (w : World) (rb : Nat) (w' : World) : Prop := w.grownBy w' (some rb)

set_option maxRecDepth 100000 in
set_option maxHeartbeats 4000000 in
theorem instrIn_any {w : World} {rb : Nat} {sv : Value} {bs : List Int} {p : Nat} {err : Int} (h : Rd w rb sv bs p err) :
    Calls Try.prog 41 #[.pointer (some ⟨rb, 0, none⟩)] w fun e w' => e = .returned (.agg (insA (ofV (rdV bs p err)))) ∧ Rd w' rb sv bs (rdS bs p err 16).1 (rdS bs p err 16).2 ∧ But w rb w' := by
  have HB := hide h.byt
  have HV := hide (rdV_in bs p err · h.byt)
  have hlt := h.lt
  have H0 : Hid (Rd ((w.alloc (.cells #[.int .i64 0, .int .i64 0, .int .i64 0, .int .i64 0, .int .i64 0, .int .i64 0, .int .i64 0, .int .i64 0, .int .i32 0, .int .i32 0, .int .i32 0, .int .i32 0, .int .i64 0, .int .i64 0, .int .i64 0, .int .i64 0] 39)).alloc (.cells #[.int .u32 0, .int .u32 0, .int .u32 0, .int .u32 0, .int .u32 0, .int .u32 0, .int .u32 0, .int .u32 0, .int .u32 0, .int .u32 0, .int .u32 0, .int .u32 0, .int .u32 0, .int .u32 0, .int .u32 0, .int .u32 0] 93)) rb sv bs (rdS bs p err 0).1 (rdS bs p err 0).2) := h.below (((Below.refl _ _).alloc (Nat.le_refl _) _).alloc (by simp) _)
  have HR : Hid (Blk ((w.alloc (.cells #[.int .i64 0, .int .i64 0, .int .i64 0, .int .i64 0, .int .i64 0, .int .i64 0, .int .i64 0, .int .i64 0, .int .i32 0, .int .i32 0, .int .i32 0, .int .i32 0, .int .i64 0, .int .i64 0, .int .i64 0, .int .i64 0] 39)).alloc (.cells #[.int .u32 0, .int .u32 0, .int .u32 0, .int .u32 0, .int .u32 0, .int .u32 0, .int .u32 0, .int .u32 0, .int .u32 0, .int .u32 0, .int .u32 0, .int .u32 0, .int .u32 0, .int .u32 0, .int .u32 0, .int .u32 0] 93)) w.heap.size #[.int .i64 0, .int .i64 0, .int .i64 0, .int .i64 0, .int .i64 0, .int .i64 0, .int .i64 0, .int .i64 0, .int .i32 0, .int .i32 0, .int .i32 0, .int .i32 0, .int .i64 0, .int .i64 0, .int .i64 0, .int .i64 0] 39) := (Blk.new w _ _).alloc _
  have HW : Hid (Blk ((w.alloc (.cells #[.int .i64 0, .int .i64 0, .int .i64 0, .int .i64 0, .int .i64 0, .int .i64 0, .int .i64 0, .int .i64 0, .int .i32 0, .int .i32 0, .int .i32 0, .int .i32 0, .int .i64 0, .int .i64 0, .int .i64 0, .int .i64 0] 39)).alloc (.cells #[.int .u32 0, .int .u32 0, .int .u32 0, .int .u32 0, .int .u32 0, .int .u32 0, .int .u32 0, .int .u32 0, .int .u32 0, .int .u32 0, .int .u32 0, .int .u32 0, .int .u32 0, .int .u32 0, .int .u32 0, .int .u32 0] 93)) (w.heap.size + 1) (rowK (rdV bs p err) 0) 93) := Blk.here (by simp)
  have HG : Hid (But w rb ((w.alloc (.cells #[.int .i64 0, .int .i64 0, .int .i64 0, .int .i64 0, .int .i64 0, .int .i64 0, .int .i64 0, .int .i64 0, .int .i32 0, .int .i32 0, .int .i32 0, .int .i32 0, .int .i64 0, .int .i64 0, .int .i64 0, .int .i64 0] 39)).alloc (.cells #[.int .u32 0, .int .u32 0, .int .u32 0, .int .u32 0, .int .u32 0, .int .u32 0, .int .u32 0, .int .u32 0, .int .u32 0, .int .u32 0, .int .u32 0, .int .u32 0, .int .u32 0, .int .u32 0, .int .u32 0, .int .u32 0] 93))) := ⟨rfl, rfl, rfl, by simp; omega, fun i hi _ => (((Ext.refl w).alloc _).alloc _).block i hi⟩
  clear h
  generalize hV : rdV bs p err = V at *
  have EV : Hid (∀ k, V k = numOf (took bs (rdS bs p err k).1 (rdS bs p err k).2 4).1) := fun k => by rw [← hV]; rfl
  clear hV
  go_enter Try.func41, Try.ntmps41
  go_wp2
  go_loopw [8] (fun iv wr => ∃ k : Nat, k ≤ 16 ∧ iv = .int .i64 (k : Int) ∧ Rd wr rb sv bs (rdS bs p err k).1 (rdS bs p err k).2 ∧ Blk wr w.heap.size #[.int .i64 0, .int .i64 0, .int .i64 0, .int .i64 0, .int .i64 0, .int .i64 0, .int .i64 0, .int .i64 0, .int .i32 0, .int .i32 0, .int .i32 0, .int .i32 0, .int .i64 0, .int .i64 0, .int .i64 0, .int .i64 0] 39 ∧ Blk wr (w.heap.size + 1) (rowK V k) 93 ∧ But w rb wr) (fun iv _ => 16 - (intOf iv).toNat)
  case atStart => exact ⟨0, by omega, rfl, unhide H0, unhide HR, unhide HW, unhide HG⟩
  case round =>
    clear H0 HR HW HG
    obtain ⟨k, hk, rfl, hrd, hb0, hb1, hbt⟩ := hrel
    by_cases hlt16 : k < 16
    · have hk16 : (k : Int) < 16 := by omega
      have HU := hide (u32_any hrd)
      rw [← unhide EV k] at HU
      have D := hide (And.intro hb0 (And.intro hb1 hbt))
      clear hrd hb0 hb1 hbt
      go_wp2_with (go_at_call 9999)
      refine (unhide HU).mono ?_
      rintro e w1 ⟨rfl, hrd1, hg1⟩
      have hb0' := (unhide D).1.grown hg1 (by omega)
      have hb1' := (unhide D).2.1.grown hg1 (by omega)
      have hbt' : But w rb w1 := grown_tr (unhide D).2.2 hg1
      have hcl := hb1'.cell (rowK_get V k hlt16)
      have hfr := hb1'.free k
      have hg2 := grownBy_set w1 (w.heap.size + 1) k (.int .u32 (V k))
      have HN : Hid (Rd (w1.setCell ⟨w.heap.size + 1, k, none⟩ (.int .u32 (V k))) rb sv bs (rdS bs p err (k + 1)).1 (rdS bs p err (k + 1)).2 ∧ Blk (w1.setCell ⟨w.heap.size + 1, k, none⟩ (.int .u32 (V k))) w.heap.size #[.int .i64 0, .int .i64 0, .int .i64 0, .int .i64 0, .int .i64 0, .int .i64 0, .int .i64 0, .int .i64 0, .int .i32 0, .int .i32 0, .int .i32 0, .int .i32 0, .int .i64 0, .int .i64 0, .int .i64 0, .int .i64 0] 39 ∧ Blk (w1.setCell ⟨w.heap.size + 1, k, none⟩ (.int .u32 (V k))) (w.heap.size + 1) (rowK V (k + 1)) 93 ∧ But w rb (w1.setCell ⟨w.heap.size + 1, k, none⟩ (.int .u32 (V k)))) :=
        ⟨hrd1.past hg2 (by omega) (hb1'.no (by simp [rowK])), hb0'.other _ _ (by omega), by rw [← rowK_set V k hlt16]; exact hb1'.set _ _, ⟨hbt'.os, hbt'.tape, hbt'.output, by have := hbt'.size; simpa using this, fun i hi hne => (heap_setCell_other _ _ _ _ (by simp; omega)).trans (hbt'.block i hi hne)⟩⟩
      clear hrd1 hg1 hb0' hb1' hbt' hg2 D
      go_wp2
      go_roundw
      case rel => exact ⟨k + 1, by omega, by go_num, unhide HN⟩
      case measure => simp [intOf]; omega
    · obtain rfl : k = 16 := by omega
      rw [show ((16 : Nat) : Int) = (16 : Int) from rfl]
      have hB5 : w.heap.size + 1 < wr.heap.size := hb1.lt
      have HRC : Hid (∀ (wx : World) (j : Nat), j < 16 → Blk wx (w.heap.size + 1) (rowK V 16) 93 → wx.cell? ⟨w.heap.size + 1, j, none⟩ = some (.int .u32 (V j))) := fun wx j hj hb => hb.cell (rowK_at V j hj)
      have hw : ∀ j, IntKind.i64.wrap (V j) = V j := fun j => by
        have := unhide HV j
        simp [IntKind.wrap, IntKind.bits, IntKind.signed]
        omega
      have r0 := unhide HRC wr 0 (by omega) hb1
      have r1 := unhide HRC wr 1 (by omega) hb1
      have r2 := unhide HRC wr 2 (by omega) hb1
      have r3 := unhide HRC wr 3 (by omega) hb1
      have r4 := unhide HRC wr 4 (by omega) hb1
      have r5 := unhide HRC wr 5 (by omega) hb1
      have r6 := unhide HRC wr 6 (by omega) hb1
      have r7 := unhide HRC wr 7 (by omega) hb1
      have HM : Hid (Rd (wr.alloc (.cells (inK V 0 0) 39)) rb sv bs (rdS bs p err 16).1 (rdS bs p err 16).2 ∧ Blk (wr.alloc (.cells (inK V 0 0) 39)) w.heap.size #[.int .i64 0, .int .i64 0, .int .i64 0, .int .i64 0, .int .i64 0, .int .i64 0, .int .i64 0, .int .i64 0, .int .i32 0, .int .i32 0, .int .i32 0, .int .i32 0, .int .i64 0, .int .i64 0, .int .i64 0, .int .i64 0] 39 ∧ Blk (wr.alloc (.cells (inK V 0 0) 39)) (w.heap.size + 1) (rowK V 16) 93 ∧ Blk (wr.alloc (.cells (inK V 0 0) 39)) wr.heap.size (inK V 0 0) 39 ∧ But w rb (wr.alloc (.cells (inK V 0 0) 39))) :=
        ⟨hrd.below ((Below.refl _ _).alloc (Nat.le_refl _) _), hb0.alloc _, hb1.alloc _, Blk.new _ _ _, ⟨hbt.os, hbt.tape, hbt.output, by have := hbt.size; simp; omega, fun i hi hne => (((Ext.refl wr).alloc _).block i (Nat.lt_of_lt_of_le hi hbt.size)).trans (hbt.block i hi hne)⟩⟩
      clear hrd hb0 hb1 hbt
      go_wp2_with (first
        | refine wpList_buildTo rfl 39 _ rfl (some 40) rfl (inK V 0 0) (by kernel_rfl) ?_
        | refine wpList_storeLast rfl 39 (.tmp 5) (.tmp 40) rfl _ wr.heap.size rfl rfl (inK V 0 0) rfl 16 size16 rfl rfl (by simp [inK, Value.oneCell']) ?_)
      clear r0 r1 r2 r3 r4 r5 r6 r7
      obtain ⟨B5, eB5⟩ : ∃ B5, wr.heap.size = B5 := ⟨_, rfl⟩
      rw [eB5] at HM hB5
      simp only [eB5]
      generalize wr.alloc (.cells (inK V 0 0) 39) = w5 at HM ⊢
      clear eB5
      go_loopw [41] (fun iv wq => ∃ k : Nat, k ≤ 4 ∧ iv = .int .i64 (k : Int) ∧ Rd wq rb sv bs (rdS bs p err 16).1 (rdS bs p err 16).2 ∧ Blk wq w.heap.size #[.int .i64 0, .int .i64 0, .int .i64 0, .int .i64 0, .int .i64 0, .int .i64 0, .int .i64 0, .int .i64 0, .int .i32 0, .int .i32 0, .int .i32 0, .int .i32 0, .int .i64 0, .int .i64 0, .int .i64 0, .int .i64 0] 39 ∧ Blk wq (w.heap.size + 1) (rowK V 16) 93 ∧ Blk wq B5 (inK V k 0) 39 ∧ But w rb wq) (fun iv _ => 4 - (intOf iv).toNat)
      case atStart => exact ⟨0, by omega, rfl, unhide HM⟩
      case round =>
        clear HM
        obtain ⟨k, hk, rfl, hD⟩ := hrel
        have D := hide hD
        obtain ⟨hrd, hb0, hb1, hb2, hbt⟩ := hD
        have HN : Hid (∀ (j : Nat) u, Rd (wr.setCell ⟨B5, j, none⟩ u) rb sv bs (rdS bs p err 16).1 (rdS bs p err 16).2 ∧ Blk (wr.setCell ⟨B5, j, none⟩ u) w.heap.size #[.int .i64 0, .int .i64 0, .int .i64 0, .int .i64 0, .int .i64 0, .int .i64 0, .int .i64 0, .int .i64 0, .int .i32 0, .int .i32 0, .int .i32 0, .int .i32 0, .int .i64 0, .int .i64 0, .int .i64 0, .int .i64 0] 39 ∧ Blk (wr.setCell ⟨B5, j, none⟩ u) (w.heap.size + 1) (rowK V 16) 93 ∧ Blk (wr.setCell ⟨B5, j, none⟩ u) B5 ((inK V k 0).setIfInBounds j u) 39 ∧ But w rb (wr.setCell ⟨B5, j, none⟩ u)) := fun j u =>
          ⟨hrd.past (grownBy_set _ _ _ _) (by omega) (hb2.no (by simp [inK])), hb0.other _ _ (by omega), hb1.other _ _ (by omega), hb2.set _ _, ⟨hbt.os, hbt.tape, hbt.output, by have := hbt.size; simpa using this, fun i hi hne => (heap_setCell_other _ _ _ _ (by simp; omega)).trans (hbt.block i hi hne)⟩⟩
        have HC : Hid (∀ j, j < 16 → wr.cell? ⟨w.heap.size + 1, j, none⟩ = some (.int .u32 (V j))) := fun j hj => unhide HRC wr j hj hb1
        have HF := hide (fun j => hb2.free j)
        have HB2 := hide hb2
        clear hrd hb0 hb1 hb2 hbt
        by_cases h4 : k = 4
        · subst h4
          rw [show ((4 : Nat) : Int) = (4 : Int) from rfl]
          go_wp2
          go_loopw [53] (fun iv wq => ∃ k : Nat, k ≤ 4 ∧ iv = .int .i64 (k : Int) ∧ Rd wq rb sv bs (rdS bs p err 16).1 (rdS bs p err 16).2 ∧ Blk wq w.heap.size #[.int .i64 0, .int .i64 0, .int .i64 0, .int .i64 0, .int .i64 0, .int .i64 0, .int .i64 0, .int .i64 0, .int .i32 0, .int .i32 0, .int .i32 0, .int .i32 0, .int .i64 0, .int .i64 0, .int .i64 0, .int .i64 0] 39 ∧ Blk wq (w.heap.size + 1) (rowK V 16) 93 ∧ Blk wq B5 (inK V 4 k) 39 ∧ But w rb wq) (fun iv _ => 4 - (intOf iv).toNat)
          case atStart => exact ⟨0, by omega, rfl, unhide D⟩
          case round =>
            clear D HN HC HF HB2
            obtain ⟨k, hk, rfl, hD⟩ := hrel
            have D := hide hD
            obtain ⟨hrd, hb0, hb1, hb2, hbt⟩ := hD
            have HN : Hid (∀ (j : Nat) u, Rd (wr.setCell ⟨B5, j, none⟩ u) rb sv bs (rdS bs p err 16).1 (rdS bs p err 16).2 ∧ Blk (wr.setCell ⟨B5, j, none⟩ u) w.heap.size #[.int .i64 0, .int .i64 0, .int .i64 0, .int .i64 0, .int .i64 0, .int .i64 0, .int .i64 0, .int .i64 0, .int .i32 0, .int .i32 0, .int .i32 0, .int .i32 0, .int .i64 0, .int .i64 0, .int .i64 0, .int .i64 0] 39 ∧ Blk (wr.setCell ⟨B5, j, none⟩ u) (w.heap.size + 1) (rowK V 16) 93 ∧ Blk (wr.setCell ⟨B5, j, none⟩ u) B5 ((inK V 4 k).setIfInBounds j u) 39 ∧ But w rb (wr.setCell ⟨B5, j, none⟩ u)) := fun j u =>
              ⟨hrd.past (grownBy_set _ _ _ _) (by omega) (hb2.no (by simp [inK])), hb0.other _ _ (by omega), hb1.other _ _ (by omega), hb2.set _ _, ⟨hbt.os, hbt.tape, hbt.output, by have := hbt.size; simpa using this, fun i hi hne => (heap_setCell_other _ _ _ _ (by simp; omega)).trans (hbt.block i hi hne)⟩⟩
            have HC : Hid (∀ j, j < 16 → wr.cell? ⟨w.heap.size + 1, j, none⟩ = some (.int .u32 (V j))) := fun j hj => unhide HRC wr j hj hb1
            have HF := hide (fun j => hb2.free j)
            have HB2 := hide hb2
            clear hrd hb0 hb1 hb2 hbt
            by_cases h4 : k = 4
            · subst h4
              have HE := hide (inK_all V)
              have H1 := hide (insA_one (ofV V))
              rw [unhide HE] at HB2
              go_wp2_with (first
                | refine wpList_load_row rfl 39 (.tmp 5) rfl B5 rfl 39 (insA (ofV V)) (0, 0) _ (unhide HB2) Try.underlying39 rfl size16 ?_
                | refine wpList_store_row rfl 39 (.tmp 2) (.tmp 65) rfl w.heap.size (insA (ofV V)) rfl rfl 39 _ (unhide D).2.1 size16 rfl (unhide H1) ?_)
              refine bodyPost_ret (v := .agg (insA (ofV V))) (results_cell_row Try.results41 _ _ w.heap.size 39 _ (0, 0) _ rfl ((unhide D).2.1.rowC) Try.underlying39 rfl size16) rfl ⟨rfl, ?_, ?_⟩
              · exact (unhide D).1.past (grownBy_row _ _ _) (by omega) ((unhide D).2.1.no (by simp))
              · exact ⟨(unhide D).2.2.2.2.os, (unhide D).2.2.2.2.tape, (unhide D).2.2.2.2.output, by have := (unhide D).2.2.2.2.size; simpa [World.setRow] using this, fun i hi hne => (setRow_other _ _ _ _ (by omega)).trans ((unhide D).2.2.2.2.block i hi hne)⟩
            · rcases (by omega : k = 0 ∨ k = 1 ∨ k = 2 ∨ k = 3) with rfl | rfl | rfl | rfl
              · have hrc := unhide HC 12 (by omega)
                have hcl : wr.cell? ⟨B5, 12, none⟩ = some (.int .i64 0) := (unhide HB2).cell (by simp [inK])
                have hfr := unhide HF 12
                have HE : Hid ((inK V 4 0).setIfInBounds 12 (.int .i64 (V 12)) = inK V 4 (0 + 1)) := by simp [Hid, inK]
                go_wp2
                go_roundw
                case rel =>
                  refine ⟨0 + 1, by omega, rfl, (unhide HN _ _).1, (unhide HN _ _).2.1, (unhide HN _ _).2.2.1, ?_, (unhide HN _ _).2.2.2.2⟩
                  rw [← unhide HE]
                  exact (unhide HN _ _).2.2.2.1
                case measure => simp [intOf]
              · have hrc := unhide HC 13 (by omega)
                have hcl : wr.cell? ⟨B5, 13, none⟩ = some (.int .i64 0) := (unhide HB2).cell (by simp [inK])
                have hfr := unhide HF 13
                have HE : Hid ((inK V 4 1).setIfInBounds 13 (.int .i64 (V 13)) = inK V 4 (1 + 1)) := by simp [Hid, inK]
                go_wp2
                go_roundw
                case rel =>
                  refine ⟨1 + 1, by omega, rfl, (unhide HN _ _).1, (unhide HN _ _).2.1, (unhide HN _ _).2.2.1, ?_, (unhide HN _ _).2.2.2.2⟩
                  rw [← unhide HE]
                  exact (unhide HN _ _).2.2.2.1
                case measure => simp [intOf]
              · have hrc := unhide HC 14 (by omega)
                have hcl : wr.cell? ⟨B5, 14, none⟩ = some (.int .i64 0) := (unhide HB2).cell (by simp [inK])
                have hfr := unhide HF 14
                have HE : Hid ((inK V 4 2).setIfInBounds 14 (.int .i64 (V 14)) = inK V 4 (2 + 1)) := by simp [Hid, inK]
                go_wp2
                go_roundw
                case rel =>
                  refine ⟨2 + 1, by omega, rfl, (unhide HN _ _).1, (unhide HN _ _).2.1, (unhide HN _ _).2.2.1, ?_, (unhide HN _ _).2.2.2.2⟩
                  rw [← unhide HE]
                  exact (unhide HN _ _).2.2.2.1
                case measure => simp [intOf]
              · have hrc := unhide HC 15 (by omega)
                have hcl : wr.cell? ⟨B5, 15, none⟩ = some (.int .i64 0) := (unhide HB2).cell (by simp [inK])
                have hfr := unhide HF 15
                have HE : Hid ((inK V 4 3).setIfInBounds 15 (.int .i64 (V 15)) = inK V 4 (3 + 1)) := by simp [Hid, inK]
                go_wp2
                go_roundw
                case rel =>
                  refine ⟨3 + 1, by omega, rfl, (unhide HN _ _).1, (unhide HN _ _).2.1, (unhide HN _ _).2.2.1, ?_, (unhide HN _ _).2.2.2.2⟩
                  rw [← unhide HE]
                  exact (unhide HN _ _).2.2.2.1
                case measure => simp [intOf]
        · rcases (by omega : k = 0 ∨ k = 1 ∨ k = 2 ∨ k = 3) with rfl | rfl | rfl | rfl
          · have hrc := unhide HC 8 (by omega)
            have hcl : wr.cell? ⟨B5, 8, none⟩ = some (.int .i32 0) := (unhide HB2).cell (by simp [inK])
            have hfr := unhide HF 8
            have hsg : IntKind.i32.wrap (V 8) = sg (V 8) := rfl
            have HE : Hid ((inK V 0 0).setIfInBounds 8 (.int .i32 (sg (V 8))) = inK V (0 + 1) 0) := by simp [Hid, inK]
            go_wp2
            go_roundw
            case rel =>
              refine ⟨0 + 1, by omega, rfl, (unhide HN _ _).1, (unhide HN _ _).2.1, (unhide HN _ _).2.2.1, ?_, (unhide HN _ _).2.2.2.2⟩
              rw [← unhide HE]
              exact (unhide HN _ _).2.2.2.1
            case measure => simp [intOf]
          · have hrc := unhide HC 9 (by omega)
            have hcl : wr.cell? ⟨B5, 9, none⟩ = some (.int .i32 0) := (unhide HB2).cell (by simp [inK])
            have hfr := unhide HF 9
            have hsg : IntKind.i32.wrap (V 9) = sg (V 9) := rfl
            have HE : Hid ((inK V 1 0).setIfInBounds 9 (.int .i32 (sg (V 9))) = inK V (1 + 1) 0) := by simp [Hid, inK]
            go_wp2
            go_roundw
            case rel =>
              refine ⟨1 + 1, by omega, rfl, (unhide HN _ _).1, (unhide HN _ _).2.1, (unhide HN _ _).2.2.1, ?_, (unhide HN _ _).2.2.2.2⟩
              rw [← unhide HE]
              exact (unhide HN _ _).2.2.2.1
            case measure => simp [intOf]
          · have hrc := unhide HC 10 (by omega)
            have hcl : wr.cell? ⟨B5, 10, none⟩ = some (.int .i32 0) := (unhide HB2).cell (by simp [inK])
            have hfr := unhide HF 10
            have hsg : IntKind.i32.wrap (V 10) = sg (V 10) := rfl
            have HE : Hid ((inK V 2 0).setIfInBounds 10 (.int .i32 (sg (V 10))) = inK V (2 + 1) 0) := by simp [Hid, inK]
            go_wp2
            go_roundw
            case rel =>
              refine ⟨2 + 1, by omega, rfl, (unhide HN _ _).1, (unhide HN _ _).2.1, (unhide HN _ _).2.2.1, ?_, (unhide HN _ _).2.2.2.2⟩
              rw [← unhide HE]
              exact (unhide HN _ _).2.2.2.1
            case measure => simp [intOf]
          · have hrc := unhide HC 11 (by omega)
            have hcl : wr.cell? ⟨B5, 11, none⟩ = some (.int .i32 0) := (unhide HB2).cell (by simp [inK])
            have hfr := unhide HF 11
            have hsg : IntKind.i32.wrap (V 11) = sg (V 11) := rfl
            have HE : Hid ((inK V 3 0).setIfInBounds 11 (.int .i32 (sg (V 11))) = inK V (3 + 1) 0) := by simp [Hid, inK]
            go_wp2
            go_roundw
            case rel =>
              refine ⟨3 + 1, by omega, rfl, (unhide HN _ _).1, (unhide HN _ _).2.1, (unhide HN _ _).2.2.1, ?_, (unhide HN _ _).2.2.2.2⟩
              rw [← unhide HE]
              exact (unhide HN _ _).2.2.2.1
            case measure => simp [intOf]
end Go.Proofs.Ytfoffnbkfnbglaa
