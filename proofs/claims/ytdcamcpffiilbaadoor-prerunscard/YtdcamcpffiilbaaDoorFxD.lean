/-
  The walks of fix.Parse: a text's bytes, taken one by one into a decimal; its number.
-/
import Derived.Test.YtdcamcpffiilbaaDoorFxB
import Derived.Test.YtdcamcpffiilbaaDoorBlk
import Derived.Lib.OthersKept
import Derived.Laws.RangeAny
import Derived.Deep.QuietTactic
import Derived.BigQuiet
import Derived.Deep.RegionWith
import Derived.WalkMore
import Derived.WalkSmall
namespace Go.Proofs.YtdcamcpffiilbaaDoor
open Go.RowKit
set_option linter.unusedSimpArgs false
set_option linter.unusedVariables false

theorem grownBy_tr {a w w' : World} {row : Option Nat} (h : a.grownBy w row) (k : w.grownBy w' row) : a.grownBy w' row :=
  ⟨k.os.trans h.os, k.tape.trans h.tape, k.output.trans h.output, Nat.le_trans h.size k.size, fun i hi hn => (k.block i (Nat.lt_of_lt_of_le hi h.size) hn).trans (h.block i hi hn)⟩

/-- What has been read of a number's text. -/
structure Dec where
  minus : Bool
  digits : Bool
  point : Bool
  whole : Int
  part : Int
  unit : Int

def Dec.cells (d : Dec) : Array Value := #[.bool d.minus, .bool d.digits, .bool d.point, .int .i64 d.whole, .int .i64 d.part, .int .i64 d.unit]
def Dec.ok (d : Dec) : Prop := 0 ≤ d.whole ∧ d.whole ≤ 65536 ∧ 0 ≤ d.part ∧ 0 ≤ d.unit ∧ d.part + d.unit ≤ 100000000000000000
def Dec.start : Dec := ⟨false, false, false, 0, 0, 100000000000000000⟩
/-- One more digit. -/
def Dec.digit (d : Dec) (n : Int) : Dec :=
  if d.point then { d with digits := true, unit := d.unit / 10, part := d.part + n * (d.unit / 10) } else { d with digits := true, whole := clampI (10 * d.whole + n) 0 65536 }
def Dec.size (d : Dec) : Int := d.whole * 65536 + (d.part + 762939453125) / 1525878906250
def Dec.number (d : Dec) : Int := rawI (if d.minus then -d.size else d.size)

theorem Dec.start_ok : Dec.start.ok := by unfold Dec.ok Dec.start; simp
theorem Dec.digit_ok {d : Dec} {n : Int} (h : d.ok) (h0 : 0 ≤ n) (h9 : n ≤ 9) : (d.digit n).ok := by
  obtain ⟨m, g, p, W, P, U⟩ := d
  unfold Dec.ok at *
  unfold Dec.digit
  simp only at *
  have hm : n * (U / 10) ≤ 9 * (U / 10) := Int.mul_le_mul_of_nonneg_right h9 (by omega)
  have hm0 : 0 ≤ n * (U / 10) := Int.mul_nonneg h0 (by omega)
  cases p
  · simp only [Bool.false_eq_true, if_false]
    unfold clampI
    omega
  · simp only [if_true]
    omega

theorem digit_any (b : Nat) (d : Dec) (n : Int) (w : World) (hd : Blk w b d.cells 98) (h : d.ok) (h0 : 0 ≤ n) (h9 : n ≤ 9) :
    Calls Tryd.prog 84 #[.pointer (some ⟨b, 0, none⟩), .int .i64 n] w fun e w' => e = .returned (.tuple #[]) ∧ Blk w' b (d.digit n).cells 98 ∧ w.grownBy w' (some b) := by
  obtain ⟨m, g, p, W, P, U⟩ := d
  unfold Dec.ok at h
  simp only at h
  have hm : n * (U / 10) ≤ 9 * (U / 10) := Int.mul_le_mul_of_nonneg_right h9 (by omega)
  have hm0 : 0 ≤ n * (U / 10) := Int.mul_nonneg h0 (by omega)
  have D := hide hd
  have c1 : w.cell? ⟨b, 1, none⟩ = some (.bool g) := hd.cell rfl
  have c2 : w.cell? ⟨b, 2, none⟩ = some (.bool p) := hd.cell rfl
  have c3 : w.cell? ⟨b, 3, none⟩ = some (.int .i64 W) := hd.cell rfl
  have c4 : w.cell? ⟨b, 4, none⟩ = some (.int .i64 P) := hd.cell rfl
  have c5 : w.cell? ⟨b, 5, none⟩ = some (.int .i64 U) := hd.cell rfl
  have fz := fun i => hd.free i
  clear hd
  cases p
  · go_enter Tryd.func84, Tryd.ntmps84
    go_wp2_with fail
    refine (within64_any _ _ _ _).mono ?_
    rintro e w1 ⟨rfl, rfl⟩
    go_wp2
    refine bodyPost_ret (v := .tuple #[]) (by simp [results, Tryd.results84, go_sem]) rfl ?_
    refine ⟨rfl, ?_, grownBy_tr (grownBy_set _ _ _ _) (grownBy_set _ _ _ _)⟩
    exact ((unhide D).set 1 (.bool true)).set 3 _
  · go_enter Tryd.func84, Tryd.ntmps84
    go_wp2
    go_region
    go_end0
    refine ⟨rfl, ?_, grownBy_tr (grownBy_set w b 1 (.bool true)) (grownBy_tr (grownBy_set _ b 5 (.int .i64 (U / 10))) ?_)⟩
    · exact (((unhide D).set 1 (.bool true)).set 5 (.int .i64 (U / 10))).set 4 (.int .i64 (P + n * (U / 10)))
    · exact grownBy_tr (grownBy_set _ b 4 (.int .i64 (P + n * (U / 10)))) ⟨rfl, rfl, rfl, Nat.le_refl _, fun _ _ _ => rfl⟩

theorem number_any (b : Nat) (d : Dec) (w : World) (hd : Blk w b d.cells 98) (h : d.ok) :
    Calls Tryd.prog 77 #[.pointer (some ⟨b, 0, none⟩)] w fun e w' => e = .returned (.int .i32 d.number) ∧ ∃ k, w' = w.drewN k := by
  obtain ⟨m, g, p, W, P, U⟩ := d
  unfold Dec.ok at h
  simp only at h
  have c0 : w.cell? ⟨b, 0, none⟩ = some (.bool m) := hd.cell rfl
  have c3 : w.cell? ⟨b, 3, none⟩ = some (.int .i64 W) := hd.cell rfl
  have c4 : w.cell? ⟨b, 4, none⟩ = some (.int .i64 P) := hd.cell rfl
  clear hd
  go_enter Tryd.func77, Tryd.ntmps77
  go_wp2
  go_quiet (first | (go_at_call 85; refine Calls.quiet_of_same (nearest_any _ _ _ (by omega) (by omega) (by omega) (by omega))))
  have hN : 0 ≤ (P + 762939453125) / 1525878906250 ∧ (P + 762939453125) / 1525878906250 ≤ 65536 := by omega
  cases m
  · go_wp2_with fail
    refine (raw_any _ _).mono ?_
    rintro e w1 ⟨rfl, rfl⟩
    go_wp2
    go_ret
    exact ⟨by simp [Dec.number, Dec.size], _, rfl⟩
  · go_wp2_with fail
    refine (raw_any _ _).mono ?_
    rintro e w1 ⟨rfl, rfl⟩
    go_wp2
    go_ret
    exact ⟨by simp [Dec.number, Dec.size], _, rfl⟩

/-- What is read of the bytes l ('first': they stand at the text's head): whether all were good, and the decimal. -/
def scan : List UInt8 → Bool → Dec → Bool × Dec
  | [], _, d => (true, d)
  | c :: l, first, d =>
    if c = 45 ∧ first = true then scan l false { d with minus := true }
    else if c = 46 ∧ d.point = false then scan l false { d with point := true }
    else if 48 ≤ c.toNat ∧ c.toNat ≤ 57 then scan l false (d.digit (c.toNat - 48))
    else (false, d)

theorem drop_next (s : ByteArray) (pos : Nat) (h : pos < s.size) : s.data.toList.drop pos = s[pos] :: s.data.toList.drop (pos + 1) := by
  have h' : pos < s.data.toList.length := by simpa using h
  rw [List.drop_eq_getElem_cons h']
  rfl

theorem grownBy_of_ext {w w' : World} {r : Option Nat} (h : Ext w w') : w.grownBy w' r := ⟨h.os, h.tape, h.output, h.size, fun i hi _ => h.block i hi⟩
theorem grownBy_iterAt {a w : World} {b k : Nat} {s : ByteArray} {pos : Nat} (h : a.grownBy w (some b)) (hk : a.heap.size ≤ k) : a.grownBy (w.iterAt k s pos) (some b) :=
  ⟨h.os, h.tape, h.output, by rw [Lib.iterAt_size]; exact h.size, fun i hi hn => (Lib.iterAt_other w k i s pos (by omega)).trans (h.block i hi hn)⟩
theorem Blk.iterAt {w : World} {b k : Nat} {cs : Array Value} {t : TypeId} {s : ByteArray} {pos : Nat} (h : Blk w b cs t) (hne : b ≠ k) : Blk (w.iterAt k s pos) b cs t := (Lib.iterAt_other w k b s pos hne).trans h

set_option maxHeartbeats 2000000 in
theorem read_any (b : Nat) (d0 : Dec) (s : ByteArray) (w : World) (hd : Blk w b d0.cells 98) (h : d0.ok) :
    Calls Tryd.prog 76 #[.pointer (some ⟨b, 0, none⟩), .string s] w fun e w' =>
      e = .returned (.bool ((scan s.data.toList true d0).1 && (scan s.data.toList true d0).2.digits)) ∧ Blk w' b (scan s.data.toList true d0).2.cells 98 ∧ (scan s.data.toList true d0).2.ok ∧ w.grownBy w' (some b) := by
  have hbl := hd.lt
  have D := hide (And.intro hd h)
  clear hd h
  go_enter Tryd.func76, Tryd.ntmps76
  go_wp2
  go_step3
  go_wp2
  go_step3
  go_wp2
  go_loopw [5] (fun g wr => g = .bool true ∧ ∃ (pos : Nat) (d : Dec), wr.heap[w.heap.size]? = some (.stringIter s pos) ∧ Blk wr b d.cells 98 ∧ d.ok ∧ w.grownBy wr (some b) ∧ scan (s.data.toList.drop pos) (pos == 0) d = scan s.data.toList true d0) (fun _ wr => s.size - wr.iterPos w.heap.size)
  case atStart =>
    obtain ⟨hd, h⟩ := unhide D
    exact ⟨rfl, 0, d0, World.iter_heap w s 0, hd.alloc _, h, grownBy_of_ext ((Ext.refl w).alloc _), rfl⟩
  case round =>
    obtain ⟨rfl, pos, d, hit, hd, hok, hg, hsc⟩ := hrel
    have H := hide (And.intro hit (And.intro hd (And.intro hok (And.intro hg hsc))))
    by_cases hp : pos < s.size
    · by_cases ha : (s[pos]'hp).toNat < 128
      · have hnx : ∀ ty, (Instr.next (.pointer (some ⟨w.heap.size, 0, none⟩)) true ty).run Tryd.prog wr = _ := fun ty => Lib.run_next_ascii_at wr w.heap.size s pos ty hit hp ha
        have hpos : wr.iterPos w.heap.size = pos := by simp [World.iterPos, hit]
        have hit2 := Lib.iterAt_heap wr w.heap.size s pos (pos + 1) hit
        have hd2 := hd.iterAt (k := w.heap.size) (s := s) (pos := pos + 1) (by omega)
        have hg2 := grownBy_iterAt (k := w.heap.size) (s := s) (pos := pos + 1) hg (Nat.le_refl _)
        have hsc2 : scan (s[pos] :: s.data.toList.drop (pos + 1)) (pos == 0) d = scan s.data.toList true d0 := by rw [← hsc, drop_next s pos hp]
        have hc : ∀ n : Nat, n < 256 → (s[pos] = UInt8.ofNat n ↔ (s[pos]'hp).toNat = n) := by
          intro n hn
          constructor
          · intro e; rw [e]; simp; omega
          · intro e; rw [← e]; simp
        have h45 := hc 45 (by omega)
        have h46 := hc 46 (by omega)
        clear hc
        generalize s[pos] = c at *
        generalize hr : c.toNat = r at *
        have HR := hide hr
        clear hr
        generalize wr.iterAt w.heap.size s (pos + 1) = w2 at *
        obtain ⟨m, g, p, W, P, U⟩ := d
        have c1 : w2.cell? ⟨b, 0, none⟩ = some (.bool m) := hd2.cell rfl
        have c2 : w2.cell? ⟨b, 2, none⟩ = some (.bool p) := hd2.cell rfl
        have f0 := hd2.free 0
        have f2 := hd2.free 2
        have H2 := hide (And.intro hit2 (And.intro hd2 (And.intro hg2 (And.intro hsc2 (And.intro h45 (And.intro h46 (And.intro hok hpos)))))))
        clear hit hd hok hg hsc H hit2 hd2 hg2 hsc2 h45 h46 hpos
        by_cases k1 : r = 45 ∧ pos = 0
        · obtain ⟨k1, k2⟩ := k1
          have t1 : ((r : Int) == 45) = true := by simp; omega
          have t2 : ((pos : Int) == 0) = true := by simp; omega
          have K := hide (And.intro k1 k2)
          clear k1 k2
          go_wp2
          go_roundw
          case rel =>
            obtain ⟨hit2, hd2, hg2, hsc2, h45, h46, hok, hpos⟩ := unhide H2
            obtain ⟨k1, k2⟩ := unhide K
            refine ⟨rfl, pos + 1, ⟨true, g, p, W, P, U⟩, (heap_setCell_other _ _ _ _ (by simp; omega)).trans hit2, hd2.set 0 (.bool true), hok, grownBy_tr hg2 (grownBy_set _ _ _ _), ?_⟩
            rw [← hsc2, scan, if_pos ⟨h45.2 k1, by simp [k2]⟩]
            rfl
          case measure =>
            obtain ⟨hit2, hd2, hg2, hsc2, h45, h46, hok, hpos⟩ := unhide H2
            rw [hpos]
            rw [iterPos_of ((heap_setCell_other _ ⟨b, 0, none⟩ _ _ (by simp; omega)).trans hit2)]
            omega
        · have t12 : (if ((r : Int) == 45) = true then ((pos : Int) == 0) else false) = false := by
            split
            · rename_i h; simp at h ⊢; omega
            · rfl
          by_cases k3 : r = 46 ∧ p = false
          · obtain ⟨k3, rfl⟩ := k3
            have t1 : ((r : Int) == 45) = false := by simp; omega
            have t3 : ((r : Int) == 46) = true := by simp; omega
            have K := hide k3
            clear k3 k1 t12
            go_wp2
            go_roundw
            case rel =>
              obtain ⟨hit2, hd2, hg2, hsc2, h45, h46, hok, hpos⟩ := unhide H2
              have k3 := unhide K
              refine ⟨rfl, pos + 1, ⟨m, g, true, W, P, U⟩, (heap_setCell_other _ _ _ _ (by simp; omega)).trans hit2, hd2.set 2 (.bool true), hok, grownBy_tr hg2 (grownBy_set _ _ _ _), ?_⟩
              rw [← hsc2, scan, if_neg (fun h => by have := h45.1 h.1; omega), if_pos ⟨h46.2 k3, rfl⟩]
              rfl
            case measure =>
              obtain ⟨hit2, hd2, hg2, hsc2, h45, h46, hok, hpos⟩ := unhide H2
              rw [hpos]
              rw [iterPos_of ((heap_setCell_other _ ⟨b, 2, none⟩ _ _ (by simp; omega)).trans hit2)]
              omega
          · have t34 : (if ((r : Int) == 46) = true then !p else false) = false := by
              split
              · rename_i h; simp at h ⊢; cases p; exact absurd ⟨by omega, rfl⟩ k3; rfl
              · rfl
            by_cases k5 : 48 ≤ r ∧ r ≤ 57
            · have t1 : ((r : Int) == 45) = false := by simp; omega
              have t3 : ((r : Int) == 46) = false := by simp; omega
              clear t12 t34 k1 k3
              obtain ⟨k5, k6⟩ := k5
              go_wp2_with fail
              refine (digit_any b _ _ _ (unhide H2).2.1 (unhide H2).2.2.2.2.2.2.1 (by omega) (by omega)).mono ?_
              rintro e w3 ⟨rfl, hd3, hg3⟩
              have H3 := hide (And.intro hd3 hg3)
              clear hd3 hg3
              go_wp2
              go_roundw
              case rel =>
                obtain ⟨hit2, hd2, hg2, hsc2, h45, h46, hok, hpos⟩ := unhide H2
                obtain ⟨hd3, hg3⟩ := unhide H3
                refine ⟨rfl, pos + 1, _, (hg3.block _ (Array.getElem?_eq_some_iff.1 hit2).1 (by simp; omega)).trans hit2, hd3, Dec.digit_ok hok (by omega) (by omega), grownBy_tr hg2 hg3, ?_⟩
                have hr := unhide HR
                rw [← hsc2, scan, if_neg (fun h => by have := h45.1 h.1; omega), if_neg (fun h => by have := h46.1 h.1; omega), if_pos (by omega)]
                simp [hr]
              case measure =>
                obtain ⟨hit2, hd2, hg2, hsc2, h45, h46, hok, hpos⟩ := unhide H2
                obtain ⟨hd3, hg3⟩ := unhide H3
                rw [hpos]
                rw [iterPos_of ((hg3.block _ (Array.getElem?_eq_some_iff.1 hit2).1 (by simp; omega)).trans hit2)]
                omega
            · have hbad : Hid (scan s.data.toList true d0 = (false, ⟨m, g, p, W, P, U⟩)) := by
                obtain ⟨hit2, hd2, hg2, hsc2, h45, h46, hok, hpos⟩ := unhide H2
                have hr := unhide HR
                show _ = _
                rw [← hsc2, scan, if_neg (fun h => by have := h45.1 h.1; exact k1 ⟨this, by simpa using h.2⟩), if_neg (fun h => k3 ⟨h46.1 h.1, h.2⟩), if_neg (by omega)]
              by_cases q1 : r = 45
              · have t1 : ((r : Int) == 45) = true := by simp; omega
                have t2 : ((pos : Int) == 0) = false := by simp; omega
                have t3 : ((r : Int) == 46) = false := by simp; omega
                have t5 : decide ((48 : Int) ≤ (r : Int)) = false := by simp; omega
                clear k1 k3 k5 t12 t34
                go_wp2
                rw [Exit.noGoto_ret]
                go_ret
                rw [unhide hbad]
                exact ⟨by simp, (unhide H2).2.1, (unhide H2).2.2.2.2.2.2.1, (unhide H2).2.2.1⟩
              · by_cases q2 : r = 46
                · have t1 : ((r : Int) == 45) = false := by simp; omega
                  have t3 : ((r : Int) == 46) = true := by simp; omega
                  have t4 : p = true := by cases p; exact absurd ⟨q2, rfl⟩ k3; rfl
                  have t5 : decide ((48 : Int) ≤ (r : Int)) = false := by simp; omega
                  subst t4
                  clear k1 k3 k5 t12 t34
                  go_wp2
                  rw [Exit.noGoto_ret]
                  go_ret
                  rw [unhide hbad]
                  exact ⟨by simp, (unhide H2).2.1, (unhide H2).2.2.2.2.2.2.1, (unhide H2).2.2.1⟩
                · by_cases q3 : r < 48
                  · have t1 : ((r : Int) == 45) = false := by simp; omega
                    have t3 : ((r : Int) == 46) = false := by simp; omega
                    have t5 : decide ((48 : Int) ≤ (r : Int)) = false := by simp; omega
                    clear k1 k3 k5 t12 t34
                    go_wp2
                    rw [Exit.noGoto_ret]
                    go_ret
                    rw [unhide hbad]
                    exact ⟨by simp, (unhide H2).2.1, (unhide H2).2.2.2.2.2.2.1, (unhide H2).2.2.1⟩
                  · have t1 : ((r : Int) == 45) = false := by simp; omega
                    have t3 : ((r : Int) == 46) = false := by simp; omega
                    have t5 : decide ((48 : Int) ≤ (r : Int)) = true := by simp; omega
                    have t6 : decide ((r : Int) ≤ 57) = false := by simp; omega
                    clear k1 k3 k5 t12 t34
                    go_wp2
                    rw [Exit.noGoto_ret]
                    go_ret
                    rw [unhide hbad]
                    exact ⟨by simp, (unhide H2).2.1, (unhide H2).2.2.2.2.2.2.1, (unhide H2).2.2.1⟩
      · have hh := decode_high s pos hp (by omega)
        have hnx : ∀ ty, (Instr.next (.pointer (some ⟨w.heap.size, 0, none⟩)) true ty).run Tryd.prog wr = _ := fun ty => Lib.run_next_any_at wr w.heap.size s pos ty hit hp
        have hd2 := hide (hd.iterAt (k := w.heap.size) (s := s) (pos := pos + (Utf8.decode s pos).2) (by omega))
        have hg2 := hide (grownBy_iterAt (k := w.heap.size) (s := s) (pos := pos + (Utf8.decode s pos).2) hg (Nat.le_refl _))
        have hsc2 : Hid (scan s.data.toList true d0 = (false, d)) := by
          show _ = _
          rw [← hsc, drop_next s pos hp]
          unfold scan
          rw [if_neg, if_neg, if_neg]
          · omega
          · intro hx; have := hx.1; rw [this] at ha; exact ha (by decide)
          · intro hx; have := hx.1; rw [this] at ha; exact ha (by decide)
        clear hit hd hg hsc H
        generalize (Utf8.decode s pos).1 = r at *
        go_wp2
        rw [Exit.noGoto_ret]
        go_ret
        have e := unhide hsc2
        rw [e]
        exact ⟨rfl, unhide hd2, hok, unhide hg2⟩
    · have hnx : ∀ ty, (Instr.next (.pointer (some ⟨w.heap.size, 0, none⟩)) true ty).run Tryd.prog wr = _ := fun ty => Lib.run_next_end_at wr w.heap.size s pos ty hit hp
      have hsc2 : Hid (scan s.data.toList true d0 = (true, d)) := by
        show _ = _
        rw [← hsc, List.drop_eq_nil_of_le (by simp; have : s.data.size = s.size := rfl; omega)]
        rfl
      have c1 : wr.cell? ⟨b, 1, none⟩ = some (.bool d.digits) := hd.cell rfl
      clear hit hd hok hg hsc
      go_wp2
      rw [Exit.noGoto_ret]
      go_ret
      have e := unhide hsc2
      rw [e]
      exact ⟨by simp, (unhide H).2.1, (unhide H).2.2.1, (unhide H).2.2.2.1⟩

/-- The answer of Parse: the number's raw and the error. -/
def parseI (l : List UInt8) : Int × Int :=
  if 40 < l.length then (0, 3)
  else if ((scan l true Dec.start).1 && (scan l true Dec.start).2.digits) = true then ((scan l true Dec.start).2.number, 0) else (0, 120)

set_option maxHeartbeats 1000000 in
theorem parse_any (s : ByteArray) (w : World) :
    Calls Tryd.prog 66 #[.string s] w fun e w' => e = .returned (.tuple #[.int .i32 (parseI s.data.toList).1, .int .i64 (parseI s.data.toList).2]) ∧ Ext w w' := by
  go_enter Tryd.func66, Tryd.ntmps66
  have hs : s.data.toList.length = s.size := by simp
  by_cases h40 : 40 < s.size
  · have hp : parseI s.data.toList = (0, 3) := by simp only [parseI]; rw [if_pos (by omega)]
    rw [hp]
    go_wp2
    exact bodyPost_ret (v := .tuple #[.int .i32 0, .int .i64 3]) (by simp [results, Tryd.results66, go_sem]) rfl ⟨rfl, Ext.refl _⟩
  · have hpe : parseI s.data.toList = if ((scan s.data.toList true Dec.start).1 && (scan s.data.toList true Dec.start).2.digits) = true then ((scan s.data.toList true Dec.start).2.number, 0) else (0, 120) := by simp only [parseI]; rw [if_neg (by omega)]
    have HP := hide hpe
    clear hpe
    go_wp2_with fail
    refine (read_any _ Dec.start s _ (Blk.new w _ _) Dec.start_ok).mono ?_
    rintro e w1 ⟨rfl, hd, hok, hg⟩
    have hx : Ext w w1 := ⟨hg.os, hg.tape, hg.output, Nat.le_trans (by simp) hg.size, fun k hk => (hg.block k (by simp; omega) (by simp; omega)).trans (((Ext.refl w).alloc _).block k hk)⟩
    have H := hide (And.intro hd (And.intro hok hx))
    clear hd hok hg hx
    generalize scan s.data.toList true Dec.start = sc at *
    obtain ⟨good, d⟩ := sc
    simp only at H HP ⊢
    cases hgd : (good && d.digits)
    · go_wp2
      refine bodyPost_ret (v := .tuple #[.int .i32 0, .int .i64 120]) (by simp [results, Tryd.results66, go_sem]) rfl ⟨?_, (unhide H).2.2⟩
      rw [unhide HP, hgd]
      rfl
    · go_wp2_with fail
      refine (number_any _ d _ (unhide H).1 (unhide H).2.1).mono ?_
      rintro e w2 ⟨rfl, k, rfl⟩
      go_wp2
      refine bodyPost_ret (v := .tuple #[.int .i32 d.number, .int .i64 0]) (by simp [results, Tryd.results66, go_sem]) rfl ⟨?_, (unhide H).2.2.drewN _⟩
      rw [unhide HP, hgd]
      rfl
end Go.Proofs.YtdcamcpffiilbaaDoor
