/- Several texts in one. -/
import Derived.Test.YtgmahpkhdnabjaaGreatFxAJ
import Derived.Test.YtgmahpkhdnabjaaGreatVMDJ
import Derived.BigQuiet
import Derived.Test.YtgmahpkhdnabjaaGreatLemJ
import Derived.Deep.MidRow
import Derived.Deep.WholeRow
import Derived.Great.BuildSlice
import Derived.Laws.CopyOwn
/-
  Pixels: the bits of a number, the number of bits (numbers alone), and the walks of the program's full, isWidth, bitsOf, numberOf, Bits, Number, and of the document's power, Bits, Number. What the dump lacks is left out.
-/
namespace Go.Proofs.YtgmahpkhdnabjaaGreat
open Go.RowKit

/-- All of k bits set. -/
def fullI (k : Nat) : Int := 2 ^ k - 1
/-- The bits of the number of raw x, k of them. -/
def bitsI (x : Int) (k : Nat) : Int := (clampI x 0 65536 * fullI k + 32768) / 65536
/-- The number of the bits x. -/
def numI (x : Int) (k : Nat) : Int := (x * 65536 + fullI k / 2) / fullI k

theorem full_pos {k : Nat} (h1 : 1 ≤ k) (h2 : k ≤ 16) : 1 ≤ fullI k ∧ fullI k ≤ 65535 := by
  unfold fullI
  have a : 2 ^ 1 ≤ 2 ^ k := Nat.pow_le_pow_right (by decide) h1
  have b : 2 ^ k ≤ 2 ^ 16 := Nat.pow_le_pow_right (by decide) h2
  have e : (2 : Int) ^ k = ((2 ^ k : Nat) : Int) := by simp
  omega
theorem full_nonneg {k : Nat} (h2 : k ≤ 16) : 0 ≤ fullI k ∧ fullI k ≤ 65535 := by
  by_cases h : 1 ≤ k
  · have := full_pos h h2; omega
  · obtain rfl : k = 0 := by omega
    decide

theorem clamp_mul {x m : Int} (h0 : 0 ≤ m) : 0 ≤ clampI x 0 65536 * m ∧ clampI x 0 65536 * m ≤ 65536 * m := by
  have a : 0 ≤ clampI x 0 65536 := by unfold clampI; omega
  have b : clampI x 0 65536 ≤ 65536 := by unfold clampI; omega
  exact ⟨Int.mul_nonneg a h0, Int.mul_le_mul_of_nonneg_right b h0⟩

theorem bits_bound {k : Nat} (x : Int) (h2 : k ≤ 16) : 0 ≤ bitsI x k ∧ bitsI x k ≤ fullI k := by
  have h := full_nonneg h2
  have c := clamp_mul (x := x) h.1
  unfold bitsI
  omega

theorem num_bound {x : Int} {k : Nat} (h1 : 1 ≤ k) (h2 : k ≤ 16) (h0 : 0 ≤ x) (hx : x ≤ fullI k) : 0 ≤ numI x k ∧ numI x k ≤ 65536 := by
  have h := full_pos h1 h2
  unfold numI
  generalize fullI k = m at *
  refine ⟨Int.ediv_nonneg (by omega) (by omega), ?_⟩
  have : (x * 65536 + m / 2) / m < 65537 := Int.ediv_lt_of_lt_mul (by omega) (by omega)
  omega

/-- The bits of the number of bits are these. -/
theorem bits_num {x : Int} {k : Nat} (h1 : 1 ≤ k) (h2 : k ≤ 16) (h0 : 0 ≤ x) (hx : x ≤ fullI k) : bitsI (numI x k) k = x := by
  have h := full_pos h1 h2
  have b := num_bound h1 h2 h0 hx
  have e : clampI (numI x k) 0 65536 = numI x k := by unfold clampI; omega
  unfold bitsI
  rw [e]
  unfold numI at *
  generalize fullI k = m at *
  have d1 := Int.mul_ediv_add_emod (x * 65536 + m / 2) m
  have d2 := Int.emod_nonneg (x * 65536 + m / 2) (show m ≠ 0 by omega)
  have d3 := Int.emod_lt_of_pos (x * 65536 + m / 2) (show 0 < m by omega)
  rw [Int.mul_comm] at d1
  generalize (x * 65536 + m / 2) / m * m = q at *
  omega

theorem bits_rise {x y : Int} {k : Nat} (h2 : k ≤ 16) (h : x ≤ y) : bitsI x k ≤ bitsI y k := by
  have m := full_nonneg h2
  unfold bitsI
  have c : clampI x 0 65536 ≤ clampI y 0 65536 := by unfold clampI; omega
  have := Int.mul_le_mul_of_nonneg_right c m.1
  omega
theorem bits_zero (k : Nat) : bitsI 0 k = 0 := by
  have e : clampI 0 0 65536 = 0 := by decide
  unfold bitsI
  rw [e]
  omega
theorem bits_one (k : Nat) : bitsI 65536 k = fullI k := by
  have e : clampI 65536 0 65536 = 65536 := by decide
  unfold bitsI
  rw [e]
  omega

theorem pow_mod (k : Nat) (h : k ≤ 16) : (2 : Int) ^ k % 4294967296 = 2 ^ k := by
  have b : 2 ^ k ≤ 2 ^ 16 := Nat.pow_le_pow_right (by decide) h
  have e : (2 : Int) ^ k = ((2 ^ k : Nat) : Int) := by simp
  have p : 0 < 2 ^ k := Nat.pow_pos (by decide)
  omega

theorem full_any (k : Nat) (w : World) (h : k ≤ 16) :
    Calls Tryz.prog 226 #[.int .i64 (k : Int)] w fun e w' => e = .returned (.int .u32 (fullI k)) ∧ w' = w := by
  have hm := pow_mod k h
  have hb := full_nonneg h
  unfold fullI at *
  go_enter Tryz.func226, Tryz.ntmps226
  go_wp2
  go_ret
  refine ⟨?_, rfl⟩
  simp

theorem numberOf_any (x : Int) (k : Nat) (w : World) (h1 : 1 ≤ k) (h2 : k ≤ 16) (h0 : 0 ≤ x) (hx : x ≤ fullI k) :
    Calls Tryz.prog 225 #[.int .u32 x, .int .i64 (k : Int)] w fun e w' => e = .returned (.int .i32 (numI x k)) ∧ w' = w := by
  have hm := full_pos h1 h2
  have hb := num_bound h1 h2 h0 hx
  have hr : Hid (rawI (numI x k) = numI x k) := rawI_id (by unfold I32; omega)
  have HN : Hid (numI x k = (x * 65536 + fullI k / 2) / fullI k) := rfl
  go_enter Tryz.func225, Tryz.ntmps225
  go_wp2_with fail
  refine (full_any k _ h2).mono ?_
  rintro e w1 ⟨rfl, rfl⟩
  generalize fullI k = m at *
  obtain ⟨r, hrr⟩ : ∃ r, r = numI x k := ⟨_, rfl⟩
  have HR := hide hrr
  rw [← hrr] at  hb HN hr
  clear hrr
  have hd : (m != 0) = true := by simp; omega
  have hd0 : (m == 0) = false := by simp; omega
  have hw : Hid (wrap64 ((x * 65536 + m / 2) / m) = r) := by
    rw [← unhide HN]
    unfold wrap64
    show _ = _
    omega
  go_wp2_with fail
  rw [unhide hw]
  refine (raw_any r _).mono ?_
  rintro e w1 ⟨rfl, rfl⟩
  rw [unhide hr]
  go_wp2
  go_ret
  exact ⟨ret_int (unhide HR), rfl⟩

theorem full_succ (k : Nat) : fullI (k + 1) + 1 = (fullI k + 1) * 2 := by
  unfold fullI
  rw [Int.pow_succ]
  omega

/-- How many bytes a pixel of format f has. -/
def sizI (f : Int) : Int := if f = 1 then 4 else if f = 5 ∨ f = 6 then 1 else if 2 ≤ f ∧ f ≤ 7 then 2 else 0

end Go.Proofs.YtgmahpkhdnabjaaGreat

/-
  Pixels: the layouts of the seven formats, and the walks of formats, find, and of Size.
-/
namespace Go.Proofs.YtgmahpkhdnabjaaGreat
open Go.RowKit

/-- The sixteen numbers of a format's channels: bits, below, first, last of each. -/
def tbl : Nat → List Nat
  | 1 => [8, 0, 0, 0, 8, 8, 1, 1, 8, 16, 2, 2, 8, 24, 3, 3]
  | 2 => [5, 11, 0, 0, 6, 5, 1, 1, 5, 0, 2, 2]
  | 3 => [4, 12, 0, 0, 4, 8, 1, 1, 4, 4, 2, 2, 4, 0, 3, 3]
  | 4 => [5, 11, 0, 0, 5, 6, 1, 1, 5, 1, 2, 2, 1, 0, 3, 3]
  | 5 => [8, 0, 0, 2]
  | 6 => [8, 0, 3, 3]
  | 7 => [8, 0, 0, 2, 8, 8, 3, 3]
  | _ => []
def chs (f i : Nat) : Nat := (tbl f).getD i 0
/-- How many bytes. -/
def siz : Nat → Nat
  | 1 => 4
  | 2 => 2
  | 3 => 2
  | 4 => 2
  | 5 => 1
  | 6 => 1
  | 7 => 2
  | _ => 0
/-- Has alpha no bits? -/
def opq : Nat → Bool
  | 2 => true
  | 5 => true
  | _ => false
/-- A layout's cells. -/
def layA (F S : Nat) (O : Bool) (L : Nat → Nat) : Array Value := #[.int .i64 ((F : Nat) : Int), .int .i64 ((S : Nat) : Int), .bool O, .int .i64 ((L 0 : Nat) : Int), .int .i64 ((L 1 : Nat) : Int), .int .i64 ((L 2 : Nat) : Int), .int .i64 ((L 3 : Nat) : Int), .int .i64 ((L 4 : Nat) : Int), .int .i64 ((L 5 : Nat) : Int), .int .i64 ((L 6 : Nat) : Int), .int .i64 ((L 7 : Nat) : Int), .int .i64 ((L 8 : Nat) : Int), .int .i64 ((L 9 : Nat) : Int), .int .i64 ((L 10 : Nat) : Int), .int .i64 ((L 11 : Nat) : Int), .int .i64 ((L 12 : Nat) : Int), .int .i64 ((L 13 : Nat) : Int), .int .i64 ((L 14 : Nat) : Int), .int .i64 ((L 15 : Nat) : Int)]
def layF (f : Nat) : Array Value := layA f (siz f) (opq f) (chs f)
/-- The cells of all formats. -/
def fmts : Array Value := ((layF 1).toList ++ (layF 2).toList ++ (layF 3).toList ++ (layF 4).toList ++ (layF 5).toList ++ (layF 6).toList ++ (layF 7).toList).toArray

theorem layF_size (f : Nat) : (layF f).size = 19 := rfl
theorem layF_one (f : Nat) : (layF f).all (·.oneCell') = true := by simp [layF, layA, Value.oneCell']

theorem fmts_cut (k : Nat) (hk : k < 7) : (fmts.toList.drop (19 * k)).take 19 = (layF (k + 1)).toList := by
  rcases (by omega : k = 0 ∨ k = 1 ∨ k = 2 ∨ k = 3 ∨ k = 4 ∨ k = 5 ∨ k = 6) with rfl | rfl | rfl | rfl | rfl | rfl | rfl <;> rfl

theorem range_fmts {w : World} {b k : Nat} {t : TypeId} (h : Blk w b fmts t) (hk : k < 7) : w.rangeAt b (k * 19) (layF (k + 1)).toList := by
  intro j v hv
  rw [← fmts_cut k hk, Nat.mul_comm 19 k] at hv
  refine h.cell ?_
  have hj : j < 19 := by
    have := (List.getElem?_eq_some_iff.1 hv).1
    simp at this
    omega
  rw [List.getElem?_take_of_lt hj, List.getElem?_drop] at hv
  simpa using hv

theorem info60 : (Tryz.prog.info? 182).map (fun i => (i.zero, i.size)) = some (some (.agg (layF 0)), 19) := by kernel_rfl

set_option maxHeartbeats 1000000 in
theorem formats_any (w : World) :
    Calls Tryz.prog 216 #[] w fun e w' => e = .returned (.slice (some ⟨w.heap.size, 0, none⟩) 7 7) ∧ w' = w.alloc (.cells fmts 182) := by
  obtain ⟨i60, hi60, hzz⟩ : ∃ i, Tryz.prog.info? 182 = some i ∧ (i.zero, i.size) = (some (.agg (layF 0)), 19) := by
    have h := info60
    cases hq : Tryz.prog.info? 182 with
    | none => rw [hq] at h; cases h
    | some i => rw [hq] at h; exact ⟨i, rfl, by simpa using h⟩
  obtain ⟨hz60, hs60⟩ := Prod.mk.inj hzz
  clear hzz
  go_enter Tryz.func216, Tryz.ntmps216
  go_wp2_with (refine wpList_buildTo rfl 179 _ rfl (some 1) rfl #[.int .i64 8, .int .i64 0, .int .i64 0, .int .i64 0] (by kernel_rfl) ?_; refine wpList_buildTo rfl 179 _ rfl (some 2) rfl #[.int .i64 8, .int .i64 8, .int .i64 1, .int .i64 1] (by kernel_rfl) ?_; refine wpList_buildTo rfl 179 _ rfl (some 3) rfl #[.int .i64 8, .int .i64 16, .int .i64 2, .int .i64 2] (by kernel_rfl) ?_; refine wpList_buildTo rfl 179 _ rfl (some 4) rfl #[.int .i64 8, .int .i64 24, .int .i64 3, .int .i64 3] (by kernel_rfl) ?_; refine wpList_buildTo rfl 180 _ rfl (some 5) rfl #[.int .i64 8, .int .i64 0, .int .i64 0, .int .i64 0, .int .i64 8, .int .i64 8, .int .i64 1, .int .i64 1, .int .i64 8, .int .i64 16, .int .i64 2, .int .i64 2, .int .i64 8, .int .i64 24, .int .i64 3, .int .i64 3] (by kernel_rfl) ?_; refine wpList_buildTo rfl 182 _ rfl (some 6) rfl (layF 1) (by kernel_rfl) ?_; refine wpList_buildTo rfl 179 _ rfl (some 7) rfl #[.int .i64 5, .int .i64 11, .int .i64 0, .int .i64 0] (by kernel_rfl) ?_; refine wpList_buildTo rfl 179 _ rfl (some 8) rfl #[.int .i64 6, .int .i64 5, .int .i64 1, .int .i64 1] (by kernel_rfl) ?_; refine wpList_buildTo rfl 179 _ rfl (some 9) rfl #[.int .i64 5, .int .i64 0, .int .i64 2, .int .i64 2] (by kernel_rfl) ?_; refine wpList_buildTo rfl 180 _ rfl (some 10) rfl #[.int .i64 5, .int .i64 11, .int .i64 0, .int .i64 0, .int .i64 6, .int .i64 5, .int .i64 1, .int .i64 1, .int .i64 5, .int .i64 0, .int .i64 2, .int .i64 2, .int .i64 0, .int .i64 0, .int .i64 0, .int .i64 0] (by kernel_rfl) ?_; refine wpList_buildTo rfl 182 _ rfl (some 11) rfl (layF 2) (by kernel_rfl) ?_; refine wpList_buildTo rfl 179 _ rfl (some 12) rfl #[.int .i64 4, .int .i64 12, .int .i64 0, .int .i64 0] (by kernel_rfl) ?_; refine wpList_buildTo rfl 179 _ rfl (some 13) rfl #[.int .i64 4, .int .i64 8, .int .i64 1, .int .i64 1] (by kernel_rfl) ?_; refine wpList_buildTo rfl 179 _ rfl (some 14) rfl #[.int .i64 4, .int .i64 4, .int .i64 2, .int .i64 2] (by kernel_rfl) ?_; refine wpList_buildTo rfl 179 _ rfl (some 15) rfl #[.int .i64 4, .int .i64 0, .int .i64 3, .int .i64 3] (by kernel_rfl) ?_; refine wpList_buildTo rfl 180 _ rfl (some 16) rfl #[.int .i64 4, .int .i64 12, .int .i64 0, .int .i64 0, .int .i64 4, .int .i64 8, .int .i64 1, .int .i64 1, .int .i64 4, .int .i64 4, .int .i64 2, .int .i64 2, .int .i64 4, .int .i64 0, .int .i64 3, .int .i64 3] (by kernel_rfl) ?_; refine wpList_buildTo rfl 182 _ rfl (some 17) rfl (layF 3) (by kernel_rfl) ?_; refine wpList_buildTo rfl 179 _ rfl (some 18) rfl #[.int .i64 5, .int .i64 11, .int .i64 0, .int .i64 0] (by kernel_rfl) ?_; refine wpList_buildTo rfl 179 _ rfl (some 19) rfl #[.int .i64 5, .int .i64 6, .int .i64 1, .int .i64 1] (by kernel_rfl) ?_; refine wpList_buildTo rfl 179 _ rfl (some 20) rfl #[.int .i64 5, .int .i64 1, .int .i64 2, .int .i64 2] (by kernel_rfl) ?_; refine wpList_buildTo rfl 179 _ rfl (some 21) rfl #[.int .i64 1, .int .i64 0, .int .i64 3, .int .i64 3] (by kernel_rfl) ?_; refine wpList_buildTo rfl 180 _ rfl (some 22) rfl #[.int .i64 5, .int .i64 11, .int .i64 0, .int .i64 0, .int .i64 5, .int .i64 6, .int .i64 1, .int .i64 1, .int .i64 5, .int .i64 1, .int .i64 2, .int .i64 2, .int .i64 1, .int .i64 0, .int .i64 3, .int .i64 3] (by kernel_rfl) ?_; refine wpList_buildTo rfl 182 _ rfl (some 23) rfl (layF 4) (by kernel_rfl) ?_; refine wpList_buildTo rfl 179 _ rfl (some 24) rfl #[.int .i64 8, .int .i64 0, .int .i64 0, .int .i64 2] (by kernel_rfl) ?_; refine wpList_buildTo rfl 180 _ rfl (some 25) rfl #[.int .i64 8, .int .i64 0, .int .i64 0, .int .i64 2, .int .i64 0, .int .i64 0, .int .i64 0, .int .i64 0, .int .i64 0, .int .i64 0, .int .i64 0, .int .i64 0, .int .i64 0, .int .i64 0, .int .i64 0, .int .i64 0] (by kernel_rfl) ?_; refine wpList_buildTo rfl 182 _ rfl (some 26) rfl (layF 5) (by kernel_rfl) ?_; refine wpList_buildTo rfl 179 _ rfl (some 27) rfl #[.int .i64 8, .int .i64 0, .int .i64 3, .int .i64 3] (by kernel_rfl) ?_; refine wpList_buildTo rfl 180 _ rfl (some 28) rfl #[.int .i64 8, .int .i64 0, .int .i64 3, .int .i64 3, .int .i64 0, .int .i64 0, .int .i64 0, .int .i64 0, .int .i64 0, .int .i64 0, .int .i64 0, .int .i64 0, .int .i64 0, .int .i64 0, .int .i64 0, .int .i64 0] (by kernel_rfl) ?_; refine wpList_buildTo rfl 182 _ rfl (some 29) rfl (layF 6) (by kernel_rfl) ?_; refine wpList_buildTo rfl 179 _ rfl (some 30) rfl #[.int .i64 8, .int .i64 0, .int .i64 0, .int .i64 2] (by kernel_rfl) ?_; refine wpList_buildTo rfl 179 _ rfl (some 31) rfl #[.int .i64 8, .int .i64 8, .int .i64 3, .int .i64 3] (by kernel_rfl) ?_; refine wpList_buildTo rfl 180 _ rfl (some 32) rfl #[.int .i64 8, .int .i64 0, .int .i64 0, .int .i64 2, .int .i64 8, .int .i64 8, .int .i64 3, .int .i64 3, .int .i64 0, .int .i64 0, .int .i64 0, .int .i64 0, .int .i64 0, .int .i64 0, .int .i64 0, .int .i64 0] (by kernel_rfl) ?_; refine wpList_buildTo rfl 182 _ rfl (some 33) rfl (layF 7) (by kernel_rfl) ?_; refine Go.wpList_buildSlice rfl 192 182 7 _ rfl fmts i60 (.agg (layF 0)) Tryz.underlying192 hi60 hz60 (by rw [hs60]; decide) (by rw [hs60]; decide) (by rw [hs60]; kernel_rfl) ?_)
  go_ret
  exact ⟨rfl, rfl⟩

end Go.Proofs.YtgmahpkhdnabjaaGreat

/-
  Pixels: the walks of find and of Size.
-/
namespace Go.Proofs.YtgmahpkhdnabjaaGreat
set_option maxRecDepth 100000
open Go.RowKit

theorem size60 : (Tryz.prog.info? 182).map (·.size) = some 19 := by kernel_rfl
theorem Blk.row {w : World} {b : Nat} {cs cs' : Array Value} {t : TypeId} (h : Blk w b cs t) : Blk (w.setRow b cs') b cs' t := setRow_heap w b cs cs' t (0, 0) h
theorem Blk.rowOther {w : World} {b r : Nat} {cs cs' : Array Value} {t : TypeId} (h : Blk w b cs t) (hne : b ≠ r) : Blk (w.setRow r cs') b cs t := (setRow_other w r b cs' hne).trans h
theorem ext_row {w w1 : World} {b : Nat} {cs : Array Value} (h : Ext w w1) (hb : w.heap.size ≤ b) : Ext w (w1.setRow b cs) := below_setRow h hb cs

section
variable {P : Program} {w : World} {ops : Array Oper} {rest : List Oper} {o : Oper} {a : Act} {Q : Exit → Act → World → Prop}
/-- A whole value laid into the block that was made last. -/
theorem wpList_store_last (hgd : o.guard = none) (ty : TypeId) (x y : Operand) (ho : o.op = .store ty x y) (old : Array Value) (hx : a.eval x = .pointer (some ⟨w.heap.size, 0, none⟩)) (cells : Array Value) (hy : a.eval y = .agg cells)
    (n : Nat) (hi : (P.info? ty).map (·.size) = some n) (hn : cells.size = n) (hold : old.size = n) (h1 : cells.all (·.oneCell') = true) (h : wpList P ops Q rest (a.put o.dst undef) (w.alloc (.cells cells ty))) :
    wpList P ops Q (o :: rest) a (w.alloc (.cells old ty)) := by
  refine wpList_store_row hgd ty x y ho w.heap.size cells hx hy ty old (heap_alloc_last w _) (by rw [hi, hn]) (by omega) h1 ?_
  rw [World.setRow_alloc_new]
  exact h
theorem results_cell_tmp {fn : Func} {p q : Tmp} {ty : TypeId} (h : fn.results = #[.cell p ty, .tmp q]) (tmps : Array Value) (w : World) (g : Nat) (t : TypeId) (cs : Array Value) (d : TypeDesc)
    (hp : tmps.getD p undef = .pointer (some ⟨g, 0, none⟩)) (v : Value) (hv : tmps.getD q undef = v) (hg : Blk w g cs t)
    (hu : P.underlying ty = some d) (hd : (match d with | .struct _ | .array _ _ => true | _ => false) = true) (hi : (P.info? ty).map (·.size) = some cs.size) :
    (results fn tmps).run P w = .ok (.tuple #[.agg cs, v]) w := by
  have hp' : tmps[p]?.getD undef = .pointer (some ⟨g, 0, none⟩) := by simpa using hp
  have hv' : tmps[q]?.getD undef = v := by simpa using hv
  simp [results, h, hp', hv', asAddr, run_loadVar_row w g t ty cs (0, 0) d hg hu hd hi]
end

set_option maxHeartbeats 1000000 in
theorem find_any (f : Nat) (w : World) (h1 : 1 ≤ f) (h7 : f ≤ 7) :
    Calls Tryz.prog 194 #[.int .i64 (f : Int)] w fun e w' => e = .returned (.tuple #[.agg (layF f), .int .i64 0]) ∧ Ext w w' := by
  go_enter Tryz.func194, Tryz.ntmps194
  go_wp2_with fail
  refine (formats_any _).mono ?_
  rintro e w1 ⟨rfl, rfl⟩
  go_wp2
  go_loopw [8] (fun i wr => ∃ k : Nat, k < f ∧ i = .int .i64 k ∧ Blk wr w.heap.size (layF 0) 182 ∧ Blk wr (w.heap.size + 1) fmts 182 ∧ Ext w wr) (fun i _ => 7 - (intOf i).toNat)
  case atStart => exact ⟨0, by omega, rfl, (Blk.at rfl).alloc _, Blk.at (by simp), ((Ext.refl w).alloc _).alloc _⟩
  case round =>
    obtain ⟨k, hk, rfl, hb0, hb1, hx⟩ := hrel
    have D := hide (And.intro hb0 (And.intro hb1 hx))
    clear hb0 hb1 hx
    have hk7 : (k : Int) < 7 := by omega
    have c0 : (wr.alloc (.cells (layF (k + 1)) 182)).cell? ⟨wr.heap.size, 0, none⟩ = some (.int .i64 ((k : Int) + 1)) := (Blk.at rfl).cell rfl
    by_cases hf : k + 1 = f
    · have hd : ((k : Int) + 1 == (f : Int)) = true := by simp; omega
      have HF := hide hf
      clear hf
      go_wp2_with (first
        | (refine wpList_load_mid rfl 182 (.tmp 10) rfl (w.heap.size + 1) (k * 19) rfl (layF (k + 1)).toList _ (range_fmts (unhide D).2.1 (by omega)) Tryz.underlying182 rfl size60 ?_; rw [Array.toArray_toList])
        | refine wpList_store_last rfl 182 (.tmp 5) (.tmp 11) rfl _ rfl (layF (k + 1)) rfl 19 size60 (layF_size _) rfl (layF_one _) ?_
        | refine wpList_load_row rfl 182 (.tmp 5) rfl wr.heap.size rfl 182 (layF (k + 1)) (0, 0) _ (heap_alloc_last wr _) Tryz.underlying182 rfl size60 ?_
        | refine wpList_store_row rfl 182 (.tmp 2) (.tmp 16) rfl w.heap.size (layF (k + 1)) rfl rfl 182 (layF 0) ((unhide D).1.alloc _) size60 rfl (layF_one _) ?_)
      have hf := unhide HF
      subst hf
      refine bodyPost_ret (v := .tuple #[.agg (layF (k + 1)), .int .i64 0]) (results_cell_tmp Tryz.results194 _ _ w.heap.size 182 _ _ rfl _ rfl (((unhide D).1.alloc _).row) Tryz.underlying182 rfl size60) rfl ⟨rfl, ?_⟩
      exact ext_row ((unhide D).2.2.alloc _) (Nat.le_refl _)
    · have hd : ((k : Int) + 1 == (f : Int)) = false := by simp; omega
      have HF := hide hf
      clear hf
      go_wp2_with (first
        | (refine wpList_load_mid rfl 182 (.tmp 10) rfl (w.heap.size + 1) (k * 19) rfl (layF (k + 1)).toList _ (range_fmts (unhide D).2.1 (by omega)) Tryz.underlying182 rfl size60 ?_; rw [Array.toArray_toList])
        | refine wpList_store_last rfl 182 (.tmp 5) (.tmp 11) rfl _ rfl (layF (k + 1)) rfl 19 size60 (layF_size _) rfl (layF_one _) ?_)
      go_roundw
      case rel => exact ⟨k + 1, by have := unhide HF; omega, by go_num, (unhide D).1.alloc _, (unhide D).2.1.alloc _, (unhide D).2.2.alloc _⟩
      case measure => simp [intOf]; omega

set_option maxHeartbeats 1000000 in
theorem find_bad (f : Int) (w : World) (h : f < 1 ∨ 7 < f) :
    Calls Tryz.prog 194 #[.int .i64 f] w fun e w' => e = .returned (.tuple #[.agg (layF 0), .int .i64 2]) ∧ Ext w w' := by
  go_enter Tryz.func194, Tryz.ntmps194
  go_wp2_with fail
  refine (formats_any _).mono ?_
  rintro e w1 ⟨rfl, rfl⟩
  go_wp2
  go_loopw [8] (fun i wr => ∃ k : Nat, k ≤ 7 ∧ i = .int .i64 k ∧ Blk wr w.heap.size (layF 0) 182 ∧ Blk wr (w.heap.size + 1) fmts 182 ∧ Ext w wr) (fun i _ => 7 - (intOf i).toNat)
  case atStart => exact ⟨0, by omega, rfl, (Blk.at rfl).alloc _, Blk.at (by simp), ((Ext.refl w).alloc _).alloc _⟩
  case round =>
    obtain ⟨k, hk, rfl, hb0, hb1, hx⟩ := hrel
    have D := hide (And.intro hb0 (And.intro hb1 hx))
    clear hb0 hb1 hx
    have c0 : (wr.alloc (.cells (layF (k + 1)) 182)).cell? ⟨wr.heap.size, 0, none⟩ = some (.int .i64 ((k : Int) + 1)) := (Blk.at rfl).cell rfl
    by_cases hk7 : (k : Int) < 7
    · have hd : ((k : Int) + 1 == f) = false := by simp; omega
      go_wp2_with (first
        | (refine wpList_load_mid rfl 182 (.tmp 10) rfl (w.heap.size + 1) (k * 19) rfl (layF (k + 1)).toList _ (range_fmts (unhide D).2.1 (by omega)) Tryz.underlying182 rfl size60 ?_; rw [Array.toArray_toList])
        | refine wpList_store_last rfl 182 (.tmp 5) (.tmp 11) rfl _ rfl (layF (k + 1)) rfl 19 size60 (layF_size _) rfl (layF_one _) ?_)
      go_roundw
      case rel => exact ⟨k + 1, by omega, by go_num, (unhide D).1.alloc _, (unhide D).2.1.alloc _, (unhide D).2.2.alloc _⟩
      case measure => simp [intOf]; omega
    · go_wp2_with (first
        | refine wpList_buildTo rfl 182 _ rfl (some 18) rfl (layF 0) (by kernel_rfl) ?_
        | refine wpList_store_row rfl 182 (.tmp 2) (.tmp 18) rfl w.heap.size (layF 0) rfl rfl 182 (layF 0) (unhide D).1 size60 rfl (layF_one _) ?_)
      refine bodyPost_ret (v := .tuple #[.agg (layF 0), .int .i64 2]) (results_cell_tmp Tryz.results194 _ _ w.heap.size 182 _ _ rfl _ rfl (unhide D).1.row Tryz.underlying182 rfl size60) rfl ⟨rfl, ?_⟩
      exact ext_row (unhide D).2.2 (Nat.le_refl _)

theorem siz_eq (f : Nat) : (siz f : Int) = sizI f := by
  match f with
  | 0 => rfl
  | 1 => rfl
  | 2 => rfl
  | 3 => rfl
  | 4 => rfl
  | 5 => rfl
  | 6 => rfl
  | 7 => rfl
  | n + 8 =>
    have : siz (n + 8) = 0 := rfl
    rw [this]
    unfold sizI
    rw [if_neg (by omega), if_neg (by omega), if_neg (by omega)]
    rfl
theorem siz_off {f : Int} (h : f < 1 ∨ 7 < f) : sizI f = 0 := by
  unfold sizI
  rw [if_neg (by omega), if_neg (by omega), if_neg (by omega)]

theorem size_any (f : Int) (w : World) :
    Calls Tryz.prog 168 #[.int .i64 f] w fun e w' => e = .returned (.int .i64 (sizI f)) ∧ Ext w w' := by
  by_cases h : f < 1 ∨ 7 < f
  · have hs := siz_off h
    rw [hs]
    go_enter Tryz.func168, Tryz.ntmps168
    go_wp2_with fail
    refine (find_bad f _ h).mono ?_
    rintro e w1 ⟨rfl, hx⟩
    have X := hide hx
    clear hx
    have c1 : (w1.alloc (.cells (layF 0) 182)).cell? ⟨w1.heap.size, 1, none⟩ = some (.int .i64 0) := (Blk.at rfl).cell rfl
    go_wp2_with (refine wpList_store_last rfl 182 (.tmp 3) (.tmp 8) rfl _ rfl (layF 0) rfl 19 size60 (layF_size _) rfl (layF_one _) ?_)
    go_ret
    exact ⟨rfl, (unhide X).alloc _⟩
  · obtain ⟨n, rfl⟩ := Int.eq_ofNat_of_zero_le (show 0 ≤ f by omega)
    have HS := hide (siz_eq n)
    go_enter Tryz.func168, Tryz.ntmps168
    go_wp2_with fail
    refine (find_any n _ (by omega) (by omega)).mono ?_
    rintro e w1 ⟨rfl, hx⟩
    have X := hide hx
    clear hx
    have c1 : (w1.alloc (.cells (layF n) 182)).cell? ⟨w1.heap.size, 1, none⟩ = some (.int .i64 (siz n : Int)) := (Blk.at rfl).cell rfl
    go_wp2_with (refine wpList_store_last rfl 182 (.tmp 3) (.tmp 8) rfl _ rfl (layF n) rfl 19 size60 (layF_size _) rfl (layF_one _) ?_)
    go_ret
    exact ⟨by rw [← unhide HS]; rfl, (unhide X).alloc _⟩
end Go.Proofs.YtgmahpkhdnabjaaGreat
