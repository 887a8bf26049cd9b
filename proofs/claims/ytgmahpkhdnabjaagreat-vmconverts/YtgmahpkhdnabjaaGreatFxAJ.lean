/- Several texts in one. -/
import Derived.Test.YtgmahpkhdnabjaaGreatProg
import Derived.Test.YtgmahpkhdnabjaaGreatLemJ
import Derived.WalkKit
import Derived.ProofKit
import Derived.OpenShut
import Derived.BigQuiet
import Derived.Deep.RegionHeld3
import Derived.Shelf.Abstract
import Derived.Laws.EntriesVeiled
/-
  The walks of fix's numbers: within, Raw, Of, Int and what is made of them. What the dump lacks is left out.
-/
namespace Go.Proofs.YtgmahpkhdnabjaaGreat
open Go.RowKit

/-- x, lifted to lo, then lowered to hi. -/
def clampI (x lo hi : Int) : Int := min (max x lo) hi
/-- The raw of the number of raw n. -/
def rawI (n : Int) : Int := clampI n (-2147483648) 2147483647
/-- x is an int32. -/
def I32 (x : Int) : Prop := -2147483648 ≤ x ∧ x ≤ 2147483647
/-- x is an int64. -/
def I64 (x : Int) : Prop := -9223372036854775808 ≤ x ∧ x ≤ 9223372036854775807

theorem rawI_i32 (n : Int) : I32 (rawI n) := by unfold rawI clampI I32; omega
theorem rawI_id {n : Int} (h : I32 n) : rawI n = n := by unfold I32 at h; unfold rawI clampI; omega

theorem within64_any (x lo hi : Int) (w : World) :
    Calls Tryz.prog 141 #[.int .i64 x, .int .i64 lo, .int .i64 hi] w fun e w' => e = .returned (.int .i64 (clampI x lo hi)) ∧ w' = w := by
  go_enter Tryz.func141, Tryz.ntmps141
  go_wp2
  all_goals go_ret
  all_goals refine ⟨?_, rfl⟩
  all_goals simp [clampI]
  all_goals (try split at *)
  all_goals omega

theorem within32_any (x lo hi : Int) (w : World) :
    Calls Tryz.prog 180 #[.int .i32 x, .int .i32 lo, .int .i32 hi] w fun e w' => e = .returned (.int .i32 (clampI x lo hi)) ∧ w' = w := by
  go_enter Tryz.func180, Tryz.ntmps180
  go_wp2
  all_goals go_ret
  all_goals refine ⟨?_, rfl⟩
  all_goals simp [clampI]
  all_goals (try split at *)
  all_goals omega

theorem raw_any (n : Int) (w : World) :
    Calls Tryz.prog 140 #[.int .i64 n] w fun e w' => e = .returned (.int .i32 (rawI n)) ∧ w' = w := by
  have h := rawI_i32 n
  unfold I32 at h
  go_enter Tryz.func140, Tryz.ntmps140
  go_wp2_with fail
  refine (within64_any _ _ _ _).mono ?_
  rintro e w1 ⟨rfl, rfl⟩
  rw [show clampI n (-2147483648) 2147483647 = rawI n from rfl]
  go_wp2
  go_ret
  exact ⟨rfl, rfl⟩

theorem of_any (n : Int) (w : World) :
    Calls Tryz.prog 104 #[.int .i64 n] w fun e w' => e = .returned (.int .i32 (rawI (65536 * n))) ∧ w' = w := by
  have hb : -65536 ≤ clampI n (-65536) 65536 ∧ clampI n (-65536) 65536 ≤ 65536 := by unfold clampI; omega
  have he : rawI (clampI n (-65536) 65536 * 65536) = rawI (65536 * n) := by unfold rawI clampI; omega
  have HE := hide he
  clear he
  go_enter Tryz.func104, Tryz.ntmps104
  go_wp2_with fail
  refine (within64_any _ _ _ _).mono ?_
  rintro e w1 ⟨rfl, rfl⟩
  generalize clampI n (-65536) 65536 = r at *
  go_wp2_with fail
  refine (raw_any _ _).mono ?_
  rintro e w1 ⟨rfl, rfl⟩
  rw [unhide HE]
  go_wp2
  go_ret
  exact ⟨rfl, rfl⟩

theorem int_any (x : Int) (w : World) (h : I32 x) :
    Calls Tryz.prog 210 #[.int .i32 x] w fun e w' => e = .returned (.int .i64 (x / 65536)) ∧ w' = w := by
  go_enter Tryz.func210, Tryz.ntmps210
  unfold I32 at h
  go_wp2
  go_ret
  exact ⟨rfl, rfl⟩

theorem magnitude_any (x : Int) (w : World) (h : I32 x) :
    Calls Tryz.prog 221 #[.int .i32 x] w fun e w' => e = .returned (.int .i64 x.natAbs) ∧ w' = w := by
  go_enter Tryz.func221, Tryz.ntmps221
  unfold I32 at h
  go_wp2
  all_goals go_ret
  all_goals refine ⟨?_, rfl⟩
  all_goals simp
  all_goals omega

theorem nearest_any (p q : Int) (w : World) (hp : 0 ≤ p) (hq : 0 < q) (hp2 : p ≤ 4611686018427387904) (hq2 : q ≤ 4611686018427387904) :
    Calls Tryz.prog 220 #[.int .i64 p, .int .i64 q] w fun e w' => e = .returned (.int .i64 ((p + q / 2) / q)) ∧ w' = w := by
  go_enter Tryz.func220, Tryz.ntmps220
  have hq0 : (q == 0) = false := by simp; omega
  go_wp2
  all_goals go_ret
  exact ⟨rfl, rfl⟩

end Go.Proofs.YtgmahpkhdnabjaaGreat

/-
  The walks of fix's sums, products and quotients, each against one Lean function of the raws. What the dump lacks is left out.
-/
namespace Go.Proofs.YtgmahpkhdnabjaaGreat
open Go.RowKit
set_option linter.unusedSimpArgs false

def addI (a b : Int) : Int := rawI (a + b)
def subI (a b : Int) : Int := rawI (a - b)
def negI (a : Int) : Int := rawI (-a)
def absI (a : Int) : Int := rawI a.natAbs
def mulI (a b : Int) : Int := rawI ((a * b + 32768) / 65536)
/-- The nearest whole number to the quotient of the magnitudes. -/
def nearI (a b : Int) : Int := ((a.natAbs : Int) * 65536 + (b.natAbs : Int) / 2) / (b.natAbs : Int)
def overI (a : Int) : Int := if 0 < a then 2147483647 else if a < 0 then -2147483648 else 0
def divI (a b : Int) : Int := if b = 0 then overI a else rawI (if (decide (a < 0)) = (decide (b < 0)) then nearI a b else -nearI a b)
def floorI (a : Int) : Int := a / 65536 * 65536
def fractI (a : Int) : Int := subI a (floorI a)
def signI (a : Int) : Int := clampI a (-1) 1 * 65536
def modI (a b : Int) : Int := subI a (mulI b (floorI (divI a b)))

theorem mul_i32 {a b : Int} (ha : I32 a) (hb : I32 b) : -4611686018427387904 ≤ a * b ∧ a * b ≤ 4611686018427387904 := by
  unfold I32 at ha hb
  have h1 : (a * b).natAbs ≤ 2147483648 * 2147483648 := by rw [Int.natAbs_mul]; exact Nat.mul_le_mul (by omega) (by omega)
  omega
theorem near_bounds {a b : Int} (ha : I32 a) (hb : I32 b) (h0 : b ≠ 0) : 0 ≤ nearI a b ∧ nearI a b ≤ 140737488355328 := by
  unfold I32 at ha hb
  unfold nearI
  have hb1 : (1 : Int) ≤ (b.natAbs : Int) := by omega
  refine ⟨Int.ediv_nonneg (by omega) (by omega), ?_⟩
  have h2 : ((a.natAbs : Int) * 65536 + (b.natAbs : Int) / 2) / (b.natAbs : Int) < 140737488355329 := by
    refine Int.ediv_lt_of_lt_mul (by omega) ?_
    have : (140737488355329 : Int) * 1 ≤ 140737488355329 * (b.natAbs : Int) := by omega
    omega
  omega
theorem divI_i32 (a b : Int) : I32 (divI a b) := by
  unfold divI
  split
  · unfold overI I32; split; omega; split <;> omega
  · exact rawI_i32 _
theorem mulI_i32 (a b : Int) : I32 (mulI a b) := rawI_i32 _
theorem addI_i32 (a b : Int) : I32 (addI a b) := rawI_i32 _
theorem subI_i32 (a b : Int) : I32 (subI a b) := rawI_i32 _
theorem floorI_i32 {a : Int} (h : I32 a) : I32 (floorI a) := by unfold I32 at *; unfold floorI; omega

theorem add_any (a b : Int) (w : World) (ha : I32 a) (hb : I32 b) :
    Calls Tryz.prog 152 #[.int .i32 a, .int .i32 b] w fun e w' => e = .returned (.int .i32 (addI a b)) ∧ w' = w := by
  go_enter Tryz.func152, Tryz.ntmps152
  unfold I32 at ha hb
  go_wp2_with fail
  refine (raw_any _ _).mono ?_
  rintro e w1 ⟨rfl, rfl⟩
  go_wp2
  go_ret
  exact ⟨rfl, rfl⟩

theorem sub_any (a b : Int) (w : World) (ha : I32 a) (hb : I32 b) :
    Calls Tryz.prog 154 #[.int .i32 a, .int .i32 b] w fun e w' => e = .returned (.int .i32 (subI a b)) ∧ w' = w := by
  go_enter Tryz.func154, Tryz.ntmps154
  unfold I32 at ha hb
  go_wp2_with fail
  refine (raw_any _ _).mono ?_
  rintro e w1 ⟨rfl, rfl⟩
  go_wp2
  go_ret
  exact ⟨rfl, rfl⟩

theorem neg_any (a : Int) (w : World) (ha : I32 a) :
    Calls Tryz.prog 205 #[.int .i32 a] w fun e w' => e = .returned (.int .i32 (negI a)) ∧ w' = w := by
  go_enter Tryz.func205, Tryz.ntmps205
  unfold I32 at ha
  go_wp2_with fail
  refine (raw_any _ _).mono ?_
  rintro e w1 ⟨rfl, rfl⟩
  go_wp2
  go_ret
  exact ⟨rfl, rfl⟩

theorem abs_any (a : Int) (w : World) (ha : I32 a) :
    Calls Tryz.prog 206 #[.int .i32 a] w fun e w' => e = .returned (.int .i32 (absI a)) ∧ w' = w := by
  go_enter Tryz.func206, Tryz.ntmps206
  unfold I32 at ha
  go_wp2_with fail
  refine (magnitude_any _ _ ha).mono ?_
  rintro e w1 ⟨rfl, rfl⟩
  go_wp2_with fail
  refine (raw_any _ _).mono ?_
  rintro e w1 ⟨rfl, rfl⟩
  go_wp2
  go_ret
  exact ⟨rfl, rfl⟩

theorem mul_any (a b : Int) (w : World) (ha : I32 a) (hb : I32 b) :
    Calls Tryz.prog 153 #[.int .i32 a, .int .i32 b] w fun e w' => e = .returned (.int .i32 (mulI a b)) ∧ w' = w := by
  go_enter Tryz.func153, Tryz.ntmps153
  unfold I32 at ha hb
  have hm := mul_i32 ha hb
  go_wp2_with fail
  refine (raw_any _ _).mono ?_
  rintro e w1 ⟨rfl, rfl⟩
  go_wp2
  go_ret
  exact ⟨rfl, rfl⟩

theorem overNothing_any (a : Int) (w : World) (ha : I32 a) :
    Calls Tryz.prog 219 #[.int .i32 a] w fun e w' => e = .returned (.int .i32 (overI a)) ∧ w' = w := by
  go_enter Tryz.func219, Tryz.ntmps219
  unfold I32 at ha
  unfold overI
  by_cases h1 : 0 < a
  · go_wp2
    go_ret
    exact ⟨by simp [h1], rfl⟩
  · by_cases h2 : a < 0
    · go_wp2
      go_ret
      exact ⟨by simp [h1, h2], rfl⟩
    · go_wp2
      go_ret
      exact ⟨by simp [h1, h2], rfl⟩

theorem div_any (a b : Int) (w : World) (ha : I32 a) (hb : I32 b) :
    Calls Tryz.prog 200 #[.int .i32 a, .int .i32 b] w fun e w' => e = .returned (.int .i32 (divI a b)) ∧ w' = w := by
  go_enter Tryz.func200, Tryz.ntmps200
  unfold I32 at ha hb
  by_cases h0 : b = 0
  · subst h0
    go_wp2_with fail
    refine (overNothing_any _ _ ha).mono ?_
    rintro e w1 ⟨rfl, rfl⟩
    go_wp2
    go_ret
    exact ⟨by simp [divI], rfl⟩
  · have hb0 : (b == 0) = false := by simpa using h0
    have hn := near_bounds ha hb h0
    go_wp2_with fail
    refine (magnitude_any _ _ ha).mono ?_
    rintro e w1 ⟨rfl, rfl⟩
    go_wp2_with fail
    refine (magnitude_any _ _ hb).mono ?_
    rintro e w1 ⟨rfl, rfl⟩
    go_wp2_with fail
    refine (nearest_any _ _ _ (by omega) (by omega) (by omega) (by omega)).mono ?_
    rintro e w1 ⟨rfl, rfl⟩
    rw [show ((a.natAbs : Int) * 65536 + (b.natAbs : Int) / 2) / (b.natAbs : Int) = nearI a b from rfl]
    by_cases h1 : a < 0
    · by_cases h2 : b < 0
      · have d1 : decide (a < 0) = true := by simp; omega
        have d2 : decide (b < 0) = true := by simp; omega
        go_wp2_with fail
        refine (raw_any _ _).mono ?_
        rintro e w1 ⟨rfl, rfl⟩
        go_wp2
        go_ret
        exact ⟨by simp [divI, h0, d1, d2], rfl⟩
      · have d1 : decide (a < 0) = true := by simp; omega
        have d2 : decide (b < 0) = false := by simp; omega
        go_wp2_with fail
        refine (raw_any _ _).mono ?_
        rintro e w1 ⟨rfl, rfl⟩
        go_wp2
        go_ret
        exact ⟨by simp [divI, h0, d1, d2], rfl⟩
    · by_cases h2 : b < 0
      · have d1 : decide (a < 0) = false := by simp; omega
        have d2 : decide (b < 0) = true := by simp; omega
        go_wp2_with fail
        refine (raw_any _ _).mono ?_
        rintro e w1 ⟨rfl, rfl⟩
        go_wp2
        go_ret
        exact ⟨by simp [divI, h0, d1, d2], rfl⟩
      · have d1 : decide (a < 0) = false := by simp; omega
        have d2 : decide (b < 0) = false := by simp; omega
        go_wp2_with fail
        refine (raw_any _ _).mono ?_
        rintro e w1 ⟨rfl, rfl⟩
        go_wp2
        go_ret
        exact ⟨by simp [divI, h0, d1, d2], rfl⟩

theorem floor_any (a : Int) (w : World) (ha : I32 a) :
    Calls Tryz.prog 208 #[.int .i32 a] w fun e w' => e = .returned (.int .i32 (floorI a)) ∧ w' = w := by
  go_enter Tryz.func208, Tryz.ntmps208
  unfold I32 at ha
  unfold floorI
  go_wp2
  go_ret
  exact ⟨rfl, rfl⟩

theorem fract_any (a : Int) (w : World) (ha : I32 a) :
    Calls Tryz.prog 209 #[.int .i32 a] w fun e w' => e = .returned (.int .i32 (fractI a)) ∧ w' = w := by
  go_enter Tryz.func209, Tryz.ntmps209
  unfold I32 at ha
  go_wp2_with fail
  refine (floor_any _ _ ha).mono ?_
  rintro e w1 ⟨rfl, rfl⟩
  go_wp2_with fail
  refine (sub_any _ _ _ ha (floorI_i32 ha)).mono ?_
  rintro e w1 ⟨rfl, rfl⟩
  go_wp2
  go_ret
  exact ⟨rfl, rfl⟩

theorem sign_any (a : Int) (w : World) :
    Calls Tryz.prog 207 #[.int .i32 a] w fun e w' => e = .returned (.int .i32 (signI a)) ∧ w' = w := by
  go_enter Tryz.func207, Tryz.ntmps207
  go_wp2_with fail
  refine (within32_any _ _ _ _).mono ?_
  rintro e w1 ⟨rfl, rfl⟩
  have hb : -1 ≤ clampI a (-1) 1 ∧ clampI a (-1) 1 ≤ 1 := by unfold clampI; omega
  go_wp2
  go_ret
  exact ⟨rfl, rfl⟩

theorem min_any (a b : Int) (w : World) :
    Calls Tryz.prog 201 #[.int .i32 a, .int .i32 b] w fun e w' => e = .returned (.int .i32 (min a b)) ∧ w' = w := by
  go_enter Tryz.func201, Tryz.ntmps201
  go_wp2
  all_goals go_ret
  all_goals refine ⟨?_, rfl⟩
  all_goals simp
  all_goals omega

theorem max_any (a b : Int) (w : World) :
    Calls Tryz.prog 202 #[.int .i32 a, .int .i32 b] w fun e w' => e = .returned (.int .i32 (max a b)) ∧ w' = w := by
  go_enter Tryz.func202, Tryz.ntmps202
  go_wp2
  all_goals go_ret
  all_goals refine ⟨?_, rfl⟩
  all_goals simp
  all_goals omega

theorem clamp_any (a b c : Int) (w : World) :
    Calls Tryz.prog 156 #[.int .i32 a, .int .i32 b, .int .i32 c] w fun e w' => e = .returned (.int .i32 (clampI a b c)) ∧ w' = w := by
  go_enter Tryz.func156, Tryz.ntmps156
  go_wp2_with fail
  refine (within32_any _ _ _ _).mono ?_
  rintro e w1 ⟨rfl, rfl⟩
  go_wp2
  go_ret
  exact ⟨rfl, rfl⟩

theorem mod_any (a b : Int) (w : World) (ha : I32 a) (hb : I32 b) :
    Calls Tryz.prog 203 #[.int .i32 a, .int .i32 b] w fun e w' => e = .returned (.int .i32 (modI a b)) ∧ w' = w := by
  go_enter Tryz.func203, Tryz.ntmps203
  unfold I32 at ha hb
  go_wp2_with fail
  refine (div_any _ _ _ ha hb).mono ?_
  rintro e w1 ⟨rfl, rfl⟩
  go_wp2_with fail
  refine (floor_any _ _ (divI_i32 a b)).mono ?_
  rintro e w1 ⟨rfl, rfl⟩
  go_wp2_with fail
  refine (mul_any _ _ _ hb (floorI_i32 (divI_i32 a b))).mono ?_
  rintro e w1 ⟨rfl, rfl⟩
  go_wp2_with fail
  refine (sub_any _ _ _ ha (mulI_i32 _ _)).mono ?_
  rintro e w1 ⟨rfl, rfl⟩
  go_wp2
  go_ret
  exact ⟨rfl, rfl⟩

end Go.Proofs.YtgmahpkhdnabjaaGreat

/-
  Vectors: 'each', for whatever function value it is handed: it answers the numbers that the function gives for the places 0 to n - 1, then 0; or ErrArg where n is not from 1 to 4.
-/
namespace Go.Proofs.YtgmahpkhdnabjaaGreat
open Go.RowKit

/-- The first n numbers of f, then 0. -/
def cut (n : Int) (f : Nat → Int) : Nat → Int := fun i => if (i : Int) < n then f i else 0

theorem cut_set (f : Nat → Int) (k : Nat) (hk : k < 4) : (#[.int .i32 (cut k f 0), .int .i32 (cut k f 1), .int .i32 (cut k f 2), .int .i32 (cut k f 3)] : Array Value).setIfInBounds k (.int .i32 (f k)) = #[.int .i32 (cut ((k : Int) + 1) f 0), .int .i32 (cut ((k : Int) + 1) f 1), .int .i32 (cut ((k : Int) + 1) f 2), .int .i32 (cut ((k : Int) + 1) f 3)] := by
  rcases (by omega : k = 0 ∨ k = 1 ∨ k = 2 ∨ k = 3) with rfl | rfl | rfl | rfl <;> simp [cut]
theorem cut_zero (f : Nat → Int) (i : Nat) : cut (0 : Nat) f i = 0 := by simp [cut]; omega
theorem cut_i32 {f : Nat → Int} {n : Int} (h : ∀ i, I32 (f i)) (i : Nat) : I32 (cut n f i) := by
  unfold cut
  split
  · exact h i
  · unfold I32; omega
theorem cut_congr {f g : Nat → Int} {n : Int} (h : ∀ i : Nat, (i : Int) < n → f i = g i) : cut n f = cut n g := by
  funext i
  unfold cut
  split
  · exact h i (by assumption)
  · rfl
theorem vec_at (f : Nat → Int) (k : Nat) (hk : k < 4) : (#[.int .i32 (f 0), .int .i32 (f 1), .int .i32 (f 2), .int .i32 (f 3)] : Array Value)[k]? = some (.int .i32 (f k)) := by
  rcases (by omega : k = 0 ∨ k = 1 ∨ k = 2 ∨ k = 3) with rfl | rfl | rfl | rfl <;> rfl



theorem Blk.free4 {w : World} {b : Nat} {cs : Array Value} {t : TypeId} (h : Blk w b cs t) : w.frozen? ⟨b, 0, none⟩ = false ∧ w.frozen? ⟨b, 1, none⟩ = false ∧ w.frozen? ⟨b, 2, none⟩ = false ∧ w.frozen? ⟨b, 3, none⟩ = false :=
  ⟨h.free 0, h.free 1, h.free 2, h.free 3⟩
theorem ext_set4 {w w1 : World} {b : Nat} {x0 x1 x2 x3 : Value} (h : Ext w w1) (hb : w.heap.size ≤ b) : Ext w ((((w1.setCell ⟨b, 0, none⟩ x0).setCell ⟨b, 1, none⟩ x1).setCell ⟨b, 2, none⟩ x2).setCell ⟨b, 3, none⟩ x3) :=
  ext_set (ext_set (ext_set (ext_set h hb) hb) hb) hb

/-- Four numbers laid into block b: what its cells hold, store by store. -/
theorem lay4 {w : World} {b : Nat} {a : Nat → Int} {t : TypeId} (h : Blk w b #[.int .i32 (a 0), .int .i32 (a 1), .int .i32 (a 2), .int .i32 (a 3)] t) (x0 x1 x2 x3 : Value) :
    (w.setCell ⟨b, 0, none⟩ x0).cell? ⟨b, 0, none⟩ = some x0 ∧ ((w.setCell ⟨b, 0, none⟩ x0).setCell ⟨b, 1, none⟩ x1).cell? ⟨b, 1, none⟩ = some x1 ∧
    (((w.setCell ⟨b, 0, none⟩ x0).setCell ⟨b, 1, none⟩ x1).setCell ⟨b, 2, none⟩ x2).cell? ⟨b, 2, none⟩ = some x2 ∧
    ((((w.setCell ⟨b, 0, none⟩ x0).setCell ⟨b, 1, none⟩ x1).setCell ⟨b, 2, none⟩ x2).setCell ⟨b, 3, none⟩ x3).cell? ⟨b, 3, none⟩ = some x3 :=
  ⟨(h.set 0 x0).cell rfl, ((h.set 0 x0).set 1 x1).cell rfl, (((h.set 0 x0).set 1 x1).set 2 x2).cell rfl, ((((h.set 0 x0).set 1 x1).set 2 x2).set 3 x3).cell rfl⟩

set_option maxHeartbeats 1000000 in
theorem each_any (n : Int) (g : FuncId) (lb : Array Value) (f : Nat → Int) (w : World) (h1 : 1 ≤ n) (h4 : n ≤ 4)
    (eg : ∀ args w, (callFunc g args).run Tryz.prog w = .ok (.enter g args) w)
    (hf : ∀ (i : Nat) (W : World), i < 4 → (i : Int) < n → Ext w W → Calls Tryz.prog g (#[.int .i64 i] ++ lb) W fun e w' => e = .returned (.int .i32 (f i)) ∧ Ext W w') :
    Calls Tryz.prog 124 #[.int .i64 n, .func (.func g) #[] lb] w fun e w' => e = .returned (.tuple #[.agg #[.int .i32 (cut n f 0), .int .i32 (cut n f 1), .int .i32 (cut n f 2), .int .i32 (cut n f 3)], .int .i64 0]) ∧ Ext w w' := by
  have HF := hide hf
  clear hf
  have B0 : Hid (Blk ((w.alloc (.cells #[.int .i32 0, .int .i32 0, .int .i32 0, .int .i32 0] 28)).alloc (.cells #[.int .i32 0, .int .i32 0, .int .i32 0, .int .i32 0] 28)) w.heap.size #[.int .i32 (nul 0), .int .i32 (nul 1), .int .i32 (nul 2), .int .i32 (nul 3)] 28) := (Blk.new w _ _).alloc _
  have B1 : Hid (Blk ((w.alloc (.cells #[.int .i32 0, .int .i32 0, .int .i32 0, .int .i32 0] 28)).alloc (.cells #[.int .i32 0, .int .i32 0, .int .i32 0, .int .i32 0] 28)) (w.heap.size + 1) #[.int .i32 (nul 0), .int .i32 (nul 1), .int .i32 (nul 2), .int .i32 (nul 3)] 28) := by
    have := Blk.new (w.alloc (.cells #[.int .i32 0, .int .i32 0, .int .i32 0, .int .i32 0] 28)) #[.int .i32 0, .int .i32 0, .int .i32 0, .int .i32 0] 28
    rwa [show (w.alloc (.cells #[.int .i32 0, .int .i32 0, .int .i32 0, .int .i32 0] 28)).heap.size = w.heap.size + 1 by simp] at this
  have d1 : decide (n < 1) = false := by simp; omega
  have d4 : decide (4 < n) = false := by simp; omega
  go_enter Tryz.func124, Tryz.ntmps124
  go_wp2
  go_loopw [16] (fun i wr => ∃ k : Nat, (k : Int) ≤ n ∧ i = .int .i64 k ∧ Blk wr w.heap.size #[.int .i32 (nul 0), .int .i32 (nul 1), .int .i32 (nul 2), .int .i32 (nul 3)] 28 ∧ Blk wr (w.heap.size + 1) #[.int .i32 (cut k f 0), .int .i32 (cut k f 1), .int .i32 (cut k f 2), .int .i32 (cut k f 3)] 28 ∧ Ext w wr) (fun i _ => n.toNat - (intOf i).toNat)
  case atStart => exact ⟨0, by omega, rfl, unhide B0, by simp only [cut_zero]; exact unhide B1, ((Ext.refl w).alloc _).alloc _⟩
  case round =>
    obtain ⟨k, hk, rfl, hb0, hb1, hx⟩ := hrel
    clear B0 B1
    have D := hide (And.intro hb0 (And.intro hb1 hx))
    clear hb0 hb1 hx
    by_cases hlt : (k : Int) < n
    · have hk4 : k < 4 := by omega
      go_wp2_with (go_at_fn g; refine (unhide HF k _ hk4 hlt (unhide D).2.2).mono ?_; rintro e w1 ⟨rfl, hx1⟩; have D1 := hide (And.intro ((unhide D).1.ext hx1) (And.intro ((unhide D).2.1.ext hx1) ((unhide D).2.2.trans hx1))); have c1 := (unhide D1).2.1.vec k hk4; have f1 := (unhide D1).2.1.free k; clear D hx1)
      go_roundw
      case rel =>
        refine ⟨k + 1, by omega, by go_num, (unhide D1).1.other k _ (by omega), ?_, ext_set (unhide D1).2.2 (by omega)⟩
        have := (unhide D1).2.1.set k (.int .i32 (f k))
        rw [cut_set f k hk4] at this
        exact this
      case measure => simp [intOf]; omega
    · have hkn : (k : Int) = n := by omega
      rw [hkn] at D
      have c0 := (unhide D).2.1.vec 0 (by omega)
      have c1 := (unhide D).2.1.vec 1 (by omega)
      have c2 := (unhide D).2.1.vec 2 (by omega)
      have c3 := (unhide D).2.1.vec 3 (by omega)
      have r0 := (unhide D).1.vec 0 (by omega)
      have r1 := (unhide D).1.vec 1 (by omega)
      have r2 := (unhide D).1.vec 2 (by omega)
      have r3 := (unhide D).1.vec 3 (by omega)
      have f0 := (unhide D).1.free 0
      have f1 := (unhide D).1.free 1
      have f2 := (unhide D).1.free 2
      have f3 := (unhide D).1.free 3
      clear hkn
      go_wp2
      obtain ⟨q0, q1, q2, q3⟩ := lay4 (unhide D).1 (.int .i32 (cut n f 0)) (.int .i32 (cut n f 1)) (.int .i32 (cut n f 2)) (.int .i32 (cut n f 3))
      refine bodyPost_ret (v := .tuple #[.agg #[.int .i32 (cut n f 0), .int .i32 (cut n f 1), .int .i32 (cut n f 2), .int .i32 (cut n f 3)], .int .i64 0]) (by simp [results, Tryz.results124, go_sem, q0, q1, q2, q3]) rfl ⟨rfl, ?_⟩
      exact ext_set (ext_set (ext_set (ext_set (unhide D).2.2 (Nat.le_refl _)) (Nat.le_refl _)) (Nat.le_refl _)) (Nat.le_refl _)

theorem each_bad (n : Int) (fv : Value) (w : World) (h : n < 1 ∨ 4 < n) :
    Calls Tryz.prog 124 #[.int .i64 n, fv] w fun e w' => e = .returned (.tuple #[.agg #[.int .i32 0, .int .i32 0, .int .i32 0, .int .i32 0], .int .i64 2]) ∧ Ext w w' := by
  go_enter Tryz.func124, Tryz.ntmps124
  by_cases h1 : n < 1
  · have d1 : decide (n < 1) = true := by simp; omega
    go_wp2
    refine bodyPost_ret (v := .tuple #[.agg #[.int .i32 0, .int .i32 0, .int .i32 0, .int .i32 0], .int .i64 2]) (by simp [results, Tryz.results124, go_sem]) rfl ⟨rfl, ?_⟩
    exact (Ext.refl w).alloc _
  · have d1 : decide (n < 1) = false := by simp; omega
    have d4 : decide (4 < n) = true := by simp; omega
    go_wp2
    refine bodyPost_ret (v := .tuple #[.agg #[.int .i32 0, .int .i32 0, .int .i32 0, .int .i32 0], .int .i64 2]) (by simp [results, Tryz.results124, go_sem]) rfl ⟨rfl, ?_⟩
    exact (Ext.refl w).alloc _
end Go.Proofs.YtgmahpkhdnabjaaGreat
